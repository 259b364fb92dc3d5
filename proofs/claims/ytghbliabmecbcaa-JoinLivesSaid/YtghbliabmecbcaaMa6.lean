/-
  Contracts and lemmas on which the proofs of this seat stand (several texts in one). Conditions are each theorem's own.
-/
import Derived.Test.YtghbliabmecbcaaMa1
import Derived.Test.YtghbliabmecbcaaMa5

/-
  Contracts of what the code of layer 15 asks of single parts. Conditions are each theorem's own.
-/
namespace Go.Proofs.Ytghbliabmecbcaa
open Go.RowKit Go.Shelf

theorem cells_at {w : World} {g i : Nat} {cs : Array Value} {ty : TypeId} {fr : Nat × Nat} {v : Value} (h : w.heap[g]? = some (.cells cs ty fr)) (hi : cs[i]? = some v) : w.cell? ⟨g, i, none⟩ = some v := by
  simp [World.cell?, h, hi]
set_option maxRecDepth 100000 in
theorem hcend (x : XP) (w : World) (h0 : 0 ≤ x.p.off) (h1 : x.p.stop ≤ 1000000) :
    Calls Try.prog 78 #[.agg (clP x).toArray] w fun e w' => e = .returned (.int .i64 x.p.stop) ∧ Below w.heap.size w w' := by
  have h2 : x.p.stop = x.p.off + (x.p.b.length : Int) := rfl
  rw [h2] at h1 ⊢
  have hB := Below.alloc (Below.refl w.heap.size w) (Nat.le_refl _) (.cells (clP x).toArray 128)
  unfold clP at hB ⊢
  go_enter Try.func78, Try.ntmps78
  go_wp2
  go_ret
  exact ⟨rfl, hB⟩
set_option maxRecDepth 100000 in
theorem hccheck (a n : Int) (m : Bool) (w : World) (h0 : 0 ≤ n) (h1 : n ≤ 1000000) (ha : -9223372036854775808 ≤ a ∧ a ≤ 9223372036854775807) :
    Calls Try.prog 75 #[.int .i64 a, .bool m, .int .i64 n] w fun e w' =>
      e = .returned (.int .i64 (if a < 0 ∨ (m = true ∧ (n = 0 ∨ n % 8 ≠ 0)) then 4 else if a > 65535 - n then 6 else 0)) ∧ w' = w := by
  generalize hR : (if a < 0 ∨ (m = true ∧ (n = 0 ∨ n % 8 ≠ 0)) then (4 : Int) else if a > 65535 - n then 6 else 0) = R
  have HR := Lib.hid hR
  clear hR
  go_enter Try.func75, Try.ntmps75
  by_cases c1 : a < 0
  · have d1 : decide (a < 0) = true := decide_eq_true c1
    cases m <;> (go_wp2; go_ret; exact ⟨by rw [← HR.out, if_pos (.inl c1)]; rfl, rfl⟩)
  · have d1 : decide (a < 0) = false := decide_eq_false c1
    cases m with
    | false =>
      by_cases c4 : a > 65535 - n
      · have d4 : decide (a > 65535 - n) = true := decide_eq_true c4
        have d4' : decide (65535 - n < a) = true := d4
        go_wp2
        go_ret
        exact ⟨by rw [← HR.out, if_neg (by rintro (h | ⟨h, _⟩); (first | exact c1 h | omega); cases h), if_pos c4]; rfl, rfl⟩
      · have d4 : decide (a > 65535 - n) = false := decide_eq_false c4
        have d4' : decide (65535 - n < a) = false := d4
        go_wp2
        go_ret
        exact ⟨by rw [← HR.out, if_neg (by rintro (h | ⟨h, _⟩); (first | exact c1 h | omega); cases h), if_neg (by omega)]; rfl, rfl⟩
    | true =>
      by_cases c2 : n = 0
      · have d2 : decide (n = 0) = true := decide_eq_true c2
        clear h0 h1
        subst c2
        go_wp2
        go_ret
        exact ⟨by rw [← HR.out, if_pos (.inr ⟨by trivial, .inl (by trivial)⟩)]; rfl, rfl⟩
      · have d2 : decide (n = 0) = false := decide_eq_false c2
        by_cases c3 : n % 8 = 0
        · have d3 : decide (n % 8 = 0) = true := decide_eq_true c3
          by_cases c4 : a > 65535 - n
          · have d4 : decide (a > 65535 - n) = true := decide_eq_true c4
            have d4' : decide (65535 - n < a) = true := d4
            go_wp2
            go_ret
            exact ⟨by rw [← HR.out, if_neg (by rintro (h | ⟨_, h | h⟩); (first | exact c1 h | omega); (first | exact c2 h | omega); exact h c3), if_pos c4]; rfl, rfl⟩
          · have d4 : decide (a > 65535 - n) = false := decide_eq_false c4
            have d4' : decide (65535 - n < a) = false := d4
            go_wp2
            go_ret
            exact ⟨by rw [← HR.out, if_neg (by rintro (h | ⟨_, h | h⟩); (first | exact c1 h | omega); (first | exact c2 h | omega); exact h c3), if_neg (by omega)]; rfl, rfl⟩
        · have d3 : decide (n % 8 = 0) = false := decide_eq_false c3
          go_wp2
          go_ret
          exact ⟨by rw [← HR.out, if_pos (.inr ⟨by trivial, .inr c3⟩)]; rfl, rfl⟩
set_option maxRecDepth 100000 in
theorem hcalike (p x : XP) (B B' : Nat) (w : World) (hp : Rd w B p.A p.p.b) (hx : Rd w B' x.A x.p.b) (hB : B ≤ w.heap.size) (hB' : B' ≤ w.heap.size) :
    Calls Try.prog 74 #[.agg (clP p).toArray, .agg (clP x).toArray] w fun e w' => e = .returned (.bool (alikeP p.p x.p)) ∧ Below w.heap.size w w' := by
  have hb0 := Below.alloc (Below.refl w.heap.size w) (Nat.le_refl _) (.cells (clP p).toArray 128)
  have hb := Below.alloc hb0 (by simp) (.cells (clP x).toArray 128)
  have hP := Lib.hid (hp.below (hb.mono hB))
  have hX := Lib.hid (hx.below (hb.mono hB'))
  clear hp hx
  rcases p with ⟨⟨a, m, b⟩, A, c⟩
  rcases x with ⟨⟨a', m', b'⟩, A', c'⟩
  by_cases c1 : a = a'
  · subst c1
    have hR : alikeP (Pc.mk a m b) (Pc.mk a m' b') = decide (b = b') := by simp [alikeP]
    rw [hR]
    clear hR
    simp only [clP] at hP hX hb0 hb ⊢
    go_enter Try.func74, Try.ntmps74
    go_wp2_with (go_at_call 18; refine (equal_any _ _ _ _ _ _ _ _ _ hP.out hX.out).mono ?_; rintro e w2 ⟨rfl, rfl⟩)
    go_ret
    exact ⟨rfl, hb⟩
  · have hR : alikeP (Pc.mk a m b) (Pc.mk a' m' b') = false := by simp [alikeP, c1]
    rw [hR]
    clear hR
    simp only [clP] at hP hX hb0 hb ⊢
    go_enter Try.func74, Try.ntmps74
    go_wp2
    go_ret
    exact ⟨rfl, hb⟩
theorem run_load_hp {o : Oper} {a : Act} {w : World} {x : Operand} {g i : Nat} {cs : List Value} (ho : o.op = .load 128 x) (hx : a.eval x = .pointer (some ⟨g, i, none⟩)) (hr : w.rangeAt g i cs) (hl : cs.length = 3) :
    (execOp a.eval o).run Try.prog w = .ok (.value (.agg cs.toArray)) w := by
  have h := run_loadVar_mid (P := Try.prog) w g i 128 cs _ hr Try.underlying128 rfl (by rw [hl]; kernel_rfl)
  unfold execOp
  simp only [ho, hx, Instr.loadAt, Instr.sureAddr, Sem.run_bind, Sem.run_pure, Result.andThen_ok, h]
set_option maxRecDepth 100000 in
theorem hcsame (p x : XP) (B B' : Nat) (w : World) (hp : Rd w B p.A p.p.b) (hx : Rd w B' x.A x.p.b) (hB : B ≤ w.heap.size) (hB' : B' ≤ w.heap.size) :
    Calls Try.prog 76 #[.agg (clP p).toArray, .agg (clP x).toArray] w fun e w' => e = .returned (.bool (decide (x.p = p.p))) ∧ Below w.heap.size w w' := by
  have hb0 := Below.alloc (Below.refl w.heap.size w) (Nat.le_refl _) (.cells (clP p).toArray 128)
  have hb := Below.alloc hb0 (by simp) (.cells (clP x).toArray 128)
  have hP := Lib.hid (hp.below (hb.mono hB))
  have hX := Lib.hid (hx.below (hb.mono hB'))
  have hz := hb.size
  clear hp hx
  rcases p with ⟨⟨a, m, b⟩, A, c⟩
  rcases x with ⟨⟨a', m', b'⟩, A', c'⟩
  by_cases c1 : m = m'
  · subst c1
    have hR : decide (Pc.mk a' m b' = Pc.mk a m b) = alikeP (Pc.mk a m b) (Pc.mk a' m b') := by
      rw [alikeP, Bool.eq_iff_iff]
      simp only [Bool.and_eq_true, decide_eq_true_eq, Pc.mk.injEq, beq_iff_eq]
      exact ⟨fun ⟨h1, _, h3⟩ => ⟨h1.symm, h3.symm⟩, fun ⟨h1, h3⟩ => ⟨h1.symm, by trivial, h3.symm⟩⟩
    rw [hR]
    clear hR
    have hcall := hcalike ⟨⟨a, m, b⟩, A, c⟩ ⟨⟨a', m, b'⟩, A', c'⟩ _ _ _ hP.out hX.out (by omega) (by omega)
    simp only [clP] at hcall hb0 hb ⊢
    go_enter Try.func76, Try.ntmps76
    go_wp2_with (go_at_call 74; refine hcall.mono ?_; rintro e w2 ⟨rfl, x2⟩)
    go_ret
    exact ⟨rfl, hb.trans (x2.mono hz)⟩
  · have hR : decide (Pc.mk a' m' b' = Pc.mk a m b) = false := by
      simp only [decide_eq_false_iff_not, Pc.mk.injEq]
      rintro ⟨_, h, _⟩
      exact c1 h.symm
    rw [hR]
    clear hR
    simp only [clP] at hP hX hb0 hb ⊢
    go_enter Try.func76, Try.ntmps76
    go_wp2
    go_ret
    exact ⟨rfl, hb⟩
end Go.Proofs.Ytghbliabmecbcaa

/-
  Contracts of meets, of the library's ContainsFunc at parts, of place and near of layer 15. Conditions are each theorem's own.
-/
namespace Go.Proofs.Ytghbliabmecbcaa
open Go.RowKit Go.Shelf
theorem min_if (a b : Int) : (if b < a then b else a) = min a b := by omega
set_option maxRecDepth 100000 in
theorem hcmeets (p x : XP) (w0 : World) (hp0 : 0 ≤ p.p.off) (hp1 : p.p.stop ≤ 1000000) (hx0 : 0 ≤ x.p.off) (hx1 : x.p.stop ≤ 1000000) :
    Calls Try.prog 77 #[.agg (clP p).toArray, .agg (clP x).toArray] w0 fun e w' => e = .returned (.bool (meetsP p.p x.p)) ∧ Below w0.heap.size w0 w' := by
  obtain ⟨W, hW⟩ : ∃ W, W = (w0.alloc (.cells (clP p).toArray 128)).alloc (.cells (clP x).toArray 128) := ⟨_, rfl⟩
  have hb : Below w0.heap.size w0 W := by rw [hW]; exact Below.alloc (Below.alloc (Below.refl w0.heap.size w0) (Nat.le_refl _) _) (by simp) _
  have hz : W.heap.size = w0.heap.size + 2 := by rw [hW]; simp
  have rp : W.rangeAt w0.heap.size 0 (clP p) := fun j v hj => by
    refine cells_at (cs := (clP p).toArray) (ty := 128) (fr := (0, 0)) ?_ (by rw [Nat.zero_add, List.getElem?_toArray]; exact hj)
    rw [hW]
    exact (Below.heap_alloc _ _ w0.heap.size (by simp)).trans (World.alloc_heap_new w0 _)
  have rx : W.rangeAt (w0.heap.size + 1) 0 (clP x) := fun j v hj => by
    refine cells_at (cs := (clP x).toArray) (ty := 128) (fr := (0, 0)) ?_ (by rw [Nat.zero_add, List.getElem?_toArray]; exact hj)
    rw [hW]
    have := World.alloc_heap_new (w0.alloc (.cells (clP p).toArray 128)) (.cells (clP x).toArray 128)
    rwa [show (w0.alloc (.cells (clP p).toArray 128)).heap.size = w0.heap.size + 1 by simp] at this
  have kp0 : W.cell? ⟨w0.heap.size, 0, none⟩ = some (.int .i64 p.p.off) := rp 0 _ rfl
  have kx0 : W.cell? ⟨w0.heap.size + 1, 0, none⟩ = some (.int .i64 x.p.off) := rx 0 _ rfl
  have MT : Hid (decide (max p.p.off x.p.off < min p.p.stop x.p.stop) = meetsP p.p x.p) := Lib.hid rfl
  go_enter Try.func77, Try.ntmps77
  go_upto_region 1 with fail
  rw [← hW]
  have hz2 : w0.heap.size + 1 < W.heap.size := by omega
  clear hW
  refine wp_region_held_drew (S := fun w' => Below W.heap.size W w') (by kernel_rfl) (Below.refl _ W).drew (fun hS => ?_)
  refine held_pure (i := 0) (oi := ⟨some 5, _, _, _, _, _⟩) rfl (by kernel_rfl) (by kernel_rfl) (by kernel_rfl) (fun _ _ _ h => h) (by rfl) (v := ?_) (fun w hSw => ?_) hS (fun hS => ?_)
  rotate_left
  · go_simp; try with_reducible rfl
  try go_frame
  refine held_pure (i := 1) (oi := ⟨some 6, _, _, _, _, _⟩) rfl (by kernel_rfl) (by kernel_rfl) (by kernel_rfl) (fun _ _ _ h => h) (by rfl) (fun w hSw => run_load_int rfl rfl ((hSw.cell (p := ⟨w0.heap.size, 0, none⟩) (by show w0.heap.size < _; omega)).trans kp0)) hS (fun hS => ?_)
  try go_frame
  refine held_pure (i := 2) (oi := ⟨some 7, _, _, _, _, _⟩) rfl (by kernel_rfl) (by kernel_rfl) (by kernel_rfl) (fun _ _ _ h => h) (by rfl) (v := ?_) (fun w hSw => ?_) hS (fun hS => ?_)
  rotate_left
  · go_simp; try with_reducible rfl
  try go_frame
  refine held_pure (i := 3) (oi := ⟨some 8, _, _, _, _, _⟩) rfl (by kernel_rfl) (by kernel_rfl) (by kernel_rfl) (fun _ _ _ h => h) (by rfl) (fun w hSw => run_load_int rfl rfl ((hSw.cell (p := ⟨w0.heap.size + 1, 0, none⟩) (by show w0.heap.size + 1 < _; omega)).trans kx0)) hS (fun hS => ?_)
  try go_frame
  refine held_pure (i := 4) (oi := ⟨some 9, _, _, _, _, _⟩) rfl (by kernel_rfl) (by kernel_rfl) (by kernel_rfl) (fun _ _ _ h => h) (by rfl) (v := .int .i64 (max p.p.off x.p.off)) (fun w hSw => by go_simp) hS (fun hS => ?_)
  try go_frame
  refine held_pure (i := 5) (oi := ⟨some 10, _, _, _, _, _⟩) rfl (by kernel_rfl) (by kernel_rfl) (by kernel_rfl) (fun _ _ _ h => h) (by rfl) (fun w hSw => run_load_hp rfl rfl (range_below rp (by omega) hSw) rfl) hS (fun hS => ?_)
  try go_frame
  refine held_pure (i := 7) (oi := ⟨some 12, _, _, _, _, _⟩) rfl (by kernel_rfl) (by kernel_rfl) (by kernel_rfl) (fun _ _ _ h => h) (by rfl) (fun w hSw => run_load_hp rfl rfl (range_below rx (by omega) hSw) rfl) hS (fun hS => ?_)
  try go_frame
  refine wpAnyH_ready (rs := [6]) (by kernel_rfl) (by simp) (AllReadyH.cons (o := ⟨some 11, _, _, _, _, _⟩) rfl (fun K hK => ?_) AllReadyH.nil)
  rw [if_pos (by rfl)]
  go_simp
  refine (hcend p _ hp0 hp1).mono ?_
  rintro e w6 ⟨rfl, x6⟩
  show K _ _
  refine hK.out _ _ (below_step hS x6) (fun hS => ?_)
  clear hK K
  try go_frame
  refine wpAnyH_ready (rs := [8]) (by kernel_rfl) (by simp) (AllReadyH.cons (o := ⟨some 13, _, _, _, _, _⟩) rfl (fun K hK => ?_) AllReadyH.nil)
  rw [if_pos (by rfl)]
  go_simp
  refine (hcend x _ hx0 hx1).mono ?_
  rintro e w8 ⟨rfl, x8⟩
  show K _ _
  refine hK.out _ _ (below_step hS x8) (fun hS => ?_)
  clear hK K
  try go_frame
  refine held_pure (i := 9) (oi := ⟨some 14, _, _, _, _, _⟩) rfl (by kernel_rfl) (by kernel_rfl) (by kernel_rfl) (fun _ _ _ h => h) (by rfl) (v := .int .i64 (min p.p.stop x.p.stop)) (fun w hSw => by go_simp; try exact min_if _ _) hS (fun hS => ?_)
  try go_frame
  refine held_pure (i := 10) (oi := ⟨some 15, _, _, _, _, _⟩) rfl (by kernel_rfl) (by kernel_rfl) (by kernel_rfl) (fun _ _ _ h => h) (by rfl) (v := .bool (meetsP p.p x.p)) (fun w hSw => by go_simp; exact MT.out) hS (fun hS => ?_)
  try go_frame
  refine held_pure (i := 11) (oi := ⟨some 4, _, _, _, _, _⟩) rfl (by kernel_rfl) (by kernel_rfl) (by kernel_rfl) (fun _ _ _ h => h) (by rfl) (v := ?_) (fun w hSw => ?_) hS (fun hS => ?_)
  rotate_left
  · go_simp; try with_reducible rfl
  try go_frame
  refine wpAnyH_done (by kernel_rfl) ?_ _
  go_wp2_with fail
  go_ret
  exact ⟨rfl, hb.trans (hS.mono (by omega))⟩

/-! ### ContainsFunc -/
theorem row_of {w : World} {B : Nat} {A : Option Addr} {l : List XP} (h : RdS clP 3 w B A l) {k : Nat} {x : XP} (hx : l[k]? = some x) : ∃ b o, A = some ⟨b, o, none⟩ ∧ b < B ∧ w.rangeAt b (o + k * 3) (clP x) := by
  obtain ⟨b, o, e, hb, hr⟩ := h (by have := (List.getElem?_eq_some_iff.1 hx).1; omega)
  exact ⟨b, o, e, hb, hr k x hx⟩
set_option maxRecDepth 100000 in
set_option maxHeartbeats 1000000 in
theorem hcindex (g : Nat) (bnd : Value) (f : XP → Bool) (A : Option Addr) (c : Nat) (l : List XP) (B : Nat) (w : World) (eg : ∀ args w, (callFunc g args).run Try.prog w = .ok (.enter g args) w)
    (hr : RdS clP 3 w B A l) (hB : B ≤ w.heap.size) (hl : l.length ≤ 100000)
    (hp : ∀ (W : World) (x : XP), x ∈ l → Below w.heap.size w W → Calls Try.prog g #[bnd, .agg (clP x).toArray] W fun e w' => e = .returned (.bool (f x)) ∧ Below w.heap.size w w') :
    Calls Try.prog 102 #[.slice A l.length c, .func (.func g) #[bnd] #[]] w fun e w' => (∃ k : Int, e = .returned (.int .i64 k) ∧ decide (0 ≤ k) = l.any f ∧ (-1 ≤ k ∧ k ≤ 100000)) ∧ Below w.heap.size w w' := by
  obtain ⟨n, hn⟩ : ∃ n, n = l.length := ⟨_, rfl⟩
  have HN := Lib.hid hn
  have HP := Lib.hid hp
  have HR := Lib.hid hr
  rw [← hn] at hl ⊢
  clear hn hp hr
  go_enter Try.func102, Try.ntmps102
  go_wp2
  go_loopw [5, 8] (fun _ s8 wr => ∃ kk : Nat, kk ≤ n ∧ s8 = .int .i64 kk ∧ Hid (l.any f = (l.drop kk).any f) ∧ Below w.heap.size w wr) (fun _ i _ => n - (intOf i).toNat)
  case atStart => exact ⟨0, Nat.zero_le _, rfl, Lib.hid rfl, Below.refl _ w⟩
  case round =>
    obtain ⟨kk, hkk, rfl, HE, hbel⟩ := hrel
    by_cases hlt : kk < n
    · obtain ⟨x, hx⟩ : ∃ x, l[kk]? = some x := ⟨_, List.getElem?_eq_getElem (by rw [← HN.out]; exact hlt)⟩
      have hcall := Lib.hid (HP.out wr x (List.mem_of_getElem? hx) hbel)
      obtain ⟨b1, o1, rfl, hb1, hr1⟩ := row_of HR.out hx
      have hrow := range_below hr1 hb1 (hbel.mono hB)
      have HXD : Hid (l.drop kk = x :: l.drop (kk + 1)) := Lib.hid (by
        have hk : kk < l.length := by rw [← HN.out]; exact hlt
        rw [List.drop_eq_getElem_cons hk]
        rw [List.getElem?_eq_getElem hk] at hx
        rw [Option.some.inj hx])
      clear hx hr1
      cases hq : f x with
      | true =>
        have HQ := Lib.hid hq
        clear hq
        go_wp2_with (first
          | ((with_reducible show wpList _ _ _ (Oper.mk _ (Op.load 128 _) _ _ _ _ :: _) _ _); refine wpList_val rfl (run_load_hp rfl rfl hrow rfl) ?_)
          | (go_at_fn g; refine hcall.out.mono ?_; rintro e w' ⟨rfl, hb'⟩; rw [HQ.out]))
        go_ret
        exact ⟨⟨kk, rfl, by rw [HE.out, HXD.out, List.any_cons, HQ.out, Bool.true_or]; exact decide_eq_true (by omega), by omega, by omega⟩, hb'⟩
      | false =>
        have HQ := Lib.hid hq
        clear hq
        go_wp2_with (first
          | ((with_reducible show wpList _ _ _ (Oper.mk _ (Op.load 128 _) _ _ _ _ :: _) _ _); refine wpList_val rfl (run_load_hp rfl rfl hrow rfl) ?_)
          | (go_at_fn g; refine hcall.out.mono ?_; rintro e w' ⟨rfl, hb'⟩; rw [HQ.out]))
        go_roundw
        case rel => exact ⟨kk + 1, by omega, by simp, Lib.hid (by rw [HE.out, HXD.out, List.any_cons, HQ.out, Bool.false_or]), hb'⟩
        case measure => simp [intOf]; omega
    · obtain rfl : n = kk := by omega
      go_wp2
      go_ret
      exact ⟨⟨-1, rfl, by rw [HE.out, List.drop_eq_nil_of_le (by rw [← HN.out]; exact Nat.le_refl _)]; rfl, by omega, by omega⟩, hbel⟩
set_option maxRecDepth 100000 in
theorem hccontains (g : Nat) (bnd : Value) (f : XP → Bool) (A : Option Addr) (c : Nat) (l : List XP) (B : Nat) (w : World) (eg : ∀ args w, (callFunc g args).run Try.prog w = .ok (.enter g args) w)
    (hr : RdS clP 3 w B A l) (hB : B ≤ w.heap.size) (hl : l.length ≤ 100000)
    (hp : ∀ (W : World) (x : XP), x ∈ l → Below w.heap.size w W → Calls Try.prog g #[bnd, .agg (clP x).toArray] W fun e w' => e = .returned (.bool (f x)) ∧ Below w.heap.size w w') :
    Calls Try.prog 72 #[.slice A l.length c, .func (.func g) #[bnd] #[]] w fun e w' => e = .returned (.bool (l.any f)) ∧ Below w.heap.size w w' := by
  have hcall := Lib.hid (hcindex g bnd f A c l B w eg hr hB hl hp)
  generalize hR : l.any f = R at hcall
  clear hp hr hR
  go_enter Try.func72, Try.ntmps72
  go_wp2_with (go_at_call 102; refine hcall.out.mono ?_; rintro e w' ⟨⟨k, rfl, hk, hk0, hk1⟩, hb'⟩; have HK := Lib.hid hk; clear hk)
  go_ret
  exact ⟨by rw [← HK.out]; rfl, hb'⟩
/-! ### Search -/
set_option maxRecDepth 100000 in
set_option maxHeartbeats 1000000 in
theorem hcsearch (g : Nat) (cb : Array Value) (n : Nat) (p : Nat → Bool) (w : World) (eg : ∀ args w, (callFunc g args).run Try.prog w = .ok (.enter g args) w) (hn : n ≤ 100000)
    (hf : ∀ (W : World) (i : Nat), i < n → Below w.heap.size w W → Calls Try.prog g (#[.int .i64 i] ++ cb) W fun e w' => e = .returned (.bool (p i)) ∧ Below w.heap.size w w')
    (hmono : ∀ a b, a ≤ b → b < n → p a = true → p b = true) :
    Calls Try.prog 116 #[.int .i64 n, .func (.func g) #[] cb] w fun e w' => (∃ m : Nat, e = .returned (.int .i64 m) ∧ m ≤ n ∧ (∀ t, t < m → p t = false) ∧ (∀ t, m ≤ t → t < n → p t = true)) ∧ Below w.heap.size w w' := by
  have HF := Lib.hid hf
  have M := Lib.hid hmono
  clear hf hmono
  go_enter Try.func116, Try.ntmps116
  go_wp2
  go_loopw [5, 6] (fun s5 s6 wr => ∃ (lo hi : Nat), s5 = .int .i64 lo ∧ s6 = .int .i64 hi ∧ lo ≤ hi ∧ hi ≤ n ∧ Hid ((∀ t, t < lo → p t = false) ∧ (∀ t, hi ≤ t → t < n → p t = true)) ∧ Below w.heap.size w wr)
    (fun a b _ => (intOf b).toNat - (intOf a).toNat)
  case atStart => exact ⟨0, n, rfl, rfl, Nat.zero_le _, Nat.le_refl _, Lib.hid ⟨fun t ht => absurd ht (Nat.not_lt_zero _), fun t h1 h2 => by omega⟩, Below.refl _ w⟩
  case round =>
    obtain ⟨lo, hi, rfl, rfl, hlh, hin, I, hbel⟩ := hrel
    by_cases hlt : lo < hi
    · have hc0 := HF.out wr ((lo + hi) / 2) (by omega) hbel
      rw [show (((lo + hi) / 2 : Nat) : Int) = ((lo : Int) + (hi : Int)) / 2 by omega] at hc0
      have hc := Lib.hid hc0
      clear hc0
      cases hp : p ((lo + hi) / 2) with
      | false =>
        have HP := Lib.hid hp
        clear hp
        go_wp2_with (go_at_fn g; refine hc.out.mono ?_; rintro e w' ⟨rfl, hb'⟩; rw [HP.out])
        go_roundw
        case rel =>
          exact ⟨(lo + hi) / 2 + 1, hi, by simp, rfl, by omega, hin, Lib.hid ⟨fun t ht => (by
            cases h : p t with
            | false => rfl
            | true => have := M.out t ((lo + hi) / 2) (by omega) (by omega) h; rw [HP.out] at this; cases this), I.out.2⟩, hb'⟩
        case measure => simp [intOf]; omega
      | true =>
        have HP := Lib.hid hp
        clear hp
        go_wp2_with (go_at_fn g; refine hc.out.mono ?_; rintro e w' ⟨rfl, hb'⟩; rw [HP.out])
        go_roundw
        case rel =>
          exact ⟨lo, (lo + hi) / 2, rfl, by simp, by omega, by omega, Lib.hid ⟨I.out.1, fun t h1 h2 => M.out ((lo + hi) / 2) t h1 h2 HP.out⟩, hb'⟩
        case measure => simp [intOf]; omega
    · obtain rfl : lo = hi := by omega
      go_wp2
      go_ret
      exact ⟨⟨lo, rfl, hin, I.out⟩, hbel⟩
end Go.Proofs.Ytghbliabmecbcaa

/-
  Parts that the code keeps, as they lie in memory; contracts of isMade, place and near of layer 15. Conditions are each theorem's own.
-/
namespace Go.Proofs.Ytghbliabmecbcaa
open Go.RowKit Go.Shelf
/-- At block g lies what the code of layer 15 keeps. -/
structure Hv (w : World) (g : Nat) (A : Option Addr) (c : Nat) (L : List XP) : Prop where
  made : w.cell? ⟨g, 0, none⟩ = some (.bool true)
  parts : w.cell? ⟨g, 1, none⟩ = some (.slice A L.length c)
  bytes : w.cell? ⟨g, 2, none⟩ = some (.int .i64 (bytesP (piE L)))
  far : w.cell? ⟨g, 3, none⟩ = some (.int .i64 (farP (piE L)))
  ended : w.cell? ⟨g, 4, none⟩ = some (.bool (endedP (piE L)))
  rd : RdS clP 3 w w.heap.size A L
  arg : ∀ x ∈ L, Arg w w.heap.size x.A x.c x.p.b
  cap : L.length ≤ c
  none_ : A = none → c = 0
  ris : Ris (piE L)
  n : L.length ≤ 100000
theorem Hv.lt {w : World} {g : Nat} {A : Option Addr} {c : Nat} {L : List XP} (h : Hv w g A c L) : g < w.heap.size := cell_block h.made
theorem Hv.below {w w' : World} {g : Nat} {A : Option Addr} {c : Nat} {L : List XP} (h : Hv w g A c L) (hb : Below w.heap.size w w') : Hv w' g A c L :=
  ⟨(hb.cell (p := ⟨g, 0, none⟩) h.lt).trans h.made, (hb.cell (p := ⟨g, 1, none⟩) h.lt).trans h.parts, (hb.cell (p := ⟨g, 2, none⟩) h.lt).trans h.bytes, (hb.cell (p := ⟨g, 3, none⟩) h.lt).trans h.far,
   (hb.cell (p := ⟨g, 4, none⟩) h.lt).trans h.ended, (h.rd.below hb).more hb.size, fun x hx => ((h.arg x hx).below hb).more hb.size, h.cap, h.none_, h.ris, h.n⟩
theorem run_load_hptr {o : Oper} {a : Act} {w : World} {x : Operand} {p : Addr} {A : Option Addr} (ho : o.op = .load 73 x) (hx : a.eval x = .pointer (some p)) (hc : w.cell? p = some (.pointer A)) :
    (execOp a.eval o).run Try.prog w = .ok (.value (.pointer A)) w := by
  unfold execOp
  simp only [ho, hx, Instr.loadAt, Instr.sureAddr, Sem.run_bind, Sem.run_pure, Result.andThen_ok]
  go_simp
theorem run_load_hps {o : Oper} {a : Act} {w : World} {x : Operand} {p : Addr} {A : Option Addr} {n c : Nat} (ho : o.op = .load 126 x) (hx : a.eval x = .pointer (some p)) (hc : w.cell? p = some (.slice A n c)) :
    (execOp a.eval o).run Try.prog w = .ok (.value (.slice A n c)) w := by
  unfold execOp
  simp only [ho, hx, Instr.loadAt, Instr.sureAddr, Sem.run_bind, Sem.run_pure, Result.andThen_ok]
  go_simp
/-- Where a slice of a slice of parts begins. -/
def cutQ (A : Option Addr) (c lo : Nat) : Option Addr := if c = lo then A else A.map (·.add (lo * 3))
theorem slice_hparts : Try.prog.underlying 126 = some (.slice (Try.prog.elem 126)) := by kernel_rfl
theorem sizeOf_hpart (w : World) : (Go.sizeOf (Try.prog.elem 126)).run Try.prog w = .ok 3 w := by
  rw [show Try.prog.elem 126 = 128 by kernel_rfl]
  go_simp
theorem run_pcut_lh {o : Oper} {a : Act} {w : World} {x lo hi : Operand} {A : Option Addr} {n c m : Nat} {l h : Int} (ho : o.op = .slice 126 x (some lo) (some hi) none) (hx : a.eval x = .slice A n c) (hl : a.eval lo = .int .i64 l) (hh : a.eval hi = .int .i64 h)
    (h0 : 0 ≤ l) (h1 : l ≤ h) (h2 : h ≤ (c : Int)) (hm : m = h.toNat - l.toNat) :
    (execOp a.eval o).run Try.prog w = .ok (.value (.slice (cutQ A c l.toNat) m (c - l.toNat))) w := by
  subst hm
  have h1 := run_slice_lh (P := Try.prog) (w := w) 126 A n c slice_hparts .i64 .i64 l h h0 h1 h2
  unfold execOp
  simp only [ho, hx, hl, hh, Option.map, Sem.run_bind, run_sliceAt_slice _ _ _ _ _ _ slice_hparts, h1, sizeOf_hpart, Result.andThen_ok]
  rfl
theorem run_pcut_l {o : Oper} {a : Act} {w : World} {x lo : Operand} {A : Option Addr} {n c l m : Nat} (ho : o.op = .slice 126 x (some lo) none none) (hx : a.eval x = .slice A n c) (hl : a.eval lo = .int .i64 (l : Int)) (hn : l ≤ n) (hm : m = n - l) :
    (execOp a.eval o).run Try.prog w = .ok (.value (.slice (cutQ A c l) m (c - l))) w := by
  subst hm
  have h1 := run_slice_l (P := Try.prog) (w := w) 126 A n c slice_hparts .i64 (l : Int) (by omega) (by omega)
  unfold execOp
  simp only [ho, hx, hl, Option.map, Sem.run_bind, run_sliceAt_slice _ _ _ _ _ _ slice_hparts, h1, sizeOf_hpart, Result.andThen_ok]
  rfl
theorem run_pcut_h {o : Oper} {a : Act} {w : World} {x hi : Operand} {A : Option Addr} {n c m : Nat} {h : Int} (ho : o.op = .slice 126 x none (some hi) none) (hx : a.eval x = .slice A n c) (hh : a.eval hi = .int .i64 h)
    (h0 : 0 ≤ h) (h2 : h ≤ (c : Int)) (hm : m = h.toNat) :
    (execOp a.eval o).run Try.prog w = .ok (.value (.slice A m c)) w := by
  subst hm
  have h1 := run_slice_h (P := Try.prog) (w := w) 126 A n c slice_hparts .i64 h h0 h2
  unfold execOp
  simp only [ho, hx, hh, Option.map, Sem.run_bind, run_sliceAt_slice _ _ _ _ _ _ slice_hparts, h1, sizeOf_hpart, Result.andThen_ok]
  cases A <;> simp [sliced, Addr.add]
theorem RdS.cutQ {w : World} {B : Nat} {A : Option Addr} {c : Nat} {l : List XP} (h : RdS clP 3 w B A l) (hc : l.length ≤ c) (lo k : Nat) : RdS clP 3 w B (cutQ A c lo) ((l.drop lo).take k) := by
  intro hn
  have hlo : lo < l.length := by simp at hn; omega
  obtain ⟨b, o, rfl, hb, hr⟩ := h (by omega)
  refine ⟨b, o + lo * 3, by simp [Go.Proofs.Ytghbliabmecbcaa.cutQ, show ¬ c = lo by omega, add_off], hb, fun j x hx => ?_⟩
  rw [List.getElem?_take] at hx
  split at hx
  · rw [List.getElem?_drop] at hx
    have := hr (lo + j) x hx
    rwa [Nat.add_mul, ← Nat.add_assoc] at this
  · cases hx
theorem hcmade_nil (w : World) : Calls Try.prog 71 #[.pointer none] w fun e w' => e = .returned (.bool false) ∧ w' = w := by
  go_enter Try.func71, Try.ntmps71
  go_wp2
  go_ret
  exact ⟨rfl, rfl⟩
theorem hcmade (g : Nat) (w : World) (h : w.cell? ⟨g, 0, none⟩ = some (.bool true)) : Calls Try.prog 71 #[.pointer (some ⟨g, 0, none⟩)] w fun e w' => e = .returned (.bool true) ∧ w' = w := by
  go_enter Try.func71, Try.ntmps71
  go_wp2
  go_ret
  exact ⟨rfl, rfl⟩
set_option maxRecDepth 100000 in
theorem hcclo (i u v g B : Nat) (off : Int) (A : Option Addr) (n c : Nat) (L : List XP) (x : XP) (W : World) (ku : W.cell? ⟨u, 0, none⟩ = some (.pointer (some ⟨g, 0, none⟩))) (kv : W.cell? ⟨v, 0, none⟩ = some (.int .i64 off))
    (kg : W.cell? ⟨g, 1, none⟩ = some (.slice A n c)) (hr : RdS clP 3 W B A L) (hB : B ≤ W.heap.size) (hx : L[i]? = some x) (hi : i < n) :
    Calls Try.prog 117 #[.int .i64 i, .pointer (some ⟨u, 0, none⟩), .pointer (some ⟨v, 0, none⟩)] W fun e w' => e = .returned (.bool (decide (x.p.off ≥ off))) ∧ Below W.heap.size W w' := by
  have hu := cell_block ku
  have hv := cell_block kv
  have hg := cell_block kg
  obtain ⟨b1, o1, rfl, hb, hrow⟩ := row_of hr hx
  have hb1 : b1 < W.heap.size := Nat.lt_of_lt_of_le hb hB
  have kx0 : W.cell? ⟨b1, o1 + i * 3, none⟩ = some (.int .i64 x.p.off) := by simpa using hrow 0 _ rfl
  clear hr hx hrow hb hB
  go_enter Try.func117, Try.ntmps117
  go_upto_region 1 with fail
  refine wp_region_held_drew (S := fun w' => Below W.heap.size W w') (by kernel_rfl) (Below.refl _ W).drew (fun hS => ?_)
  refine held_pure (i := 0) (oi := ⟨some 5, _, _, _, _, _⟩) rfl (by kernel_rfl) (by kernel_rfl) (by kernel_rfl) (fun _ _ _ h => h) (by rfl) (fun w hSw => run_load_hptr rfl rfl ((hSw.cell (p := ⟨u, 0, none⟩) hu).trans ku)) hS (fun hS => ?_)
  try go_frame
  refine held_pure (i := 1) (oi := ⟨some 6, _, _, _, _, _⟩) rfl (by kernel_rfl) (by kernel_rfl) (by kernel_rfl) (fun _ _ _ h => h) (by rfl) (v := ?_) (fun w hSw => ?_) hS (fun hS => ?_)
  rotate_left
  · go_simp; try with_reducible rfl
  try go_frame
  refine held_pure (i := 2) (oi := ⟨some 7, _, _, _, _, _⟩) rfl (by kernel_rfl) (by kernel_rfl) (by kernel_rfl) (fun _ _ _ h => h) (by rfl) (v := ?_) (fun w hSw => ?_) hS (fun hS => ?_)
  rotate_left
  · go_simp; try with_reducible rfl
  try go_frame
  refine held_pure (i := 3) (oi := ⟨some 8, _, _, _, _, _⟩) rfl (by kernel_rfl) (by kernel_rfl) (by kernel_rfl) (fun _ _ _ h => h) (by rfl) (fun w hSw => run_load_hps rfl rfl ((hSw.cell (p := ⟨g, 1, none⟩) hg).trans kg)) hS (fun hS => ?_)
  try go_frame
  refine held_pure (i := 4) (oi := ⟨some 9, _, _, _, _, _⟩) rfl (by kernel_rfl) (by kernel_rfl) (by kernel_rfl) (fun _ _ _ h => h) (by rfl) (v := ?_) (fun w hSw => ?_) hS (fun hS => ?_)
  rotate_left
  · go_simp; try with_reducible rfl
  try go_frame
  refine held_pure (i := 5) (oi := ⟨some 10, _, _, _, _, _⟩) rfl (by kernel_rfl) (by kernel_rfl) (by kernel_rfl) (fun _ _ _ h => h) (by rfl) (v := Value.pointer (some ⟨b1, o1 + i * 3, none⟩)) (fun w hSw => by go_simp; try (exact fun h => absurd h (by omega))) hS (fun hS => ?_)
  try go_frame
  refine held_pure (i := 6) (oi := ⟨some 11, _, _, _, _, _⟩) rfl (by kernel_rfl) (by kernel_rfl) (by kernel_rfl) (fun _ _ _ h => h) (by rfl) (v := Value.pointer (some ⟨b1, o1 + i * 3, none⟩)) (fun w hSw => by go_simp) hS (fun hS => ?_)
  try go_frame
  refine held_pure (i := 7) (oi := ⟨some 12, _, _, _, _, _⟩) rfl (by kernel_rfl) (by kernel_rfl) (by kernel_rfl) (fun _ _ _ h => h) (by rfl) (fun w hSw => run_load_int rfl rfl ((hSw.cell (p := ⟨b1, o1 + i * 3, none⟩) hb1).trans kx0)) hS (fun hS => ?_)
  try go_frame
  refine held_pure (i := 8) (oi := ⟨some 13, _, _, _, _, _⟩) rfl (by kernel_rfl) (by kernel_rfl) (by kernel_rfl) (fun _ _ _ h => h) (by rfl) (fun w hSw => run_load_int rfl rfl ((hSw.cell (p := ⟨v, 0, none⟩) hv).trans kv)) hS (fun hS => ?_)
  try go_frame
  refine held_pure (i := 9) (oi := ⟨some 14, _, _, _, _, _⟩) rfl (by kernel_rfl) (by kernel_rfl) (by kernel_rfl) (fun _ _ _ h => h) (by rfl) (v := .bool (decide (x.p.off ≥ off))) (fun w hSw => by go_simp) hS (fun hS => ?_)
  try go_frame
  refine held_pure (i := 10) (oi := ⟨some 4, _, _, _, _, _⟩) rfl (by kernel_rfl) (by kernel_rfl) (by kernel_rfl) (fun _ _ _ h => h) (by rfl) (v := ?_) (fun w hSw => ?_) hS (fun hS => ?_)
  rotate_left
  · go_simp; try with_reducible rfl
  try go_frame
  refine wpAnyH_done (by kernel_rfl) ?_ _
  go_wp2_with fail
  go_ret
  exact ⟨rfl, hS⟩
theorem at_unique {L : List XP} (h : Ris (piE L)) (off : Int) {m : Nat} (hm : m ≤ L.length) (h1 : ∀ (t : Nat) (x : XP), t < m → L[t]? = some x → ¬ x.p.off ≥ off) (h2 : ∀ (t : Nat) (x : XP), m ≤ t → L[t]? = some x → x.p.off ≥ off) : m = atP (piE L) off := by
  have hl : (piE L).length = L.length := by simp [piE]
  have ha := atP_le (piE L) off
  have get : ∀ (t : Nat) (x : XP), L[t]? = some x → (piE L)[t]? = some x.p := fun t x hx => by rw [piE, List.getElem?_map, hx]; rfl
  rcases Nat.lt_trichotomy m (atP (piE L) off) with g | g | g
  · obtain ⟨x, hx⟩ : ∃ x, L[m]? = some x := ⟨_, List.getElem?_eq_getElem (by omega)⟩
    have := h2 m x (Nat.le_refl _) hx
    have := (at_lt h off (get m x hx)).1 g
    omega
  · exact g
  · obtain ⟨x, hx⟩ : ∃ x, L[atP (piE L) off]? = some x := ⟨_, List.getElem?_eq_getElem (by omega)⟩
    have := h1 _ x g hx
    have := (at_lt h off (get _ x hx)).2 (Nat.le_refl _)
    omega
set_option maxRecDepth 100000 in
theorem hcplace (g : Nat) (off : Int) (A : Option Addr) (c : Nat) (L : List XP) (w : World) (h : Hv w g A c L) :
    Calls Try.prog 103 #[.pointer (some ⟨g, 0, none⟩), .int .i64 off] w fun e w' => e = .returned (.int .i64 (atP (piE L) off : Nat)) ∧ Below w.heap.size w w' := by
  obtain ⟨W, hW⟩ : ∃ W, W = (w.alloc (.cells #[.pointer (some ⟨g, 0, none⟩)] 73)).alloc (.cells #[.int .i64 off] 3) := ⟨_, rfl⟩
  have hb : Below w.heap.size w W := by rw [hW]; exact ((Below.refl w.heap.size w).alloc (Nat.le_refl _) _).alloc (by simp) _
  have hH := h.below hb
  have ku : W.cell? ⟨w.heap.size, 0, none⟩ = some (.pointer (some ⟨g, 0, none⟩)) := by
    have e : Boxed W w.heap.size 73 (.pointer (some ⟨g, 0, none⟩)) := by
      rw [hW]
      exact (Below.heap_alloc _ _ w.heap.size (by simp)).trans (World.alloc_heap_new w _)
    exact e.cell
  have kv : W.cell? ⟨w.heap.size + 1, 0, none⟩ = some (.int .i64 off) := by
    have e : Boxed W (w.heap.size + 1) 3 (.int .i64 off) := by
      rw [hW]
      have := World.alloc_heap_new (w.alloc (.cells #[.pointer (some ⟨g, 0, none⟩)] 73)) (.cells #[.int .i64 off] 3)
      rwa [show (w.alloc (.cells #[.pointer (some ⟨g, 0, none⟩)] 73)).heap.size = w.heap.size + 1 by simp] at this
    exact e.cell
  have kg := hH.parts
  have kl : g < w.heap.size := h.lt
  have eg : ∀ args w, (callFunc 117 args).run Try.prog w = .ok (.enter 117 args) w := enters_of Try.func117 (by kernel_rfl) rfl
  have hsr := hcsearch 117 #[.pointer (some ⟨w.heap.size, 0, none⟩), .pointer (some ⟨w.heap.size + 1, 0, none⟩)] L.length (fun t => decide ((L[t]?.map fun x => x.p.off).getD 0 ≥ off)) W eg hH.n
    (fun V i hi hV => by
      obtain ⟨x, hx⟩ : ∃ x, L[i]? = some x := ⟨_, List.getElem?_eq_getElem hi⟩
      have := hcclo i w.heap.size (w.heap.size + 1) g W.heap.size off A L.length c L x V ((hV.cell (p := ⟨w.heap.size, 0, none⟩) (cell_block ku)).trans ku) ((hV.cell (p := ⟨w.heap.size + 1, 0, none⟩) (cell_block kv)).trans kv)
        ((hV.cell (p := ⟨g, 1, none⟩) hH.lt).trans kg) (hH.rd.below hV) hV.size hx hi
      rw [hx]
      exact this.mono fun e w' ⟨h1, h2⟩ => ⟨h1, hV.trans (h2.mono hV.size)⟩)
    (fun a b hab hb2 hpa => by
      obtain ⟨x, hx⟩ : ∃ x, L[a]? = some x := ⟨_, List.getElem?_eq_getElem (by omega)⟩
      obtain ⟨y, hy⟩ : ∃ y, L[b]? = some y := ⟨_, List.getElem?_eq_getElem (by omega)⟩
      rw [hx] at hpa
      rw [hy]
      simp only [Option.map_some, Option.getD_some, decide_eq_true_eq] at hpa ⊢
      rcases Nat.lt_or_ge a b with g1 | g1
      · have := (idx_rel hH.ris g1 (show (piE L)[a]? = some x.p by rw [piE, List.getElem?_map, hx]; rfl) (show (piE L)[b]? = some y.p by rw [piE, List.getElem?_map, hy]; rfl)).2.1
        omega
      · obtain rfl : a = b := by omega
        rw [hx] at hy
        rw [← Option.some.inj hy]; exact hpa)
  have HS := Lib.hid hsr
  have HH := Lib.hid hH
  clear hsr hH h
  generalize hN : atP (piE L) off = N
  have HN := Lib.hid hN
  clear hN
  obtain ⟨n, hn⟩ : ∃ n, n = L.length := ⟨_, rfl⟩
  rw [← hn] at kg HS
  have HNn := Lib.hid hn
  clear hn
  go_enter Try.func103, Try.ntmps103
  go_upto_region 1 with fail
  rw [← hW]
  clear hW
  go_wp2_with (go_at_call 116; refine HS.out.mono ?_; rintro e w' ⟨⟨m, rfl, m1, m2, m3⟩, hb'⟩; have M2 := Lib.hid m2; have M3 := Lib.hid m3; clear m2 m3)
  go_ret
  refine ⟨?_, hb.trans (hb'.mono hb.size)⟩
  rw [← HN.out, ← at_unique HH.out.ris off (m := m) (by rw [← HNn.out]; exact m1) (fun t x ht hx => by have := M2.out t ht; rw [hx] at this; simpa using this) (fun t x ht hx => by
    have := M3.out t ht (by rw [HNn.out]; exact (List.getElem?_eq_some_iff.1 hx).1)
    rw [hx] at this; simpa using this)]
  rfl
/-- The parts on both sides of a place, with where they lie. -/
def nearX (L : List XP) (off : Int) : List XP := (L.drop (atP (piE L) off - 1)).take (min (atP (piE L) off + 1) L.length - (atP (piE L) off - 1))
theorem nearX_p (L : List XP) (off : Int) : piE (nearX L off) = nearP (piE L) off := by
  simp only [nearX, nearP, piE, List.map_take, List.map_drop, List.length_map]
theorem nearX_sub {L : List XP} {off : Int} : ∀ x ∈ nearX L off, x ∈ L := fun _ hx => List.mem_of_mem_drop (List.mem_of_mem_take hx)
theorem nearX_len (L : List XP) (off : Int) : (nearX L off).length = min (atP (piE L) off + 1) L.length - (atP (piE L) off - 1) := by
  have := atP_le (piE L) off
  have hl : (piE L).length = L.length := by simp [piE]
  rw [nearX, List.length_take, List.length_drop]; omega
set_option maxRecDepth 100000 in
theorem hcnear (g : Nat) (off : Int) (A : Option Addr) (c : Nat) (L : List XP) (w : World) (h : Hv w g A c L) :
    Calls Try.prog 73 #[.pointer (some ⟨g, 0, none⟩), .int .i64 off] w fun e w' => (∃ A' c', e = .returned (.slice A' (nearX L off).length c') ∧ RdS clP 3 w' w.heap.size A' (nearX L off)) ∧ Below w.heap.size w w' := by
  have hp := Lib.hid (hcplace g off A c L w h)
  obtain ⟨n, hn⟩ : ∃ n, n = L.length := ⟨_, rfl⟩
  have hn1 : n ≤ 100000 := by rw [hn]; exact h.n
  have hn2 : n ≤ c := by rw [hn]; exact h.cap
  have HNn := Lib.hid hn
  have hlen := nearX_len L off
  have hle := atP_le (piE L) off
  have hl : (piE L).length = L.length := by simp [piE]
  rw [hl] at hle
  have hrd : RdS clP 3 w w.heap.size (cutQ A c (atP (piE L) off - 1)) (nearX L off) := h.rd.cutQ h.cap _ _
  obtain ⟨m, hm⟩ : ∃ m, m = atP (piE L) off := ⟨_, rfl⟩
  have HM := Lib.hid hm
  rw [← hm] at hp hlen hle hrd
  rw [← hn] at hlen hle
  have HH := Lib.hid h
  have HR := Lib.hid hrd
  have HLn := Lib.hid hlen
  have HW1 : Hid (IntKind.i64.wrap ((m : Int) - 1) = (m : Int) - 1) := Lib.hid (IntWalk.i64_in _ (by omega))
  have HW2 : Hid (IntKind.i64.wrap ((m : Int) + 1) = (m : Int) + 1) := Lib.hid (IntWalk.i64_in _ (by omega))
  clear hn h hlen hrd hm hl
  go_enter Try.func73, Try.ntmps73
  go_upto_region 2 with (go_at_call 103; refine hp.out.mono ?_; rintro e W ⟨rfl, hb⟩)
  have hg : g < W.heap.size := Nat.lt_of_lt_of_le HH.out.lt hb.size
  have kg : W.cell? ⟨g, 1, none⟩ = some (.slice A n c) := by rw [HNn.out]; exact (hb.cell (p := ⟨g, 1, none⟩) HH.out.lt).trans HH.out.parts
  refine wp_region_held_drew (S := fun w' => Below W.heap.size W w') (by kernel_rfl) (Below.refl _ W).drew (fun hS => ?_)
  refine held_pure (i := 0) (oi := ⟨some 9, _, _, _, _, _⟩) rfl (by kernel_rfl) (by kernel_rfl) (by kernel_rfl) (fun _ _ _ h => h) (by rfl) (v := ?_) (fun w hSw => ?_) hS (fun hS => ?_)
  rotate_left
  · go_simp; try with_reducible rfl
  try go_frame
  refine held_pure (i := 1) (oi := ⟨some 10, _, _, _, _, _⟩) rfl (by kernel_rfl) (by kernel_rfl) (by kernel_rfl) (fun _ _ _ h => h) (by rfl) (v := ?_) (fun w hSw => ?_) hS (fun hS => ?_)
  rotate_left
  · go_simp; try with_reducible rfl
  try go_frame
  refine held_pure (i := 2) (oi := ⟨some 11, _, _, _, _, _⟩) rfl (by kernel_rfl) (by kernel_rfl) (by kernel_rfl) (fun _ _ _ h => h) (by rfl) (v := ?_) (fun w hSw => ?_) hS (fun hS => ?_)
  rotate_left
  · go_simp; try with_reducible rfl
  try go_frame
  refine held_pure (i := 3) (oi := ⟨some 12, _, _, _, _, _⟩) rfl (by kernel_rfl) (by kernel_rfl) (by kernel_rfl) (fun _ _ _ h => h) (by rfl) (fun w hSw => run_load_hps rfl rfl ((hSw.cell (p := ⟨g, 1, none⟩) hg).trans kg)) hS (fun hS => ?_)
  try go_frame
  refine held_pure (i := 4) (oi := ⟨some 13, _, _, _, _, _⟩) rfl (by kernel_rfl) (by kernel_rfl) (by kernel_rfl) (fun _ _ _ h => h) (by rfl) (v := ?_) (fun w hSw => ?_) hS (fun hS => ?_)
  rotate_left
  · go_simp; try with_reducible rfl
  try go_frame
  refine held_pure (i := 5) (oi := ⟨some 14, _, _, _, _, _⟩) rfl (by kernel_rfl) (by kernel_rfl) (by kernel_rfl) (fun _ _ _ h => h) (by rfl) (v := .int .i64 ((m : Int) - 1)) (fun w hSw => by go_simp; try exact HW1.out) hS (fun hS => ?_)
  try go_frame
  refine held_pure (i := 6) (oi := ⟨some 15, _, _, _, _, _⟩) rfl (by kernel_rfl) (by kernel_rfl) (by kernel_rfl) (fun _ _ _ h => h) (by rfl) (v := .int .i64 (max ((m : Int) - 1) 0)) (fun w hSw => by go_simp) hS (fun hS => ?_)
  try go_frame
  refine held_pure (i := 7) (oi := ⟨some 16, _, _, _, _, _⟩) rfl (by kernel_rfl) (by kernel_rfl) (by kernel_rfl) (fun _ _ _ h => h) (by rfl) (v := ?_) (fun w hSw => ?_) hS (fun hS => ?_)
  rotate_left
  · go_simp; try with_reducible rfl
  try go_frame
  refine held_pure (i := 8) (oi := ⟨some 17, _, _, _, _, _⟩) rfl (by kernel_rfl) (by kernel_rfl) (by kernel_rfl) (fun _ _ _ h => h) (by rfl) (v := .int .i64 ((m : Int) + 1)) (fun w hSw => by go_simp; try exact HW2.out) hS (fun hS => ?_)
  try go_frame
  refine held_pure (i := 9) (oi := ⟨some 18, _, _, _, _, _⟩) rfl (by kernel_rfl) (by kernel_rfl) (by kernel_rfl) (fun _ _ _ h => h) (by rfl) (v := ?_) (fun w hSw => ?_) hS (fun hS => ?_)
  rotate_left
  · go_simp; try with_reducible rfl
  try go_frame
  refine held_pure (i := 10) (oi := ⟨some 19, _, _, _, _, _⟩) rfl (by kernel_rfl) (by kernel_rfl) (by kernel_rfl) (fun _ _ _ h => h) (by rfl) (v := ?_) (fun w hSw => ?_) hS (fun hS => ?_)
  rotate_left
  · go_simp; try with_reducible rfl
  try go_frame
  refine held_pure (i := 11) (oi := ⟨some 20, _, _, _, _, _⟩) rfl (by kernel_rfl) (by kernel_rfl) (by kernel_rfl) (fun _ _ _ h => h) (by rfl) (v := ?_) (fun w hSw => ?_) hS (fun hS => ?_)
  rotate_left
  · go_simp; try with_reducible rfl
  try go_frame
  refine held_pure (i := 12) (oi := ⟨some 21, _, _, _, _, _⟩) rfl (by kernel_rfl) (by kernel_rfl) (by kernel_rfl) (fun _ _ _ h => h) (by rfl) (fun w hSw => run_load_hps rfl rfl ((hSw.cell (p := ⟨g, 1, none⟩) hg).trans kg)) hS (fun hS => ?_)
  try go_frame
  refine held_pure (i := 13) (oi := ⟨some 22, _, _, _, _, _⟩) rfl (by kernel_rfl) (by kernel_rfl) (by kernel_rfl) (fun _ _ _ h => h) (by rfl) (v := ?_) (fun w hSw => ?_) hS (fun hS => ?_)
  rotate_left
  · go_simp; try with_reducible rfl
  try go_frame
  refine held_pure (i := 14) (oi := ⟨some 23, _, _, _, _, _⟩) rfl (by kernel_rfl) (by kernel_rfl) (by kernel_rfl) (fun _ _ _ h => h) (by rfl) (v := .int .i64 (min ((m : Int) + 1) (n : Int))) (fun w hSw => by go_simp; try exact min_if _ _) hS (fun hS => ?_)
  try go_frame
  refine held_pure (i := 15) (oi := ⟨some 24, _, _, _, _, _⟩) rfl (by kernel_rfl) (by kernel_rfl) (by kernel_rfl) (fun _ _ _ h => h) (by rfl) (fun w hSw => run_pcut_lh rfl rfl rfl rfl (by omega) (by omega) (by omega) rfl) hS (fun hS => ?_)
  try go_frame
  refine held_pure (i := 16) (oi := ⟨some 4, _, _, _, _, _⟩) rfl (by kernel_rfl) (by kernel_rfl) (by kernel_rfl) (fun _ _ _ h => h) (by rfl) (v := ?_) (fun w hSw => ?_) hS (fun hS => ?_)
  rotate_left
  · go_simp; try with_reducible rfl
  try go_frame
  refine wpAnyH_done (by kernel_rfl) ?_ _
  go_wp2_with fail
  go_ret
  have hbS := hb.trans (hS.mono hb.size)
  have E1 : (max ((m : Int) - 1) 0).toNat = m - 1 := by omega
  have E2 : (min ((m : Int) + 1) (n : Int)).toNat - (m - 1) = (nearX L off).length := by rw [HLn.out]; omega
  refine ⟨⟨cutQ A c (m - 1), c - (m - 1), ?_, HR.out.below hbS⟩, hbS⟩
  show Ending.returned (Value.slice (cutQ A c (max ((m : Int) - 1) 0).toNat) ((min ((m : Int) + 1) (n : Int)).toNat - (max ((m : Int) - 1) 0).toNat) (c - (max ((m : Int) - 1) 0).toNat)) = _
  rw [E1, E2]
end Go.Proofs.Ytghbliabmecbcaa

/-
  Contracts of the document's Room and Add of layer 15. Conditions are each theorem's own.
-/
namespace Go.Proofs.Ytghbliabmecbcaa
open Go.RowKit Go.Shelf

set_option maxRecDepth 100000 in
set_option maxHeartbeats 1000000 in
theorem r15room (A : Option Addr) (c : Nat) (l : List XP) (B g o : Nat) (a : Int) (A' : Option Addr) (b : List UInt8) (c' : Nat) (w : World) (h : Ho w B g o A c l) (hB : B ≤ w.heap.size) (hA' : Rd w w.heap.size A' b) :
    Calls Try.prog 46 #[.pointer (some ⟨g, o, none⟩), .int .i64 a, .slice A' b.length c'] w fun e w' => e = .returned (.int .i64 (roomP (piE l) a b)) ∧ Below w.heap.size w w' := by
  have hH := Lib.hid h
  have hA := Lib.hid hA'
  clear h hA'
  go_enter Try.func46, Try.ntmps46
  cases s1 : sameP (piE l) ⟨a, true, b⟩ with
  | true =>
    go_wp2_with (go_at_call 81; refine (r15same A c l B g o a true A' b c' w hH.out hB hA.out).mono ?_; rintro e w1 ⟨rfl, x1⟩; rw [s1])
    go_ret
    exact ⟨by rw [roomP, s1]; rfl, x1⟩
  | false =>
    cases s2 : sameP (piE l) ⟨a, false, b⟩ with
    | true =>
      go_wp2_with (first
        | (go_at_call 81; refine (r15same A c l B g o a false A' b c' w1 (hH.out.below (x1.mono hB)) (Nat.le_trans hB x1.size) ((hA.out.below x1).more x1.size)).mono ?_; rintro e w2 ⟨rfl, x2⟩; rw [s2])
        | (go_at_call 81; refine (r15same A c l B g o a true A' b c' w hH.out hB hA.out).mono ?_; rintro e w1 ⟨rfl, x1⟩; rw [s1]))
      go_ret
      exact ⟨by rw [roomP, s1, s2]; rfl, x1.trans (x2.mono x1.size)⟩
    | false =>
      go_wp2_with (first
        | (go_at_call 81; refine (r15same A c l B g o a false A' b c' w1 (hH.out.below (x1.mono hB)) (Nat.le_trans hB x1.size) ((hA.out.below x1).more x1.size)).mono ?_; rintro e w2 ⟨rfl, x2⟩; rw [s2])
        | (go_at_call 81; refine (r15same A c l B g o a true A' b c' w hH.out hB hA.out).mono ?_; rintro e w1 ⟨rfl, x1⟩; rw [s1]))
      go_ret
      exact ⟨by rw [roomP, s1, s2]; rfl, x1.trans (x2.mono x1.size)⟩
theorem clP_ones (x : XP) : ∀ u ∈ clP x, u.oneCell' = true := by
  intro u hu
  simp only [clP, List.mem_cons, List.not_mem_nil, or_false] at hu
  rcases hu with rfl | rfl | rfl <;> rfl
theorem info_pc : (Try.prog.info? 142).map (fun i => (i.zero, i.size, i.bytes)) = some (some (.agg #[.int .i64 0, .bool false, .slice none 0 0]), 3, 40) := by kernel_rfl
theorem flat3 (l : List XP) : (l.flatMap clP).length = l.length * 3 := flat_len l (fun _ _ => rfl)
set_option maxRecDepth 100000 in
/-- append onto a row of parts of the call's own, of a source that reads as parts. -/
theorem append_pcs {w : World} {ops : Array Oper} {rest : List Oper} {o : Oper} {a : Act} {Q : Exit → Act → World → Prop} (hgd : o.guard = none) (s x : Operand)
    (ho : o.op = .call { callee := .builtin .append, args := #[s, x], argTypes := #[78, 78] })
    (base : Nat) (v : Value) (n : Nat) (xs : List Value) (hs : a.eval s = v) (hown : w.ownsRow base 142 3 v n xs)
    (B : Nat) (A : Option Addr) (m c : Nat) (l : List XP) (hx : a.eval x = .slice A m c) (hm : m = l.length) (hA : A = none → c = 0) (hr : RdS clP 3 w B A l)
    (hlen : n + m ≤ 1000000) (hbase : base ≤ w.heap.size)
    (h : ∀ v' w', w'.ownsRow base 142 3 v' (n + m) (xs ++ l.flatMap clP) → w.grownBy w' v.ownBlock → wpList Try.prog ops Q rest (a.put o.dst v') w') : wpList Try.prog ops Q (o :: rest) a w := by
  obtain ⟨i0, hi, hz0, hz1, hz2⟩ := info_parts info_pc
  subst hm
  rcases A with _ | ad
  · have h0 : l = [] := by
      rcases Nat.eq_zero_or_pos l.length with e | e
      · exact List.eq_nil_of_length_eq_zero e
      · obtain ⟨_, _, e', _⟩ := hr e; cases e'
    subst h0
    obtain rfl := hA rfl
    exact wpList_append_own_none hgd s x 78 ho base 142 i0 3 Try.underlying78 hi v n xs hs hown hx (h v w (by simpa using hown) (World.grownBy.refl w _))
  · refine wpList_append_own w hgd s x 78 ho base 142 i0 (.agg #[.int .i64 0, .bool false, .slice none 0 0]) 3 40 Try.underlying78 hi hz0 hz1 hz2 rfl (by decide) v n xs hs hown ad l.length c (l.flatMap clP) hx
      (flat3 l) (fun j u hj => ?_) (fun u hu => ?_) (by unfold maxLen; omega) (by omega) hbase (fun v' w' h1 h2 _ => h v' w' h1 h2)
    · have hj3 : j < l.length * 3 := by have := (List.getElem?_eq_some_iff.1 hj).1; rwa [flat3] at this
      obtain ⟨b, off, e, _, hc⟩ := hr (by omega)
      injection e with e
      subst e
      have hk : j / 3 < l.length := by omega
      obtain ⟨y, hy⟩ : ∃ y, l[j / 3]? = some y := ⟨_, List.getElem?_eq_getElem hk⟩
      have hlt : j % 3 < (clP y).length := by show j % 3 < 3; omega
      have hv : (clP y)[j % 3]? = some (clP y)[j % 3] := List.getElem?_eq_getElem hlt
      have h1 := flat_at l (fun _ _ => rfl) (sz := 3) (j / 3) y hy (j % 3) _ hv
      rw [show j / 3 * 3 + j % 3 = j by omega, hj] at h1
      have h2 := hc (j / 3) y hy (j % 3) _ hv
      rw [add_off, show off + j = off + j / 3 * 3 + j % 3 by omega, h2]
      exact h1.symm
    · obtain ⟨y, _, hy⟩ := List.mem_flatMap.1 hu
      exact clP_ones y u hy
theorem run_bsp {o : Oper} {a : Act} {w : World} {x : Operand} {cs : Array Value} (ho : o.op = .buildSlice 78 1 #[(0, x)]) (hx : a.eval x = .agg cs) (hl : cs.size = 3) :
    (execOp a.eval o).run Try.prog w = .ok (.value (.slice (some ⟨w.heap.size, 0, none⟩) 1 1)) (w.alloc (.cells cs 142)) := by
  obtain ⟨i0, hi, hz0, hz1, hz2⟩ := info_parts info_pc
  have h := run_lit1 (P := Try.prog) w 78 142 i0 (.agg #[.int .i64 0, .bool false, .slice none 0 0]) cs 3 Try.underlying78 hi hz0 hz1 hl (by decide) (by decide)
  unfold execOp
  simp only [ho, List.map_toArray, List.map_cons, List.map_nil, hx, Sem.run_bind, h, Result.andThen_ok]
  rfl
theorem rds_new (w : World) (x : XP) : RdS clP 3 (w.alloc (.cells (clP x).toArray 142)) (w.heap.size + 1) (some ⟨w.heap.size, 0, none⟩) [x] := by
  intro _
  refine ⟨w.heap.size, 0, rfl, Nat.lt_succ_self _, fun j y hy => ?_⟩
  have hj : j = 0 := by have := (List.getElem?_eq_some_iff.1 hy).1; simpa using this
  subst hj
  have e : y = x := by simpa using hy.symm
  subst e
  intro i v hv
  rw [Nat.zero_mul, Nat.add_zero, Nat.zero_add, World.cell?_alloc_new, List.getElem?_toArray]
  exact hv
set_option maxRecDepth 100000 in
set_option maxHeartbeats 8000000 in
theorem r15add (A : Option Addr) (c : Nat) (l : List XP) (B g o : Nat) (cs : Array Value) (tg : TypeId) (a : Int) (m : Bool) (A' : Option Addr) (b : List UInt8) (c' : Nat) (w : World) (h : Ho w B g o A c l) (hB : B ≤ w.heap.size) (hg : w.heap[g]? = some (.cells cs tg (0, 0))) (hA' : Arg w w.heap.size A' c' b) (hbl : b.length ≤ 1000000) (ha : -9223372036854775808 ≤ a ∧ a ≤ 9223372036854775807) :
    Calls Try.prog 48 #[.pointer (some ⟨g, o, none⟩), .int .i64 a, .bool m, .slice A' b.length c'] w fun e w' => e = .returned (.int .i64 (addE (piE l) ⟨a, m, b⟩)) ∧
      ((Below w.heap.size w w' ∧ addL (piE l) ⟨a, m, b⟩ = piE l) ∨
       (addL (piE l) ⟨a, m, b⟩ = piE l ++ [⟨a, m, b⟩] ∧ ∃ w1 P p A3 c3, Below w.heap.size w w1 ∧ w' = w1.setCell ⟨g, o, none⟩ (.slice P (l.length + 1) p) ∧
         w1.ownsRow w.heap.size 142 3 (.slice P (l.length + 1) p) (l.length + 1) ((l ++ [XP.mk ⟨a, m, b⟩ A3 c3]).flatMap clP) ∧ w1.ownsRow w.heap.size 5 1 (.slice A3 b.length c3) b.length (row b))) := by
  have hTu : 142 ≠ 5 := nat_ne (by kernel_rfl)
  have hH := Lib.hid h
  have hA := Lib.hid hA'
  have hgw := h.gB
  have hgw : g < w.heap.size := by omega
  clear h hA'
  have e1 : wrap64 (65535 - (b.length : Int)) = 65535 - (b.length : Int) := by unfold wrap64; omega
  have e2 : (b.length : Int).tmod 8 = (b.length : Int) % 8 := Int.tmod_eq_emod_of_nonneg (by omega)
  go_enter Try.func48, Try.ntmps48
  by_cases h1 : a < 0
  · have d1 : decide (a < 0) = true := decide_eq_true h1
    go_wp2
    have hAE : addE (piE l) ⟨a, m, b⟩ = 4 := by rw [addE, if_pos (.inl h1)]
    go_ret
    exact ⟨by rw [hAE]; rfl, .inl ⟨Below.refl _ _, by rw [addL]; first | rw [if_neg (by rw [hAE]; decide)] | rw [if_pos hAE, if_pos hs1.out]⟩⟩
  · have d1 : decide (a < 0) = false := decide_eq_false h1
    have ha0 : 0 ≤ a := by omega
    cases m with
    | true =>
      by_cases h2 : b.length = 0
      · have d2 : ((b.length : Int) == 0) = true := beq_iff_eq.2 (by omega)
        have d2' : (b.length == 0) = true := beq_iff_eq.2 h2
        go_wp2
        have hAE : addE (piE l) ⟨a, true, b⟩ = 4 := by rw [addE, if_pos (.inr ⟨rfl, .inl (by show (b.length : Int) = 0; omega)⟩)]
        go_ret
        exact ⟨by rw [hAE]; rfl, .inl ⟨Below.refl _ _, by rw [addL]; first | rw [if_neg (by rw [hAE]; decide)] | rw [if_pos hAE, if_pos hs1.out]⟩⟩
      · have d2 : ((b.length : Int) == 0) = false := beq_eq_false_iff_ne.2 (by omega)
        have d2' : (b.length == 0) = false := beq_eq_false_iff_ne.2 h2
        by_cases h3 : (b.length : Int) % 8 = 0
        · have d3 : ((b.length : Int) % 8 != 0) = false := by rw [h3]; rfl
          have d3' : ((b.length : Int) % 8 == 0) = true := by rw [h3]; rfl
          have hbad : ¬ badP ⟨a, true, b⟩ := by
            rintro (h | ⟨_, h | h⟩)
            · exact h1 h
            · have h : (b.length : Int) = 0 := h
              omega
            · exact h h3
          clear h3
          by_cases h4 : a > 65535 - (b.length : Int)
          · have d4 : decide (a > 65535 - (b.length : Int)) = true := decide_eq_true h4
            have d4' : decide (65535 - (b.length : Int) < a) = true := d4
            go_wp2
            have hAE : addE (piE l) ⟨a, true, b⟩ = 6 := by rw [addE, if_neg hbad, if_pos (by exact h4)]
            go_ret
            exact ⟨by rw [hAE]; rfl, .inl ⟨Below.refl _ _, by rw [addL]; first | rw [if_neg (by rw [hAE]; decide)] | rw [if_pos hAE, if_pos hs1.out]⟩⟩
          · have d4 : decide (a > 65535 - (b.length : Int)) = false := decide_eq_false h4
            have d4' : decide (65535 - (b.length : Int) < a) = false := d4
            cases g1 : sameP (piE l) ⟨a, true, b⟩ with
            | true =>
              have hs1 := Lib.hid g1
              clear g1
              go_wp2_with (go_at_call 81; refine (r15same A c l B g o a true A' b c' w hH.out hB hA.out.rd).mono ?_; rintro e w1 ⟨rfl, x1⟩; rw [hs1.out])
              have hAE : addE (piE l) ⟨a, true, b⟩ = 0 := by rw [addE, if_neg hbad, if_neg (by show ¬ a > 65535 - (b.length : Int); omega), if_pos hs1.out]
              go_ret
              exact ⟨by rw [hAE]; rfl, .inl ⟨(x1), by rw [addL]; first | rw [if_neg (by rw [hAE]; decide)] | rw [if_pos hAE, if_pos hs1.out]⟩⟩
            | false =>
              have hs1 := Lib.hid g1
              clear g1
              cases g2 : sharesP (piE l) ⟨a, true, b⟩ with
              | true =>
                have hs2 := Lib.hid g2
                clear g2
                go_wp2_with (first | (go_at_call 82; refine (r15shares A c l B g o a true A' b c' w1 (hH.out.below (x1.mono hB)) (Nat.le_trans hB x1.size) ha0 (by omega)).mono ?_; rintro e w2 ⟨rfl, x2⟩; rw [hs2.out]) | (go_at_call 81; refine (r15same A c l B g o a true A' b c' w hH.out hB hA.out.rd).mono ?_; rintro e w1 ⟨rfl, x1⟩; rw [hs1.out]))
                have hAE : addE (piE l) ⟨a, true, b⟩ = 9 := by rw [addE, if_neg hbad, if_neg (by show ¬ a > 65535 - (b.length : Int); omega), if_neg (by rw [hs1.out]; decide), if_pos hs2.out]
                go_ret
                exact ⟨by rw [hAE]; rfl, .inl ⟨(x1.trans (x2.mono x1.size)), by rw [addL]; first | rw [if_neg (by rw [hAE]; decide)] | rw [if_pos hAE, if_pos hs1.out]⟩⟩
              | false =>
                have hs2 := Lib.hid g2
                clear g2
                by_cases h5 : 0 ≤ endP (piE l)
                · obtain ⟨E, hE0⟩ : ∃ E, E = endP (piE l) := ⟨_, rfl⟩
                  have hE := Lib.hid hE0.symm
                  rw [← hE0] at h5
                  have q1 : decide (E ≥ 0) = true := by simpa using h5
                  have q1' : decide (0 ≤ E) = true := q1
                  by_cases h6 : a + (b.length : Int) > E
                  · have q2 : decide (a + (b.length : Int) > E) = true := decide_eq_true h6
                    have q2' : decide (E < a + (b.length : Int)) = true := q2
                    have hlate : lateP (piE l) ⟨a, true, b⟩ := .inr ⟨by rw [hE.out]; exact h5, by rw [hE.out]; exact h6⟩
                    clear h5 h6 hE0
                    go_wp2_with (first | (go_at_call 84; refine (r15far A c l B g o w3 (((hH.out.below (x1.mono hB)).below (x2.mono (Nat.le_trans hB x1.size))).below (x3.mono (Nat.le_trans hB (Nat.le_trans x1.size x2.size)))) (Nat.le_trans hB (Nat.le_trans x1.size (Nat.le_trans x2.size x3.size)))).mono ?_; rintro e w4 ⟨rfl, x4⟩; rw [hF.out]) | (go_at_call 83; refine (r15end A c l B g o w2 ((hH.out.below (x1.mono hB)).below (x2.mono (Nat.le_trans hB x1.size))) (Nat.le_trans hB (Nat.le_trans x1.size x2.size))).mono ?_; rintro e w3 ⟨rfl, x3⟩; rw [hE.out]) | (go_at_call 82; refine (r15shares A c l B g o a true A' b c' w1 (hH.out.below (x1.mono hB)) (Nat.le_trans hB x1.size) ha0 (by omega)).mono ?_; rintro e w2 ⟨rfl, x2⟩; rw [hs2.out]) | (go_at_call 81; refine (r15same A c l B g o a true A' b c' w hH.out hB hA.out.rd).mono ?_; rintro e w1 ⟨rfl, x1⟩; rw [hs1.out]))
                    have hAE : addE (piE l) ⟨a, true, b⟩ = 4 := by rw [addE, if_neg hbad, if_neg (by show ¬ a > 65535 - (b.length : Int); omega), if_neg (by rw [hs1.out]; decide), if_neg (by rw [hs2.out]; decide), if_pos hlate]
                    go_ret
                    exact ⟨by rw [hAE]; rfl, .inl ⟨(x1.trans ((x2.trans (x3.mono x2.size)).mono x1.size)), by rw [addL]; first | rw [if_neg (by rw [hAE]; decide)] | rw [if_pos hAE, if_pos hs1.out]⟩⟩
                  · have q2 : decide (a + (b.length : Int) > E) = false := decide_eq_false h6
                    have q2' : decide (E < a + (b.length : Int)) = false := q2
                    have hlate : ¬ lateP (piE l) ⟨a, true, b⟩ := by
                      rintro (⟨h, _⟩ | ⟨_, h⟩)
                      · cases h
                      · rw [hE.out] at h; exact h6 h
                    clear h5 h6 hE0
                    go_upto_region 12 with (first | (go_at_call 84; refine (r15far A c l B g o w3 (((hH.out.below (x1.mono hB)).below (x2.mono (Nat.le_trans hB x1.size))).below (x3.mono (Nat.le_trans hB (Nat.le_trans x1.size x2.size)))) (Nat.le_trans hB (Nat.le_trans x1.size (Nat.le_trans x2.size x3.size)))).mono ?_; rintro e w4 ⟨rfl, x4⟩; rw [hF.out]) | (go_at_call 83; refine (r15end A c l B g o w2 ((hH.out.below (x1.mono hB)).below (x2.mono (Nat.le_trans hB x1.size))) (Nat.le_trans hB (Nat.le_trans x1.size x2.size))).mono ?_; rintro e w3 ⟨rfl, x3⟩; rw [hE.out]) | (go_at_call 82; refine (r15shares A c l B g o a true A' b c' w1 (hH.out.below (x1.mono hB)) (Nat.le_trans hB x1.size) ha0 (by omega)).mono ?_; rintro e w2 ⟨rfl, x2⟩; rw [hs2.out]) | (go_at_call 81; refine (r15same A c l B g o a true A' b c' w hH.out hB hA.out.rd).mono ?_; rintro e w1 ⟨rfl, x1⟩; rw [hs1.out]))
                    have hAE : addE (piE l) ⟨a, true, b⟩ = 0 := by rw [addE, if_neg hbad, if_neg (by show ¬ a > 65535 - (b.length : Int); omega), if_neg (by rw [hs1.out]; decide), if_neg (by rw [hs2.out]; decide), if_neg hlate]
                    have hAL : addL (piE l) ⟨a, true, b⟩ = piE l ++ [⟨a, true, b⟩] := by rw [addL, if_pos hAE, if_neg (by rw [hs1.out]; decide)]
                    have hBV := (x1.trans ((x2.trans (x3.mono x2.size)).mono x1.size))
                    have hHV := hH.out.below (hBV.mono hB)
                    have hrowV := (hBV.block g hgw).trans hg
                    have hfV := heap_frozen hrowV o
                    have hAV := (hA.out.below hBV).more hBV.size
                    clear hbad hlate
                    generalize w3 = V at *
                    have k12 : V.cell? ⟨g, o, none⟩ = some (.slice A l.length c) := hHV.cell
                    have hn1 := hHV.n
                    obtain ⟨n, hn⟩ : ∃ n, n = l.length := ⟨_, rfl⟩
                    have HN := Lib.hid hn
                    rw [← hn] at k12 hn1
                    have hnone := hHV.none_
                    have hrdV := Lib.hid hHV.rd
                    clear hn hHV
                    go_upto_region 13 with (first
                      | (at_builtin; refine append_pcs rfl _ _ rfl w.heap.size (.slice P1 n p1) n (l.flatMap clP) rfl hown3 (w3.heap.size + 1) (some ⟨w3.heap.size, 0, none⟩) 1 1 [⟨⟨a, true, b⟩, P2, p2⟩] rfl rfl (fun e => by cases e) (rds_new w3 ⟨⟨a, true, b⟩, P2, p2⟩) (by omega) (by simp; omega) ?_; intro v4 w4 own4 grow4; obtain ⟨P4, p4, rfl⟩ := own_slice own4; have own5 := own_keepT (own_below o2 hNew) hown3 grow4 hTu; have hB3 := (hBV.trans (y1.mono hzw)).trans (y2.mono (by omega)); have hBN := hB3.trans (hNew.mono hB3.size); have hB4 := hBN.grown grow4 hBN.size (fun k hk => own_block_ge hown3 k hk); have kc4 := (hB4.cell (p := ⟨g, o, none⟩) hgw).trans hH.out.cell; have fc4 := heap_frozen ((hB4.block g hgw).trans hg) o)
                      | ((with_reducible show wpList _ _ _ (Oper.mk _ (Op.buildSlice _ _ _) _ _ _ _ :: _) _ _); refine wpList_growU rfl (run_bsp (cs := (clP ⟨⟨a, true, b⟩, P2, p2⟩).toArray) rfl rfl rfl) ?_; have hNew : Below w3.heap.size w3 (w3.alloc (.cells (clP ⟨⟨a, true, b⟩, P2, p2⟩).toArray 142)) := (Below.refl _ w3).alloc (Nat.le_refl _) _; have hown3 := own_below hown2 hNew)
                      | (at_builtin; refine append_rd rfl _ _ rfl w.heap.size (.slice none 0 0) 0 [] rfl (World.ownsRow_nil _ _ _ _) V1.heap.size A' c' b rfl hA2.none_ hA2.rd (by omega) (by omega) ?_; intro v2 w3 own2 grow2; obtain ⟨P2, p2, rfl, o2⟩ := own_made (bs := b) own2 (Nat.zero_add _) (List.nil_append _); have y2 := (Below.refl V1.heap.size V1).grown grow2 (Nat.le_refl _) (fun k hk => by cases hk); have hown2 := own_below hown1 y2; have hz2 := y2.size)
                      | (at_builtin; refine append_pcs rfl _ _ rfl w.heap.size (.slice none 0 0) 0 [] rfl (World.ownsRow_nil _ _ _ _) B A n c l rfl HN.out hnone hrdV.out (by omega) hBV.size ?_; intro v1 V1 own1 grow1; rw [Nat.zero_add, List.nil_append] at own1; obtain ⟨P1, p1, rfl⟩ := own_slice own1; have hown1 := own1; have y1 := (Below.refl V.heap.size V).grown grow1 (Nat.le_refl _) (fun k hk => by cases hk); have hA2 := (hAV.below y1).more y1.size; have hz1 := y1.size; have hzw := hBV.size))
                    go_wp2_with fail
                    go_ret
                    exact ⟨by rw [hAE]; rfl, .inr ⟨hAL, w4, P4, p4, P2, p2, hB4, by rw [← HN.out], by rw [← HN.out, List.flatMap_append]; exact own4, own5⟩⟩
                · obtain ⟨E, hE0⟩ : ∃ E, E = endP (piE l) := ⟨_, rfl⟩
                  have hE := Lib.hid hE0.symm
                  rw [← hE0] at h5
                  have q1 : decide (E ≥ 0) = false := by simpa using h5
                  have q1' : decide (0 ≤ E) = false := by simpa using h5
                  have hlate : ¬ lateP (piE l) ⟨a, true, b⟩ := by
                    rintro (⟨h, _⟩ | ⟨h, _⟩)
                    · cases h
                    · rw [hE.out] at h; exact h5 h
                  clear h5 hE0
                  go_upto_region 12 with (first | (go_at_call 84; refine (r15far A c l B g o w3 (((hH.out.below (x1.mono hB)).below (x2.mono (Nat.le_trans hB x1.size))).below (x3.mono (Nat.le_trans hB (Nat.le_trans x1.size x2.size)))) (Nat.le_trans hB (Nat.le_trans x1.size (Nat.le_trans x2.size x3.size)))).mono ?_; rintro e w4 ⟨rfl, x4⟩; rw [hF.out]) | (go_at_call 83; refine (r15end A c l B g o w2 ((hH.out.below (x1.mono hB)).below (x2.mono (Nat.le_trans hB x1.size))) (Nat.le_trans hB (Nat.le_trans x1.size x2.size))).mono ?_; rintro e w3 ⟨rfl, x3⟩; rw [hE.out]) | (go_at_call 82; refine (r15shares A c l B g o a true A' b c' w1 (hH.out.below (x1.mono hB)) (Nat.le_trans hB x1.size) ha0 (by omega)).mono ?_; rintro e w2 ⟨rfl, x2⟩; rw [hs2.out]) | (go_at_call 81; refine (r15same A c l B g o a true A' b c' w hH.out hB hA.out.rd).mono ?_; rintro e w1 ⟨rfl, x1⟩; rw [hs1.out]))
                  have hAE : addE (piE l) ⟨a, true, b⟩ = 0 := by rw [addE, if_neg hbad, if_neg (by show ¬ a > 65535 - (b.length : Int); omega), if_neg (by rw [hs1.out]; decide), if_neg (by rw [hs2.out]; decide), if_neg hlate]
                  have hAL : addL (piE l) ⟨a, true, b⟩ = piE l ++ [⟨a, true, b⟩] := by rw [addL, if_pos hAE, if_neg (by rw [hs1.out]; decide)]
                  have hBV := (x1.trans ((x2.trans (x3.mono x2.size)).mono x1.size))
                  have hHV := hH.out.below (hBV.mono hB)
                  have hrowV := (hBV.block g hgw).trans hg
                  have hfV := heap_frozen hrowV o
                  have hAV := (hA.out.below hBV).more hBV.size
                  clear hbad hlate
                  generalize w3 = V at *
                  have k12 : V.cell? ⟨g, o, none⟩ = some (.slice A l.length c) := hHV.cell
                  have hn1 := hHV.n
                  obtain ⟨n, hn⟩ : ∃ n, n = l.length := ⟨_, rfl⟩
                  have HN := Lib.hid hn
                  rw [← hn] at k12 hn1
                  have hnone := hHV.none_
                  have hrdV := Lib.hid hHV.rd
                  clear hn hHV
                  go_upto_region 13 with (first
                    | (at_builtin; refine append_pcs rfl _ _ rfl w.heap.size (.slice P1 n p1) n (l.flatMap clP) rfl hown3 (w3.heap.size + 1) (some ⟨w3.heap.size, 0, none⟩) 1 1 [⟨⟨a, true, b⟩, P2, p2⟩] rfl rfl (fun e => by cases e) (rds_new w3 ⟨⟨a, true, b⟩, P2, p2⟩) (by omega) (by simp; omega) ?_; intro v4 w4 own4 grow4; obtain ⟨P4, p4, rfl⟩ := own_slice own4; have own5 := own_keepT (own_below o2 hNew) hown3 grow4 hTu; have hB3 := (hBV.trans (y1.mono hzw)).trans (y2.mono (by omega)); have hBN := hB3.trans (hNew.mono hB3.size); have hB4 := hBN.grown grow4 hBN.size (fun k hk => own_block_ge hown3 k hk); have kc4 := (hB4.cell (p := ⟨g, o, none⟩) hgw).trans hH.out.cell; have fc4 := heap_frozen ((hB4.block g hgw).trans hg) o)
                    | ((with_reducible show wpList _ _ _ (Oper.mk _ (Op.buildSlice _ _ _) _ _ _ _ :: _) _ _); refine wpList_growU rfl (run_bsp (cs := (clP ⟨⟨a, true, b⟩, P2, p2⟩).toArray) rfl rfl rfl) ?_; have hNew : Below w3.heap.size w3 (w3.alloc (.cells (clP ⟨⟨a, true, b⟩, P2, p2⟩).toArray 142)) := (Below.refl _ w3).alloc (Nat.le_refl _) _; have hown3 := own_below hown2 hNew)
                    | (at_builtin; refine append_rd rfl _ _ rfl w.heap.size (.slice none 0 0) 0 [] rfl (World.ownsRow_nil _ _ _ _) V1.heap.size A' c' b rfl hA2.none_ hA2.rd (by omega) (by omega) ?_; intro v2 w3 own2 grow2; obtain ⟨P2, p2, rfl, o2⟩ := own_made (bs := b) own2 (Nat.zero_add _) (List.nil_append _); have y2 := (Below.refl V1.heap.size V1).grown grow2 (Nat.le_refl _) (fun k hk => by cases hk); have hown2 := own_below hown1 y2; have hz2 := y2.size)
                    | (at_builtin; refine append_pcs rfl _ _ rfl w.heap.size (.slice none 0 0) 0 [] rfl (World.ownsRow_nil _ _ _ _) B A n c l rfl HN.out hnone hrdV.out (by omega) hBV.size ?_; intro v1 V1 own1 grow1; rw [Nat.zero_add, List.nil_append] at own1; obtain ⟨P1, p1, rfl⟩ := own_slice own1; have hown1 := own1; have y1 := (Below.refl V.heap.size V).grown grow1 (Nat.le_refl _) (fun k hk => by cases hk); have hA2 := (hAV.below y1).more y1.size; have hz1 := y1.size; have hzw := hBV.size))
                  go_wp2_with fail
                  go_ret
                  exact ⟨by rw [hAE]; rfl, .inr ⟨hAL, w4, P4, p4, P2, p2, hB4, by rw [← HN.out], by rw [← HN.out, List.flatMap_append]; exact own4, own5⟩⟩
        · have d3 : ((b.length : Int) % 8 != 0) = true := bne_iff_ne.2 h3
          have d3' : ((b.length : Int) % 8 == 0) = false := beq_eq_false_iff_ne.2 h3
          go_wp2
          have hAE : addE (piE l) ⟨a, true, b⟩ = 4 := by rw [addE, if_pos (.inr ⟨rfl, .inr h3⟩)]
          go_ret
          exact ⟨by rw [hAE]; rfl, .inl ⟨Below.refl _ _, by rw [addL]; first | rw [if_neg (by rw [hAE]; decide)] | rw [if_pos hAE, if_pos hs1.out]⟩⟩
    | false =>
      have hbad : ¬ badP ⟨a, false, b⟩ := by
        rintro (h | ⟨h, _⟩)
        · exact h1 h
        · cases h
      by_cases h4 : a > 65535 - (b.length : Int)
      · have d4 : decide (a > 65535 - (b.length : Int)) = true := decide_eq_true h4
        have d4' : decide (65535 - (b.length : Int) < a) = true := d4
        go_wp2
        have hAE : addE (piE l) ⟨a, false, b⟩ = 6 := by rw [addE, if_neg hbad, if_pos (by exact h4)]
        go_ret
        exact ⟨by rw [hAE]; rfl, .inl ⟨Below.refl _ _, by rw [addL]; first | rw [if_neg (by rw [hAE]; decide)] | rw [if_pos hAE, if_pos hs1.out]⟩⟩
      · have d4 : decide (a > 65535 - (b.length : Int)) = false := decide_eq_false h4
        have d4' : decide (65535 - (b.length : Int) < a) = false := d4
        cases g1 : sameP (piE l) ⟨a, false, b⟩ with
        | true =>
          have hs1 := Lib.hid g1
          clear g1
          go_wp2_with (go_at_call 81; refine (r15same A c l B g o a false A' b c' w hH.out hB hA.out.rd).mono ?_; rintro e w1 ⟨rfl, x1⟩; rw [hs1.out])
          have hAE : addE (piE l) ⟨a, false, b⟩ = 0 := by rw [addE, if_neg hbad, if_neg (by show ¬ a > 65535 - (b.length : Int); omega), if_pos hs1.out]
          go_ret
          exact ⟨by rw [hAE]; rfl, .inl ⟨(x1), by rw [addL]; first | rw [if_neg (by rw [hAE]; decide)] | rw [if_pos hAE, if_pos hs1.out]⟩⟩
        | false =>
          have hs1 := Lib.hid g1
          clear g1
          cases g2 : sharesP (piE l) ⟨a, false, b⟩ with
          | true =>
            have hs2 := Lib.hid g2
            clear g2
            go_wp2_with (first | (go_at_call 82; refine (r15shares A c l B g o a false A' b c' w1 (hH.out.below (x1.mono hB)) (Nat.le_trans hB x1.size) ha0 (by omega)).mono ?_; rintro e w2 ⟨rfl, x2⟩; rw [hs2.out]) | (go_at_call 81; refine (r15same A c l B g o a false A' b c' w hH.out hB hA.out.rd).mono ?_; rintro e w1 ⟨rfl, x1⟩; rw [hs1.out]))
            have hAE : addE (piE l) ⟨a, false, b⟩ = 9 := by rw [addE, if_neg hbad, if_neg (by show ¬ a > 65535 - (b.length : Int); omega), if_neg (by rw [hs1.out]; decide), if_pos hs2.out]
            go_ret
            exact ⟨by rw [hAE]; rfl, .inl ⟨(x1.trans (x2.mono x1.size)), by rw [addL]; first | rw [if_neg (by rw [hAE]; decide)] | rw [if_pos hAE, if_pos hs1.out]⟩⟩
          | false =>
            have hs2 := Lib.hid g2
            clear g2
            by_cases h5 : 0 ≤ endP (piE l)
            · obtain ⟨E, hE0⟩ : ∃ E, E = endP (piE l) := ⟨_, rfl⟩
              have hE := Lib.hid hE0.symm
              rw [← hE0] at h5
              have q1 : decide (E ≥ 0) = true := by simpa using h5
              have q1' : decide (0 ≤ E) = true := q1
              have hlate : lateP (piE l) ⟨a, false, b⟩ := .inl ⟨rfl, .inl (by rw [hE.out]; exact h5)⟩
              clear h5 hE0
              go_wp2_with (first | (go_at_call 84; refine (r15far A c l B g o w3 (((hH.out.below (x1.mono hB)).below (x2.mono (Nat.le_trans hB x1.size))).below (x3.mono (Nat.le_trans hB (Nat.le_trans x1.size x2.size)))) (Nat.le_trans hB (Nat.le_trans x1.size (Nat.le_trans x2.size x3.size)))).mono ?_; rintro e w4 ⟨rfl, x4⟩; rw [hF.out]) | (go_at_call 83; refine (r15end A c l B g o w2 ((hH.out.below (x1.mono hB)).below (x2.mono (Nat.le_trans hB x1.size))) (Nat.le_trans hB (Nat.le_trans x1.size x2.size))).mono ?_; rintro e w3 ⟨rfl, x3⟩; rw [hE.out]) | (go_at_call 82; refine (r15shares A c l B g o a false A' b c' w1 (hH.out.below (x1.mono hB)) (Nat.le_trans hB x1.size) ha0 (by omega)).mono ?_; rintro e w2 ⟨rfl, x2⟩; rw [hs2.out]) | (go_at_call 81; refine (r15same A c l B g o a false A' b c' w hH.out hB hA.out.rd).mono ?_; rintro e w1 ⟨rfl, x1⟩; rw [hs1.out]))
              have hAE : addE (piE l) ⟨a, false, b⟩ = 4 := by rw [addE, if_neg hbad, if_neg (by show ¬ a > 65535 - (b.length : Int); omega), if_neg (by rw [hs1.out]; decide), if_neg (by rw [hs2.out]; decide), if_pos hlate]
              go_ret
              exact ⟨by rw [hAE]; rfl, .inl ⟨(x1.trans ((x2.trans (x3.mono x2.size)).mono x1.size)), by rw [addL]; first | rw [if_neg (by rw [hAE]; decide)] | rw [if_pos hAE, if_pos hs1.out]⟩⟩
            · obtain ⟨E, hE0⟩ : ∃ E, E = endP (piE l) := ⟨_, rfl⟩
              have hE := Lib.hid hE0.symm
              rw [← hE0] at h5
              have q1 : decide (E ≥ 0) = false := by simpa using h5
              have q1' : decide (0 ≤ E) = false := by simpa using h5
              obtain ⟨F, hF0⟩ : ∃ F, F = farP (piE l) := ⟨_, rfl⟩
              have hF := Lib.hid hF0.symm
              by_cases h6 : F > a + (b.length : Int)
              · have q2 : decide (F > a + (b.length : Int)) = true := decide_eq_true h6
                have q2' : decide (a + (b.length : Int) < F) = true := q2
                have hlate : lateP (piE l) ⟨a, false, b⟩ := .inl ⟨rfl, .inr (by rw [hF.out]; exact h6)⟩
                clear h5 h6 hE0 hF0
                go_wp2_with (first | (go_at_call 84; refine (r15far A c l B g o w3 (((hH.out.below (x1.mono hB)).below (x2.mono (Nat.le_trans hB x1.size))).below (x3.mono (Nat.le_trans hB (Nat.le_trans x1.size x2.size)))) (Nat.le_trans hB (Nat.le_trans x1.size (Nat.le_trans x2.size x3.size)))).mono ?_; rintro e w4 ⟨rfl, x4⟩; rw [hF.out]) | (go_at_call 83; refine (r15end A c l B g o w2 ((hH.out.below (x1.mono hB)).below (x2.mono (Nat.le_trans hB x1.size))) (Nat.le_trans hB (Nat.le_trans x1.size x2.size))).mono ?_; rintro e w3 ⟨rfl, x3⟩; rw [hE.out]) | (go_at_call 82; refine (r15shares A c l B g o a false A' b c' w1 (hH.out.below (x1.mono hB)) (Nat.le_trans hB x1.size) ha0 (by omega)).mono ?_; rintro e w2 ⟨rfl, x2⟩; rw [hs2.out]) | (go_at_call 81; refine (r15same A c l B g o a false A' b c' w hH.out hB hA.out.rd).mono ?_; rintro e w1 ⟨rfl, x1⟩; rw [hs1.out]))
                have hAE : addE (piE l) ⟨a, false, b⟩ = 4 := by rw [addE, if_neg hbad, if_neg (by show ¬ a > 65535 - (b.length : Int); omega), if_neg (by rw [hs1.out]; decide), if_neg (by rw [hs2.out]; decide), if_pos hlate]
                go_ret
                exact ⟨by rw [hAE]; rfl, .inl ⟨(x1.trans ((x2.trans ((x3.trans (x4.mono x3.size)).mono x2.size)).mono x1.size)), by rw [addL]; first | rw [if_neg (by rw [hAE]; decide)] | rw [if_pos hAE, if_pos hs1.out]⟩⟩
              · have q2 : decide (F > a + (b.length : Int)) = false := decide_eq_false h6
                have q2' : decide (a + (b.length : Int) < F) = false := q2
                have hlate : ¬ lateP (piE l) ⟨a, false, b⟩ := by
                  rintro (⟨_, h | h⟩ | ⟨h, _⟩)
                  · rw [hE.out] at h; exact h5 h
                  · rw [hF.out] at h; exact h6 h
                  · rw [hE.out] at h; exact h5 h
                clear h5 h6 hE0 hF0
                go_upto_region 12 with (first | (go_at_call 84; refine (r15far A c l B g o w3 (((hH.out.below (x1.mono hB)).below (x2.mono (Nat.le_trans hB x1.size))).below (x3.mono (Nat.le_trans hB (Nat.le_trans x1.size x2.size)))) (Nat.le_trans hB (Nat.le_trans x1.size (Nat.le_trans x2.size x3.size)))).mono ?_; rintro e w4 ⟨rfl, x4⟩; rw [hF.out]) | (go_at_call 83; refine (r15end A c l B g o w2 ((hH.out.below (x1.mono hB)).below (x2.mono (Nat.le_trans hB x1.size))) (Nat.le_trans hB (Nat.le_trans x1.size x2.size))).mono ?_; rintro e w3 ⟨rfl, x3⟩; rw [hE.out]) | (go_at_call 82; refine (r15shares A c l B g o a false A' b c' w1 (hH.out.below (x1.mono hB)) (Nat.le_trans hB x1.size) ha0 (by omega)).mono ?_; rintro e w2 ⟨rfl, x2⟩; rw [hs2.out]) | (go_at_call 81; refine (r15same A c l B g o a false A' b c' w hH.out hB hA.out.rd).mono ?_; rintro e w1 ⟨rfl, x1⟩; rw [hs1.out]))
                have hAE : addE (piE l) ⟨a, false, b⟩ = 0 := by rw [addE, if_neg hbad, if_neg (by show ¬ a > 65535 - (b.length : Int); omega), if_neg (by rw [hs1.out]; decide), if_neg (by rw [hs2.out]; decide), if_neg hlate]
                have hAL : addL (piE l) ⟨a, false, b⟩ = piE l ++ [⟨a, false, b⟩] := by rw [addL, if_pos hAE, if_neg (by rw [hs1.out]; decide)]
                have hBV := (x1.trans ((x2.trans ((x3.trans (x4.mono x3.size)).mono x2.size)).mono x1.size))
                have hHV := hH.out.below (hBV.mono hB)
                have hrowV := (hBV.block g hgw).trans hg
                have hfV := heap_frozen hrowV o
                have hAV := (hA.out.below hBV).more hBV.size
                clear hbad hlate
                generalize w4 = V at *
                have k12 : V.cell? ⟨g, o, none⟩ = some (.slice A l.length c) := hHV.cell
                have hn1 := hHV.n
                obtain ⟨n, hn⟩ : ∃ n, n = l.length := ⟨_, rfl⟩
                have HN := Lib.hid hn
                rw [← hn] at k12 hn1
                have hnone := hHV.none_
                have hrdV := Lib.hid hHV.rd
                clear hn hHV
                go_upto_region 13 with (first
                  | (at_builtin; refine append_pcs rfl _ _ rfl w.heap.size (.slice P1 n p1) n (l.flatMap clP) rfl hown3 (w3.heap.size + 1) (some ⟨w3.heap.size, 0, none⟩) 1 1 [⟨⟨a, false, b⟩, P2, p2⟩] rfl rfl (fun e => by cases e) (rds_new w3 ⟨⟨a, false, b⟩, P2, p2⟩) (by omega) (by simp; omega) ?_; intro v4 w4 own4 grow4; obtain ⟨P4, p4, rfl⟩ := own_slice own4; have own5 := own_keepT (own_below o2 hNew) hown3 grow4 hTu; have hB3 := (hBV.trans (y1.mono hzw)).trans (y2.mono (by omega)); have hBN := hB3.trans (hNew.mono hB3.size); have hB4 := hBN.grown grow4 hBN.size (fun k hk => own_block_ge hown3 k hk); have kc4 := (hB4.cell (p := ⟨g, o, none⟩) hgw).trans hH.out.cell; have fc4 := heap_frozen ((hB4.block g hgw).trans hg) o)
                  | ((with_reducible show wpList _ _ _ (Oper.mk _ (Op.buildSlice _ _ _) _ _ _ _ :: _) _ _); refine wpList_growU rfl (run_bsp (cs := (clP ⟨⟨a, false, b⟩, P2, p2⟩).toArray) rfl rfl rfl) ?_; have hNew : Below w3.heap.size w3 (w3.alloc (.cells (clP ⟨⟨a, false, b⟩, P2, p2⟩).toArray 142)) := (Below.refl _ w3).alloc (Nat.le_refl _) _; have hown3 := own_below hown2 hNew)
                  | (at_builtin; refine append_rd rfl _ _ rfl w.heap.size (.slice none 0 0) 0 [] rfl (World.ownsRow_nil _ _ _ _) V1.heap.size A' c' b rfl hA2.none_ hA2.rd (by omega) (by omega) ?_; intro v2 w3 own2 grow2; obtain ⟨P2, p2, rfl, o2⟩ := own_made (bs := b) own2 (Nat.zero_add _) (List.nil_append _); have y2 := (Below.refl V1.heap.size V1).grown grow2 (Nat.le_refl _) (fun k hk => by cases hk); have hown2 := own_below hown1 y2; have hz2 := y2.size)
                  | (at_builtin; refine append_pcs rfl _ _ rfl w.heap.size (.slice none 0 0) 0 [] rfl (World.ownsRow_nil _ _ _ _) B A n c l rfl HN.out hnone hrdV.out (by omega) hBV.size ?_; intro v1 V1 own1 grow1; rw [Nat.zero_add, List.nil_append] at own1; obtain ⟨P1, p1, rfl⟩ := own_slice own1; have hown1 := own1; have y1 := (Below.refl V.heap.size V).grown grow1 (Nat.le_refl _) (fun k hk => by cases hk); have hA2 := (hAV.below y1).more y1.size; have hz1 := y1.size; have hzw := hBV.size))
                go_wp2_with fail
                go_ret
                exact ⟨by rw [hAE]; rfl, .inr ⟨hAL, w4, P4, p4, P2, p2, hB4, by rw [← HN.out], by rw [← HN.out, List.flatMap_append]; exact own4, own5⟩⟩
end Go.Proofs.Ytghbliabmecbcaa
