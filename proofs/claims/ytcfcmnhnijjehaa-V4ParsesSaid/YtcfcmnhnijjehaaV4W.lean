/-
  Contract of the document's plain answers of layer 5: Build. Conditions are each theorem's own.
-/
import Derived.Test.YtcfcmnhnijjehaaV4U
namespace Go.Proofs.Ytcfcmnhnijjehaa
open Go.RowKit

theorem rof_one (A : Option Addr) (bs : List UInt8) (c B : Nat) (w : World) (h : Rd2 w B A [bs]) (hl : bs.length ≤ 1099511627000) :
    Calls Try.prog 50 #[.slice A 1 c] w fun e w' => e = .returned (.int .i64 (65535 - fold (psum [bs]))) ∧ ∃ n, w' = w.drewN n :=
  rof_any A [bs] c B w h (by simpa [bulk] using hl) (by simp)
/-- append onto a row of the call's own, of a source that reads as bytes: as an operation. -/
theorem append_wp {w : World} {o : Oper} {a : Act} {K : Act → World → Prop} {Q : Exit → Act → World → Prop} (s x : Operand)
    (ho : o.op = .call { callee := .builtin .append, args := #[s, x], argTypes := #[22, 22] })
    (base : Nat) (v : Value) (n : Nat) (xs : List Value) (hs : a.eval s = v) (hown : w.ownsRow base 5 1 v n xs)
    (B : Nat) (A : Option Addr) (c : Nat) (bs : List UInt8) (hx : a.eval x = .slice A bs.length c) (hA : A = none → c = 0) (hr : Rd w B A bs)
    (hlen : n + bs.length ≤ 2199023255552) (hbase : base ≤ w.heap.size)
    (h : ∀ v' w', w'.ownsRow base 5 1 v' (n + bs.length) (xs ++ row bs) → w.grownBy w' v.ownBlock → K (a.put o.dst v') w') : o.wp Try.prog a w K Q := by
  obtain ⟨i0, hi, hz0, hz1, hz2⟩ := info_parts info_u8
  rcases A with _ | ad
  · have h0 : bs = [] := by
      rcases Nat.eq_zero_or_pos bs.length with e | e
      · exact List.eq_nil_of_length_eq_zero e
      · obtain ⟨_, _, e', _⟩ := hr e; cases e'
    subst h0
    obtain rfl := hA rfl
    have hrun := run_append_owned_none (P := Try.prog) (w := w) base 22 o.type 5 i0 1 Try.underlying22 hi v n xs hown
    unfold Oper.wp
    simp [execOp, ho, resolve, invoke, builtin, hs, hx, hrun, Result.andThen]
    exact h v w (by simpa [row] using hown) (World.grownBy.refl w _)
  · exact wp_append_own w s x 22 ho base 5 i0 (.int .u8 0) 1 1 Try.underlying22 hi hz0 hz1 hz2 rfl (by decide) v n xs hs hown ad bs.length c (row bs) hx
      (by rw [row_length, Nat.mul_one]) hr.src (row_one bs) (by unfold maxLen; omega) (by omega) hbase (fun v' w' h1 h2 _ => h v' w' h1 h2)
section
variable (q : P4) (A : Option Addr) (c : Nat) (A' : Option Addr) (c' : Nat) (w : World)
set_option maxRecDepth 100000 in
set_option maxHeartbeats 8000000 in
theorem r5build (B : Nat) (hO : Arg w B A c q.opt) (hD : Arg w B A' c' q.dat) (hB : B ≤ w.heap.size) (ho : q.opt.length ≤ 1000000) (hd : q.dat.length ≤ 1000000) :
    Calls Try.prog 14 #[v4v q A c A' c'] w fun e w' => ∃ v, e = .returned (.tuple #[v, .int .i64 (chk4 q)]) ∧ (chk4 q ≠ 0 → v = .slice none 0 0 ∧ Below w.heap.size w w') ∧ (chk4 q = 0 → Made w w' v (bld4 q)) := by
  have hBl : Below w.heap.size w (w.alloc (.cells (v4a q A c A' c') 24)) := (Below.refl w.heap.size w).alloc (Nat.le_refl _) _
  have hAt := At4.new (q := q) (A := A) (c := c) (A' := A') (c' := c') w
  have hz : (w.alloc (.cells (v4a q A c A' c') 24)).heap.size = w.heap.size + 1 := by simp
  unfold v4v
  rw [show #[Value.int .i64 q.tos, .int .i64 q.id, .int .i64 q.off, .int .i64 q.ttl, .int .i64 q.proto, .int .i64 q.src, .int .i64 q.dst, .bool q.df, .bool q.mf, .slice A q.opt.length c, .slice A' q.dat.length c'] = v4a q A c A' c' from rfl]
  go_enter Try.func14, Try.ntmps14
  go_upto_region 1 with fail
  have hg := World.alloc_heap_new w (.cells (v4a q A c A' c') 24)
  generalize w.alloc (.cells (v4a q A c A' c') 24) = W at *
  by_cases hc : chk4 q = 0
  · have ha : arg4 q := by
      rcases Decidable.em (arg4 q) with h | h
      · exact h
      · exfalso; rw [chk4, if_neg h] at hc; omega
    have hz1 : size4 q ≤ 65535 := by
      rcases Int.lt_or_le 65535 (size4 q) with h | h
      · exfalso; rw [chk4, if_pos ha, if_pos (.inl h)] at hc; omega
      · exact h
    have hz0 : 0 ≤ size4 q := by unfold size4 head4; omega
    obtain ⟨hs0, hs1⟩ := sum4_bd q
    have HC := Lib.hid hc
    have ho40 : q.opt.length ≤ 40 := by obtain ⟨_, _, _, _, _, _, _, _, _, _, _, _, _, _, _, h, _⟩ := ha; exact h
    clear hc
    go_upto_region 4 with (first
      | ((with_reducible show wpList _ _ _ (Oper.mk _ (Op.load _ _) _ _ _ _ :: _) _ _); refine v4_load (g := w.heap.size) rfl hg rfl ?_)
      | (go_at_call 23; refine (r5check q A c A' c' _ ho hd).mono ?_; rintro e w1 ⟨rfl, x1⟩; rw [HC.out]))
    have hb1 : Below W.heap.size W w1 := x1
    clear x1
    refine wp_region_held_drew (S := fun w' => Below w1.heap.size w1 w') (by kernel_rfl) (Below.refl _ w1).drew (fun hS => ?_)
    refine held_pure (i := 0) (oi := ⟨some 11, _, _, _, _, _⟩) rfl (by kernel_rfl) (by kernel_rfl) (by kernel_rfl) (fun _ _ _ h => h) (by rfl) (fun w hSw => run_load_v4 rfl rfl (hAt.below (hb1.trans (hSw.mono hb1.size)) (by omega)) rfl) hS (fun hS => ?_)
    try go_frame
    refine held_pure (i := 1) (oi := ⟨some 12, _, _, _, _, _⟩) rfl (by kernel_rfl) (by kernel_rfl) (by kernel_rfl) (fun _ _ _ h => h) (by rfl) (fun w hSw => run_load_v4 rfl rfl (hAt.below (hb1.trans (hSw.mono hb1.size)) (by omega)) rfl) hS (fun hS => ?_)
    try go_frame
    refine wpAnyH_ready (rs := [2]) (by kernel_rfl) (by simp) (AllReadyH.cons (o := ⟨some 13, _, _, _, _, _⟩) rfl (fun K hK => ?_) AllReadyH.nil)
    rw [if_pos (by rfl)]
    go_simp
    refine (r5size q A c A' c' _ ho hd).mono ?_
    rintro e w2 ⟨rfl, x2⟩
    show K _ _
    refine hK.out _ _ (below_step hS x2) (fun hS => ?_)
    clear hK K
    try go_frame
    refine wpAnyH_ready (rs := [3]) (by kernel_rfl) (by simp) (AllReadyH.cons (o := ⟨some 14, _, _, _, _, _⟩) rfl (fun K hK => ?_) AllReadyH.nil)
    rw [if_pos (by rfl)]
    go_simp
    refine (r5hd q A c A' c' _ B (size4 q) 0 ha hz0 hz1 (by omega) (by omega) ((hO.below (hBl.mono hB)).below (((hb1).trans (hS.mono (hb1).size)).mono (by omega))) (by have k1 := hS.size; have k2 := (hb1).size; omega)).mono ?_
    rintro e wh ⟨vh, rfl, Ah, ch, rfl, lh, rdh, owh, xh⟩
    show K _ _
    refine hK.out _ _ (below_step hS xh) (fun hS => ?_)
    clear hK K
    try go_frame
    refine wpAnyH_ready (rs := [4]) (by kernel_rfl) (by simp) (AllReadyH.cons (o := ⟨some 15, _, _, _, _, _⟩) rfl (fun K hK => ?_) AllReadyH.nil)
    rw [if_pos (by rfl)]
    go_simp
    refine hK.out _ _ (hS.alloc hS.size _) (fun hS => ?_)
    clear hK K
    try go_frame
    refine wpAnyH_ready (rs := [5]) (by kernel_rfl) (by simp) (AllReadyH.cons (o := ⟨some 16, _, _, _, _, _⟩) rfl (fun K hK => ?_) AllReadyH.nil)
    rw [if_pos (by rfl)]
    go_simp
    refine (rof_one _ (hd4 q (size4 q) 0) _ _ _ (Rd2.one (World.alloc_heap_new wh _) (Nat.lt_succ_self _) (((arg_own owh).alloc (Nat.le_refl _) _).more (Nat.le_succ _))) (by rw [hd4_len]; omega)).mono ?_
    rintro e w5 ⟨rfl, n5, rfl⟩
    show K _ _
    refine hK.out _ _ (below_drewN hS _) (fun hS => ?_)
    clear hK K
    try go_frame
    refine held_pure (i := 6) (oi := ⟨some 5, _, _, _, _, _⟩) rfl (by kernel_rfl) (by kernel_rfl) (by kernel_rfl) (fun _ _ _ h => h) (by rfl) (v := ?_) (fun w hSw => ?_) hS (fun hS => ?_)
    rotate_left
    · go_simp; try with_reducible rfl
    try go_frame
    refine wpAnyH_done (by kernel_rfl) ?_ _
    go_wp2_with fail
    have hb5 := hb1.trans (hS.mono hb1.size)
    generalize (wh.alloc (.cells #[.slice Ah (hd4 q (size4 q) 0).length ch] 22)).drewN n5 = W5 at hS hb5 ⊢
    have eqs : (65535 - fold (psum [hd4 q (size4 q) 0])) = sum4 q := rfl
    rw [eqs]
    refine wp_region_held_drew (S := fun w' => Below W5.heap.size W5 w') (by kernel_rfl) (Below.refl _ W5).drew (fun hS => ?_)
    refine held_pure (i := 0) (oi := ⟨some 17, _, _, _, _, _⟩) rfl (by kernel_rfl) (by kernel_rfl) (by kernel_rfl) (fun _ _ _ h => h) (by rfl) (fun w hSw => run_load_v4 rfl rfl (hAt.below (hb5.trans (hSw.mono hb5.size)) (by omega)) rfl) hS (fun hS => ?_)
    try go_frame
    refine held_pure (i := 1) (oi := ⟨some 18, _, _, _, _, _⟩) rfl (by kernel_rfl) (by kernel_rfl) (by kernel_rfl) (fun _ _ _ h => h) (by rfl) (fun w hSw => run_load_v4 rfl rfl (hAt.below (hb5.trans (hSw.mono hb5.size)) (by omega)) rfl) hS (fun hS => ?_)
    try go_frame
    refine held_pure (i := 3) (oi := ⟨some 20, _, _, _, _, _⟩) rfl (by kernel_rfl) (by kernel_rfl) (by kernel_rfl) (fun _ _ _ h => h) (by rfl) (v := ?_) (fun w hSw => ?_) hS (fun hS => ?_)
    rotate_left
    · go_simp; try with_reducible rfl
    try go_frame
    refine held_pure (i := 5) (oi := ⟨some 22, _, _, _, _, _⟩) rfl (by kernel_rfl) (by kernel_rfl) (by kernel_rfl) (fun _ _ _ h => h) (by rfl) (v := ?_) (fun w hSw => ?_) hS (fun hS => ?_)
    rotate_left
    · go_simp; try with_reducible rfl
    try go_frame
    refine held_pure (i := 6) (oi := ⟨some 23, _, _, _, _, _⟩) rfl (by kernel_rfl) (by kernel_rfl) (by kernel_rfl) (fun _ _ _ h => h) (by rfl) (fun w hSw => run_load_sl rfl rfl (hAt.below (hb5.trans (hSw.mono hb5.size)) (by omega)).dat) hS (fun hS => ?_)
    try go_frame
    refine wpAnyH_ready (rs := [2]) (by kernel_rfl) (by simp) (AllReadyH.cons (o := ⟨some 19, _, _, _, _, _⟩) rfl (fun K hK => ?_) AllReadyH.nil)
    rw [if_pos (by rfl)]
    go_simp
    refine (r5size q A c A' c' _ ho hd).mono ?_
    rintro e w2 ⟨rfl, x2⟩
    show K _ _
    refine hK.out _ _ (below_step hS x2) (fun hS => ?_)
    clear hK K
    try go_frame
    refine wpAnyH_ready (rs := [4]) (by kernel_rfl) (by simp) (AllReadyH.cons (o := ⟨some 21, _, _, _, _, _⟩) rfl (fun K hK => ?_) AllReadyH.nil)
    rw [if_pos (by rfl)]
    go_simp
    refine (r5hd q A c A' c' _ B (size4 q) (sum4 q) ha hz0 hz1 hs0 hs1 ((hO.below (hBl.mono hB)).below (((hb5).trans (hS.mono (hb5).size)).mono (by omega))) (by have k1 := hS.size; have k2 := (hb5).size; omega)).mono ?_
    rintro e wg ⟨vg, rfl, Ag, cg, rfl, lg, rdg, owg, xg⟩
    have og := own_base owg hS.size
    show K _ _
    refine hK.out _ _ (below_step hS xg) (fun hS => ?_)
    clear hK K
    try go_frame
    refine wpAnyH_ready (rs := [7]) (by kernel_rfl) (by simp) (AllReadyH.cons (o := ⟨some 24, _, _, _, _, _⟩) rfl (fun K hK => ?_) AllReadyH.nil)
    rw [if_pos (by rfl)]
    refine append_wp _ _ rfl W5.heap.size _ _ _ rfl og w.heap.size A' c' q.dat rfl hD.none_ (((hD.below (hBl.mono hB)).below ((hb5.trans (hS.mono hb5.size)).mono (by omega))).rd.more hB) (by rw [hd4_len]; omega) hS.size ?_
    intro v7 w7 own7 grow7
    obtain ⟨A7, c7, rfl, owm7⟩ := own_made (bs := bld4 q) own7 (by simp [bld4]) (by rw [bld4, row_append])
    refine hK.out _ _ (hS.grown grow7 hS.size (fun k hk => own_block_ge og k hk)) (fun hS => ?_)
    clear hK K
    try go_frame
    refine held_pure (i := 8) (oi := ⟨some 2, _, _, _, _, _⟩) rfl (by kernel_rfl) (by kernel_rfl) (by kernel_rfl) (fun _ _ _ h => h) (by rfl) (v := ?_) (fun w hSw => ?_) hS (fun hS => ?_)
    rotate_left
    · go_simp; try with_reducible rfl
    try go_frame
    refine held_pure (i := 9) (oi := ⟨some 3, _, _, _, _, _⟩) rfl (by kernel_rfl) (by kernel_rfl) (by kernel_rfl) (fun _ _ _ h => h) (by rfl) (v := ?_) (fun w hSw => ?_) hS (fun hS => ?_)
    rotate_left
    · go_simp; try with_reducible rfl
    try go_frame
    refine wpAnyH_done (by kernel_rfl) ?_ _
    go_wp2_with fail
    go_ret2
    exact ⟨.slice A7 (bld4 q).length c7, by rw [HC.out]; rfl, fun h => absurd HC.out h, fun _ => Made.of_own (own_base owm7 (by have := hb5.size; omega)) (hBl.trans ((hb5.trans (hS.mono hb5.size)).mono (by omega)))⟩
  · have hne : (chk4 q == 0) = false := by simpa using hc
    have HN := Lib.hid hc
    clear hc
    go_wp2_with (first
      | ((with_reducible show wpList _ _ _ (Oper.mk _ (Op.load _ _) _ _ _ _ :: _) _ _); refine v4_load (g := w.heap.size) rfl hg rfl ?_)
      | (go_at_call 23; refine (r5check q A c A' c' _ ho hd).mono ?_; rintro e w1 ⟨rfl, x1⟩))
    go_ret2
    exact ⟨_, rfl, fun _ => ⟨rfl, hBl.trans (x1.mono (by omega))⟩, fun h => absurd h HN.out⟩
end
end Go.Proofs.Ytcfcmnhnijjehaa
