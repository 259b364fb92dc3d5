/-
  Contracts and lemmas on which the proofs of this seat stand (several texts in one). Conditions are each theorem's own.
-/
import Derived.Test.YtghbliabmecbcaaMa12
import Derived.Test.YtghbliabmecbcaaMa7
import Derived.Test.YtghbliabmecbcaaMa9

/-
  Rows of texts that grow; the document's insert of layer 16. Conditions are each theorem's own.
-/
namespace Go.Proofs.Ytghbliabmecbcaa
open Go.RowKit Go.Shelf
def sk (l : List UInt8) : Value := .string (strB l)
def clK (l : List UInt8) : List Value := [sk l]
theorem flatK (l : List (List UInt8)) : l.flatMap clK = l.map sk := by
  induction l with
  | nil => rfl
  | cons a l ih => rw [List.flatMap_cons, ih]; rfl
theorem strB_list (x : List UInt8) : (strB x).toList = x := by simp [strB]
theorem info_sk : (Try.prog.info? 9).map (fun i => (i.zero, i.size, i.bytes)) = some (some (.string ByteArray.empty), 1, 16) := by kernel_rfl
def cutS (A : Option Addr) (c k : Nat) : Option Addr := if c = k then A else A.map (·.add k)
theorem cutS_none {A : Option Addr} {c k : Nat} (h : A = none → c = 0) : cutS A c k = none → c - k = 0 := fun e => by
  unfold cutS at e
  split at e
  · omega
  · cases A with
    | none => have := h rfl; omega
    | some a => cases e
theorem rds_take {w : World} {B k : Nat} {A : Option Addr} {l : List (List UInt8)} (h : RdS clK 1 w B A l) : RdS clK 1 w B A (l.take k) := fun hn => by
  rw [List.length_take] at hn
  obtain ⟨b', off', e, hb, hc⟩ := h (by omega)
  refine ⟨_, _, e, hb, fun j x hx => hc j x ?_⟩
  rw [List.getElem?_take] at hx
  split at hx
  · exact hx
  · cases hx
theorem rds_cutS {w : World} {B k c : Nat} {A : Option Addr} {l : List (List UInt8)} (h : RdS clK 1 w B A l) (hc : l.length ≤ c) : RdS clK 1 w B (cutS A c k) (l.drop k) := fun hn => by
  rw [List.length_drop] at hn
  obtain ⟨b', off', e, hb, hr⟩ := h (by omega)
  refine ⟨b', off' + k, by rw [cutS, if_neg (by omega), e]; show some (Addr.add ⟨b', off', none⟩ k) = _; rw [add_off], hb, fun j x hx => ?_⟩
  rw [List.getElem?_drop] at hx
  have := hr (k + j) x hx
  rwa [show off' + (k + j) * 1 = off' + k + j * 1 by omega] at this
theorem rds_oneS (w : World) (s : List UInt8) : RdS clK 1 (w.alloc (.cells #[sk s] 9)) (w.alloc (.cells #[sk s] 9)).heap.size (some ⟨w.heap.size, 0, none⟩) [s] := fun _ => by
  refine ⟨_, _, rfl, by simp, fun j x hx => ?_⟩
  have hj : j = 0 := by have := (List.getElem?_eq_some_iff.1 hx).1; simpa using this
  subst hj
  simp only [List.getElem?_cons_zero, Option.some.injEq] at hx
  subst hx
  intro i u hu
  rw [cell_of_row _ _ _ _ _ _ (World.alloc_heap_new w _)]
  simpa [clK] using hu
theorem own_baseS {w : World} {b b' n : Nat} {v : Value} {xs : List Value} (h : w.ownsRow b 9 1 v n xs) (hb : b' ≤ b) : w.ownsRow b' 9 1 v n xs := by
  refine ⟨h.1, ?_⟩
  rcases h.2 with hn | ⟨g, cap, cur, hv, hg, rest⟩
  · exact .inl hn
  · exact .inr ⟨g, cap, cur, hv, Nat.le_trans hb hg, rest⟩
theorem slice_S : Try.prog.underlying 36 = some (.slice (Try.prog.elem 36)) := by kernel_rfl
theorem run_cuts_l {o : Oper} {a : Act} {w : World} {x lo : Operand} {A : Option Addr} {n c l m : Nat} (ho : o.op = .slice 36 x (some lo) none none) (hx : a.eval x = .slice A n c) (hl : a.eval lo = .int .i64 (l : Int)) (hn : l ≤ n) (hm : m = n - l) :
    (execOp a.eval o).run Try.prog w = .ok (.value (.slice (cutS A c l) m (c - l))) w := by
  subst hm
  have h1 := run_slice_l (P := Try.prog) (w := w) 36 A n c slice_S .i64 (l : Int) (by omega) (by omega)
  unfold execOp
  simp only [ho, hx, hl, Option.map, Sem.run_bind, run_sliceAt_slice _ _ _ _ _ _ slice_S, h1]
  go_simp
  rfl
theorem run_cuts_h {o : Oper} {a : Act} {w : World} {x hi : Operand} {A : Option Addr} {n c m : Nat} {h : Int} (ho : o.op = .slice 36 x none (some hi) none) (hx : a.eval x = .slice A n c) (hh : a.eval hi = .int .i64 h)
    (h0 : 0 ≤ h) (h2 : h ≤ (c : Int)) (hm : m = h.toNat) :
    (execOp a.eval o).run Try.prog w = .ok (.value (.slice A m c)) w := by
  subst hm
  have h1 := run_slice_h (P := Try.prog) (w := w) 36 A n c slice_S .i64 h h0 h2
  unfold execOp
  simp only [ho, hx, hh, Option.map, Sem.run_bind, run_sliceAt_slice _ _ _ _ _ _ slice_S, h1]
  go_simp
theorem run_bsS {o : Oper} {a : Act} {w : World} {x : Operand} {s : List UInt8} (ho : o.op = .buildSlice 36 1 #[(0, x)]) (hx : a.eval x = .string (strB s)) :
    (execOp a.eval o).run Try.prog w = .ok (.value (.slice (some ⟨w.heap.size, 0, none⟩) 1 1)) (w.alloc (.cells #[sk s] 9)) := by
  unfold sk execOp
  simp only [ho, List.map_toArray, List.map_cons, List.map_nil, hx]
  go_simp
section
variable {n : Nat} {o : Oper} {a : Act} {w : World} {K : Act → World → Prop} {Q : Exit → Act → World → Prop}
set_option maxRecDepth 100000 in
theorem append_skI (s x : Operand) (ho : o.op = .call { callee := .builtin .append, args := #[s, x], argTypes := #[36, 36] })
    (base : Nat) (v : Value) (m : Nat) (xs : List Value) (hs : a.eval s = v) (hown : w.ownsRow base 9 1 v m xs)
    (B : Nat) (A : Option Addr) (k c : Nat) (l : List (List UInt8)) (hx : a.eval x = .slice A k c) (hk : k = l.length) (hA : A = none → c = 0) (hr : RdS clK 1 w B A l)
    (hlen : m + k ≤ 1000000) (hbase : base ≤ w.heap.size)
    (h : ∀ v' w', w'.ownsRow base 9 1 v' (m + k) (xs ++ l.map sk) → w.grownBy w' v.ownBlock → K (a.put o.dst v') w') : o.wpIn Fence.wide n Try.prog a w K Q := by
  obtain ⟨i0, hi, hz0, hz1, hz2⟩ := info_parts info_sk
  subst hk
  rcases A with _ | ad
  · have h0 : l = [] := by
      rcases Nat.eq_zero_or_pos l.length with e | e
      · exact List.eq_nil_of_length_eq_zero e
      · obtain ⟨_, _, e', _⟩ := hr e; cases e'
    subst h0
    obtain rfl := hA rfl
    have hrun := run_append_owned_none (P := Try.prog) (w := w) base 36 o.type 9 i0 1 Try.underlying36 hi v m xs hown
    refine growI (v := v) (w' := w) ?_ (h v w (by simpa using hown) (World.grownBy.refl w _))
    simp [execOp, ho, resolve, invoke, builtin, hs, hx, hrun, Result.andThen]
  · obtain ⟨v', w', hrun, h1, h2, _⟩ := run_append_own (P := Try.prog) w base 36 o.type 9 i0 (.string ByteArray.empty) 1 16 Try.underlying36 hi hz0 hz1 hz2 rfl (by decide) v m xs hown ad l.length c (l.map sk)
      (by simp) (fun j u hj => by
        have hj3 : j < l.length := by have := (List.getElem?_eq_some_iff.1 hj).1; simpa using this
        obtain ⟨b, off, e, _, hc⟩ := hr (by omega)
        injection e with e
        subst e
        obtain ⟨y, hy⟩ : ∃ y, l[j]? = some y := ⟨_, List.getElem?_eq_getElem hj3⟩
        rw [List.getElem?_map, hy] at hj
        have h9 : sk y = u := by simpa using hj
        have h8 := hc j y hy 0 (sk y) rfl
        rw [add_off, ← h9]
        simpa using h8) (fun u hu => by obtain ⟨y, _, rfl⟩ := List.mem_map.1 hu; rfl) (by unfold maxLen; omega) (by omega) hbase
    refine growI (v := v') (w' := w') ?_ (h v' w' h1 h2)
    simp [execOp, ho, resolve, invoke, builtin, hs, hx, hrun, Result.andThen]
end
theorem ins_less {x s : List UInt8} {l : List (List UInt8)} (h : Op.bytesLess x s = true) : insJ (x :: l) s = x :: insJ l s := by rw [insJ, if_pos h]
theorem ins_stop {x s : List UInt8} {l : List (List UInt8)} (h : Op.bytesLess x s = false) : insJ (x :: l) s = s :: x :: l := by rw [insJ, if_neg (by rw [h]; decide)]
set_option maxRecDepth 100000 in
set_option maxHeartbeats 4000000 in
theorem r16insert (A : Option Addr) (c : Nat) (l : List (List UInt8)) (s : List UInt8) (B : Nat) (w : World) (h : RdS clK 1 w B A l) (hB : B ≤ w.heap.size) (hA : A = none → c = 0) (hc : l.length ≤ c) (hn0 : l.length ≤ 1000) :
    Calls Try.prog 39 #[.slice A l.length c, .string (strB s)] w fun e w' => ∃ v, e = .returned v ∧ w'.ownsRow w.heap.size 9 1 v (l.length + 1) ((insJ l s).map sk) ∧ Below w.heap.size w w' := by
  have HR := Lib.hid h
  have HNN := Lib.hid hA
  obtain ⟨n, hn⟩ : ∃ n, n = l.length := ⟨_, rfl⟩
  have HN := Lib.hid hn
  rw [← hn] at hc hn0 ⊢
  clear h hA hn
  go_enter Try.func39, Try.ntmps39
  go_wp2
  go_loopw [5] (fun i wr => ∃ k : Nat, k ≤ n ∧ i = .int .i64 (k : Int) ∧ Hid (insJ l s = l.take k ++ insJ (l.drop k) s) ∧ Below w.heap.size w wr)
    (fun i _ => n - (intOf i).toNat)
  case atStart => exact ⟨0, Nat.zero_le _, rfl, Lib.hid rfl, Below.refl _ _⟩
  case round =>
    obtain ⟨k, hk, rfl, HE, hbel⟩ := hrel
    by_cases hlt : k < n
    · obtain ⟨x, hx⟩ : ∃ x, l[k]? = some x := ⟨_, List.getElem?_eq_getElem (by rw [← HN.out]; exact hlt)⟩
      obtain ⟨b1, o1, e1, hb1', hr1⟩ := HR.out (by rw [← HN.out]; omega)
      obtain rfl := e1
      have hr := range_below (hr1 k x hx) hb1' (hbel.mono hB)
      have kx : wr.cell? ⟨b1, o1 + k, none⟩ = some (.string (strB x)) := by simpa [sk] using hr 0 _ rfl
      have HXD : Hid (l.drop k = x :: l.drop (k + 1)) := Lib.hid (by
        rw [List.drop_eq_getElem_cons (by rw [← HN.out]; exact hlt)]
        congr 1
        rw [List.getElem?_eq_getElem (by rw [← HN.out]; exact hlt)] at hx
        exact Option.some.inj hx)
      have HXT : Hid (l.take (k + 1) = l.take k ++ [x]) := Lib.hid (by rw [List.take_add_one, hx]; rfl)
      clear hr1 hr hx
      cases e4 : Op.bytesLess x s with
      | true =>
        have e5 : Op.bytesLess (strB x).toList (strB s).toList = true := by rw [strB_list, strB_list]; exact e4
        go_wp2
        go_roundw
        case rel => exact ⟨k + 1, by omega, by simp, Lib.hid (by rw [HE.out, HXD.out, ins_less e4, HXT.out, List.append_assoc]; rfl), hbel⟩
        case measure => simp [intOf]; omega
      | false =>
        have e5 : Op.bytesLess (strB x).toList (strB s).toList = false := by rw [strB_list, strB_list]; exact e4
        have HI : Hid (insJ l s = l.take k ++ s :: l.drop k) := Lib.hid (by rw [HE.out, HXD.out, ins_stop e4])
        clear HE e4 HXD HXT
        go_upto_region 4 with fail
        generalize hA0 : (some (⟨b1, o1, none⟩ : Addr)) = A at *
        clear hA0
        have hbB := hbel.mono hB
        have hbz : B ≤ wr.heap.size := Nat.le_trans hB hbel.size
        have HWz := Lib.hid hbel.size
        generalize wr = W at *
        refine regionY 11 (fun w' => Below W.heap.size W w') (by kernel_rfl) ?_
        have b0 : Below W.heap.size W W.drew := (Below.refl _ W).drew
        have hS : Below W.heap.size W W.drew := b0
        generalize W.drew = X0 at *
        refine pureY (i := 0) (oi := ⟨some 20, _, _, _, _, _⟩) rfl (by kernel_rfl) (by kernel_rfl) (by kernel_rfl) (by kernel_rfl) (by kernel_rfl) (fun _ _ _ h => h) (by rfl) (v := ?_) (fun w hSw => ?_) hS ?_
        rotate_left
        · go_simp; try with_reducible rfl
        try go_frame
        refine pureY (i := 1) (oi := ⟨some 21, _, _, _, _, _⟩) rfl (by kernel_rfl) (by kernel_rfl) (by kernel_rfl) (by kernel_rfl) (by kernel_rfl) (fun _ _ _ h => h) (by rfl) (v := ?_) (fun w hSw => ?_) hS ?_
        rotate_left
        · go_simp; try with_reducible rfl
        try go_frame
        refine pureY (i := 2) (oi := ⟨some 22, _, _, _, _, _⟩) rfl (by kernel_rfl) (by kernel_rfl) (by kernel_rfl) (by kernel_rfl) (by kernel_rfl) (fun _ _ _ h => h) (by rfl) (fun w hSw => run_cuts_h (h := (k : Int)) rfl rfl rfl (by omega) (by omega) (m := k) (by omega)) hS ?_
        try go_frame
        refine pureY (i := 4) (oi := ⟨some 24, _, _, _, _, _⟩) rfl (by kernel_rfl) (by kernel_rfl) (by kernel_rfl) (by kernel_rfl) (by kernel_rfl) (fun _ _ _ h => h) (by rfl) (v := ?_) (fun w hSw => ?_) hS ?_
        rotate_left
        · go_simp; try with_reducible rfl
        try go_frame
        refine pureY (i := 7) (oi := ⟨some 27, _, _, _, _, _⟩) rfl (by kernel_rfl) (by kernel_rfl) (by kernel_rfl) (by kernel_rfl) (by kernel_rfl) (fun _ _ _ h => h) (by rfl) (v := ?_) (fun w hSw => ?_) hS ?_
        rotate_left
        · go_simp; try with_reducible rfl
        try go_frame
        refine pureY (i := 8) (oi := ⟨some 28, _, _, _, _, _⟩) rfl (by kernel_rfl) (by kernel_rfl) (by kernel_rfl) (by kernel_rfl) (by kernel_rfl) (fun _ _ _ h => h) (by rfl) (v := ?_) (fun w hSw => ?_) hS ?_
        rotate_left
        · go_simp; try with_reducible rfl
        try go_frame
        refine pureY (i := 9) (oi := ⟨some 29, _, _, _, _, _⟩) rfl (by kernel_rfl) (by kernel_rfl) (by kernel_rfl) (by kernel_rfl) (by kernel_rfl) (fun _ _ _ h => h) (by rfl) (fun w hSw => run_cuts_l rfl rfl (l := k) rfl (by omega) (m := n - k) rfl) hS ?_
        try go_frame
        refine twoY (i := 3) (j := 5) (oi := ⟨some 23, _, _, _, _, _⟩) (oj := ⟨some 25, _, _, _, _, _⟩) (by kernel_rfl) rfl rfl (by rfl) (by rfl) (fun K hK => ?_) (fun K hK => ?_)
        · refine append_skI _ _ rfl W.heap.size (.slice none 0 0) 0 [] rfl (World.ownsRow_nil _ _ _ _) B A k c (l.take k) rfl (by rw [List.length_take, ← HN.out]; omega) HNN.out (rds_take (HR.out.below (hbB.trans (b0.mono hbz)))) (by omega) b0.size ?_
          intro v3 w3 own3 grow3
          rw [Nat.zero_add, List.nil_append] at own3
          have x3 := (Below.refl X0.heap.size X0).grown grow3 (Nat.le_refl _) (fun _ hk => by cases hk)
          have b3 := b0.trans (x3.mono b0.size)
          have hS : Below W.heap.size W w3 := b3
          refine hK _ _ (fun _ => hS) ?_
          clear hK K
          try go_frame
          refine oneY (i := 5) (oi := ⟨some 25, _, _, _, _, _⟩) (by kernel_rfl) rfl (by rfl) (fun K hK => ?_)
          refine valGI (run_bsS (s := s) rfl rfl) ?_
          have b5 := b3.alloc b3.size (.cells #[sk s] 9)
          have one := rds_oneS w3 s
          have own := own3.alloc (.cells #[sk s] 9)
          have hS := b5
          refine hK _ _ (fun _ => hS) ?_
          clear hK K
          generalize w3.alloc (.cells #[sk s] 9) = w5 at *
          obtain ⟨vb, hvb⟩ : ∃ vb, vb = w3.heap.size := ⟨_, rfl⟩
          rw [← hvb] at one ⊢
          clear hvb
          try go_frame
          try go_frame
          refine oneY (i := 6) (oi := ⟨some 26, _, _, _, _, _⟩) (by kernel_rfl) rfl (by rfl) (fun K hK => ?_)
          refine append_skI _ _ rfl W.heap.size v3 k _ rfl own w5.heap.size (some ⟨vb, 0, none⟩) 1 1 [s] rfl rfl (fun e => by cases e) one (by omega) b5.size ?_
          intro v6 w6 own6 grow6
          have b6 := b5.grown grow6 b5.size (fun k hk => own_block_ge own k hk)
          have hS := b6
          refine hK _ _ (fun _ => hS) ?_
          clear hK K
          try go_frame
          try go_frame
          refine oneY (i := 10) (oi := ⟨some 30, _, _, _, _, _⟩) (by kernel_rfl) rfl (by rfl) (fun K hK => ?_)
          refine append_skI _ _ rfl W.heap.size v6 (k + 1) _ rfl own6 B (cutS A c k) (n - k) (c - k) (l.drop k) rfl (by rw [List.length_drop, ← HN.out]) (cutS_none HNN.out) (rds_cutS (HR.out.below (hbB.trans (b6.mono hbz))) (by rw [← HN.out]; exact hc)) (by omega) b6.size ?_
          intro v10 w10 own10 grow10
          have b10 := b6.grown grow10 b6.size (fun k hk => own_block_ge own6 k hk)
          have hS := b10
          refine hK _ _ (fun _ => hS) ?_
          clear hK K
          try go_frame
          try go_frame
          refine oneY (i := 11) (oi := ⟨some 4, _, _, _, _, _⟩) (by kernel_rfl) rfl (by rfl) (fun K hK => ?_)
          refine valI (v := ?_) ?_ ?_
          rotate_left
          · go_simp; try with_reducible rfl
          refine hK _ _ (fun h => absurd h (by decide)) ?_
          clear hK K
          try go_frame
          refine doneY (by kernel_rfl) ?_ _
          go_wp2
          refine bodyPost_ret (results_tmp rfl _ _ _) rfl ⟨v10, rfl, own_baseS ?_ HWz.out, hbel.trans (b10.mono HWz.out)⟩
          have e1 : (insJ l s).map sk = (l.take k).map sk ++ [s].map sk ++ (l.drop k).map sk := by rw [HI.out, List.map_append, List.map_cons]; simp
          have e2 : n + 1 = k + 1 + (n - k) := by omega
          rw [e1, e2]; exact own10
        · refine valGI (run_bsS (s := s) rfl rfl) ?_
          have b5 := b0.alloc b0.size (.cells #[sk s] 9)
          have one := rds_oneS X0 s
          have hS := b5
          refine hK _ _ (fun _ => hS) ?_
          clear hK K
          generalize X0.alloc (.cells #[sk s] 9) = w5 at *
          obtain ⟨vb, hvb⟩ : ∃ vb, vb = X0.heap.size := ⟨_, rfl⟩
          rw [← hvb] at one ⊢
          clear hvb
          try go_frame
          refine oneY (i := 3) (oi := ⟨some 23, _, _, _, _, _⟩) (by kernel_rfl) rfl (by rfl) (fun K hK => ?_)
          refine append_skI _ _ rfl W.heap.size (.slice none 0 0) 0 [] rfl (World.ownsRow_nil _ _ _ _) B A k c (l.take k) rfl (by rw [List.length_take, ← HN.out]; omega) HNN.out (rds_take (HR.out.below (hbB.trans (b5.mono hbz)))) (by omega) b5.size ?_
          intro v3 w3 own3 grow3
          rw [Nat.zero_add, List.nil_append] at own3
          have x3 := (Below.refl w5.heap.size w5).grown grow3 (Nat.le_refl _) (fun _ hk => by cases hk)
          have b3 := b5.trans (x3.mono b5.size)
          have one3 := (one.below x3).more x3.size
          have hS : Below W.heap.size W w3 := b3
          refine hK _ _ (fun _ => hS) ?_
          clear hK K
          try go_frame
          try go_frame
          refine oneY (i := 6) (oi := ⟨some 26, _, _, _, _, _⟩) (by kernel_rfl) rfl (by rfl) (fun K hK => ?_)
          refine append_skI _ _ rfl W.heap.size v3 k _ rfl own3 w3.heap.size (some ⟨vb, 0, none⟩) 1 1 [s] rfl rfl (fun e => by cases e) one3 (by omega) b3.size ?_
          intro v6 w6 own6 grow6
          have b6 := b3.grown grow6 b3.size (fun k hk => own_block_ge own3 k hk)
          have hS := b6
          refine hK _ _ (fun _ => hS) ?_
          clear hK K
          try go_frame
          try go_frame
          refine oneY (i := 10) (oi := ⟨some 30, _, _, _, _, _⟩) (by kernel_rfl) rfl (by rfl) (fun K hK => ?_)
          refine append_skI _ _ rfl W.heap.size v6 (k + 1) _ rfl own6 B (cutS A c k) (n - k) (c - k) (l.drop k) rfl (by rw [List.length_drop, ← HN.out]) (cutS_none HNN.out) (rds_cutS (HR.out.below (hbB.trans (b6.mono hbz))) (by rw [← HN.out]; exact hc)) (by omega) b6.size ?_
          intro v10 w10 own10 grow10
          have b10 := b6.grown grow10 b6.size (fun k hk => own_block_ge own6 k hk)
          have hS := b10
          refine hK _ _ (fun _ => hS) ?_
          clear hK K
          try go_frame
          try go_frame
          refine oneY (i := 11) (oi := ⟨some 4, _, _, _, _, _⟩) (by kernel_rfl) rfl (by rfl) (fun K hK => ?_)
          refine valI (v := ?_) ?_ ?_
          rotate_left
          · go_simp; try with_reducible rfl
          refine hK _ _ (fun h => absurd h (by decide)) ?_
          clear hK K
          try go_frame
          refine doneY (by kernel_rfl) ?_ _
          go_wp2
          refine bodyPost_ret (results_tmp rfl _ _ _) rfl ⟨v10, rfl, own_baseS ?_ HWz.out, hbel.trans (b10.mono HWz.out)⟩
          have e1 : (insJ l s).map sk = (l.take k).map sk ++ [s].map sk ++ (l.drop k).map sk := by rw [HI.out, List.map_append, List.map_cons]; simp
          have e2 : n + 1 = k + 1 + (n - k) := by omega
          rw [e1, e2]; exact own10

    · obtain rfl : n = k := by omega
      have HI : Hid (insJ l s = l.take n ++ s :: l.drop n) := Lib.hid (by rw [HE.out, List.drop_eq_nil_of_le (by rw [← HN.out]; exact Nat.le_refl _)]; rfl)
      clear HE
      go_upto_region 4 with fail
      have hbB := hbel.mono hB
      have hbz : B ≤ wr.heap.size := Nat.le_trans hB hbel.size
      have HWz := Lib.hid hbel.size
      generalize wr = W at *
      refine regionY 11 (fun w' => Below W.heap.size W w') (by kernel_rfl) ?_
      have b0 : Below W.heap.size W W.drew := (Below.refl _ W).drew
      have hS : Below W.heap.size W W.drew := b0
      generalize W.drew = X0 at *
      refine pureY (i := 0) (oi := ⟨some 20, _, _, _, _, _⟩) rfl (by kernel_rfl) (by kernel_rfl) (by kernel_rfl) (by kernel_rfl) (by kernel_rfl) (fun _ _ _ h => h) (by rfl) (v := ?_) (fun w hSw => ?_) hS ?_
      rotate_left
      · go_simp; try with_reducible rfl
      try go_frame
      refine pureY (i := 1) (oi := ⟨some 21, _, _, _, _, _⟩) rfl (by kernel_rfl) (by kernel_rfl) (by kernel_rfl) (by kernel_rfl) (by kernel_rfl) (fun _ _ _ h => h) (by rfl) (v := ?_) (fun w hSw => ?_) hS ?_
      rotate_left
      · go_simp; try with_reducible rfl
      try go_frame
      refine pureY (i := 2) (oi := ⟨some 22, _, _, _, _, _⟩) rfl (by kernel_rfl) (by kernel_rfl) (by kernel_rfl) (by kernel_rfl) (by kernel_rfl) (fun _ _ _ h => h) (by rfl) (fun w hSw => run_cuts_h (h := (n : Int)) rfl rfl rfl (by omega) (by omega) (m := n) (by omega)) hS ?_
      try go_frame
      refine pureY (i := 4) (oi := ⟨some 24, _, _, _, _, _⟩) rfl (by kernel_rfl) (by kernel_rfl) (by kernel_rfl) (by kernel_rfl) (by kernel_rfl) (fun _ _ _ h => h) (by rfl) (v := ?_) (fun w hSw => ?_) hS ?_
      rotate_left
      · go_simp; try with_reducible rfl
      try go_frame
      refine pureY (i := 7) (oi := ⟨some 27, _, _, _, _, _⟩) rfl (by kernel_rfl) (by kernel_rfl) (by kernel_rfl) (by kernel_rfl) (by kernel_rfl) (fun _ _ _ h => h) (by rfl) (v := ?_) (fun w hSw => ?_) hS ?_
      rotate_left
      · go_simp; try with_reducible rfl
      try go_frame
      refine pureY (i := 8) (oi := ⟨some 28, _, _, _, _, _⟩) rfl (by kernel_rfl) (by kernel_rfl) (by kernel_rfl) (by kernel_rfl) (by kernel_rfl) (fun _ _ _ h => h) (by rfl) (v := ?_) (fun w hSw => ?_) hS ?_
      rotate_left
      · go_simp; try with_reducible rfl
      try go_frame
      refine pureY (i := 9) (oi := ⟨some 29, _, _, _, _, _⟩) rfl (by kernel_rfl) (by kernel_rfl) (by kernel_rfl) (by kernel_rfl) (by kernel_rfl) (fun _ _ _ h => h) (by rfl) (fun w hSw => run_cuts_l rfl rfl (l := n) rfl (by omega) (m := n - n) rfl) hS ?_
      try go_frame
      refine twoY (i := 3) (j := 5) (oi := ⟨some 23, _, _, _, _, _⟩) (oj := ⟨some 25, _, _, _, _, _⟩) (by kernel_rfl) rfl rfl (by rfl) (by rfl) (fun K hK => ?_) (fun K hK => ?_)
      · refine append_skI _ _ rfl W.heap.size (.slice none 0 0) 0 [] rfl (World.ownsRow_nil _ _ _ _) B A n c (l.take n) rfl (by rw [List.length_take, ← HN.out]; omega) HNN.out (rds_take (HR.out.below (hbB.trans (b0.mono hbz)))) (by omega) b0.size ?_
        intro v3 w3 own3 grow3
        rw [Nat.zero_add, List.nil_append] at own3
        have x3 := (Below.refl X0.heap.size X0).grown grow3 (Nat.le_refl _) (fun _ hk => by cases hk)
        have b3 := b0.trans (x3.mono b0.size)
        have hS : Below W.heap.size W w3 := b3
        refine hK _ _ (fun _ => hS) ?_
        clear hK K
        try go_frame
        refine oneY (i := 5) (oi := ⟨some 25, _, _, _, _, _⟩) (by kernel_rfl) rfl (by rfl) (fun K hK => ?_)
        refine valGI (run_bsS (s := s) rfl rfl) ?_
        have b5 := b3.alloc b3.size (.cells #[sk s] 9)
        have one := rds_oneS w3 s
        have own := own3.alloc (.cells #[sk s] 9)
        have hS := b5
        refine hK _ _ (fun _ => hS) ?_
        clear hK K
        generalize w3.alloc (.cells #[sk s] 9) = w5 at *
        obtain ⟨vb, hvb⟩ : ∃ vb, vb = w3.heap.size := ⟨_, rfl⟩
        rw [← hvb] at one ⊢
        clear hvb
        try go_frame
        try go_frame
        refine oneY (i := 6) (oi := ⟨some 26, _, _, _, _, _⟩) (by kernel_rfl) rfl (by rfl) (fun K hK => ?_)
        refine append_skI _ _ rfl W.heap.size v3 n _ rfl own w5.heap.size (some ⟨vb, 0, none⟩) 1 1 [s] rfl rfl (fun e => by cases e) one (by omega) b5.size ?_
        intro v6 w6 own6 grow6
        have b6 := b5.grown grow6 b5.size (fun k hk => own_block_ge own k hk)
        have hS := b6
        refine hK _ _ (fun _ => hS) ?_
        clear hK K
        try go_frame
        try go_frame
        refine oneY (i := 10) (oi := ⟨some 30, _, _, _, _, _⟩) (by kernel_rfl) rfl (by rfl) (fun K hK => ?_)
        refine append_skI _ _ rfl W.heap.size v6 (n + 1) _ rfl own6 B (cutS A c n) (n - n) (c - n) (l.drop n) rfl (by rw [List.length_drop, ← HN.out]) (cutS_none HNN.out) (rds_cutS (HR.out.below (hbB.trans (b6.mono hbz))) (by rw [← HN.out]; exact hc)) (by omega) b6.size ?_
        intro v10 w10 own10 grow10
        have b10 := b6.grown grow10 b6.size (fun k hk => own_block_ge own6 k hk)
        have hS := b10
        refine hK _ _ (fun _ => hS) ?_
        clear hK K
        try go_frame
        try go_frame
        refine oneY (i := 11) (oi := ⟨some 4, _, _, _, _, _⟩) (by kernel_rfl) rfl (by rfl) (fun K hK => ?_)
        refine valI (v := ?_) ?_ ?_
        rotate_left
        · go_simp; try with_reducible rfl
        refine hK _ _ (fun h => absurd h (by decide)) ?_
        clear hK K
        try go_frame
        refine doneY (by kernel_rfl) ?_ _
        go_wp2
        refine bodyPost_ret (results_tmp rfl _ _ _) rfl ⟨v10, rfl, own_baseS ?_ HWz.out, hbel.trans (b10.mono HWz.out)⟩
        have e1 : (insJ l s).map sk = (l.take n).map sk ++ [s].map sk ++ (l.drop n).map sk := by rw [HI.out, List.map_append, List.map_cons]; simp
        have e2 : n + 1 = n + 1 + (n - n) := by omega
        rw [e1, e2]; exact own10
      · refine valGI (run_bsS (s := s) rfl rfl) ?_
        have b5 := b0.alloc b0.size (.cells #[sk s] 9)
        have one := rds_oneS X0 s
        have hS := b5
        refine hK _ _ (fun _ => hS) ?_
        clear hK K
        generalize X0.alloc (.cells #[sk s] 9) = w5 at *
        obtain ⟨vb, hvb⟩ : ∃ vb, vb = X0.heap.size := ⟨_, rfl⟩
        rw [← hvb] at one ⊢
        clear hvb
        try go_frame
        refine oneY (i := 3) (oi := ⟨some 23, _, _, _, _, _⟩) (by kernel_rfl) rfl (by rfl) (fun K hK => ?_)
        refine append_skI _ _ rfl W.heap.size (.slice none 0 0) 0 [] rfl (World.ownsRow_nil _ _ _ _) B A n c (l.take n) rfl (by rw [List.length_take, ← HN.out]; omega) HNN.out (rds_take (HR.out.below (hbB.trans (b5.mono hbz)))) (by omega) b5.size ?_
        intro v3 w3 own3 grow3
        rw [Nat.zero_add, List.nil_append] at own3
        have x3 := (Below.refl w5.heap.size w5).grown grow3 (Nat.le_refl _) (fun _ hk => by cases hk)
        have b3 := b5.trans (x3.mono b5.size)
        have one3 := (one.below x3).more x3.size
        have hS : Below W.heap.size W w3 := b3
        refine hK _ _ (fun _ => hS) ?_
        clear hK K
        try go_frame
        try go_frame
        refine oneY (i := 6) (oi := ⟨some 26, _, _, _, _, _⟩) (by kernel_rfl) rfl (by rfl) (fun K hK => ?_)
        refine append_skI _ _ rfl W.heap.size v3 n _ rfl own3 w3.heap.size (some ⟨vb, 0, none⟩) 1 1 [s] rfl rfl (fun e => by cases e) one3 (by omega) b3.size ?_
        intro v6 w6 own6 grow6
        have b6 := b3.grown grow6 b3.size (fun k hk => own_block_ge own3 k hk)
        have hS := b6
        refine hK _ _ (fun _ => hS) ?_
        clear hK K
        try go_frame
        try go_frame
        refine oneY (i := 10) (oi := ⟨some 30, _, _, _, _, _⟩) (by kernel_rfl) rfl (by rfl) (fun K hK => ?_)
        refine append_skI _ _ rfl W.heap.size v6 (n + 1) _ rfl own6 B (cutS A c n) (n - n) (c - n) (l.drop n) rfl (by rw [List.length_drop, ← HN.out]) (cutS_none HNN.out) (rds_cutS (HR.out.below (hbB.trans (b6.mono hbz))) (by rw [← HN.out]; exact hc)) (by omega) b6.size ?_
        intro v10 w10 own10 grow10
        have b10 := b6.grown grow10 b6.size (fun k hk => own_block_ge own6 k hk)
        have hS := b10
        refine hK _ _ (fun _ => hS) ?_
        clear hK K
        try go_frame
        try go_frame
        refine oneY (i := 11) (oi := ⟨some 4, _, _, _, _, _⟩) (by kernel_rfl) rfl (by rfl) (fun K hK => ?_)
        refine valI (v := ?_) ?_ ?_
        rotate_left
        · go_simp; try with_reducible rfl
        refine hK _ _ (fun h => absurd h (by decide)) ?_
        clear hK K
        try go_frame
        refine doneY (by kernel_rfl) ?_ _
        go_wp2
        refine bodyPost_ret (results_tmp rfl _ _ _) rfl ⟨v10, rfl, own_baseS ?_ HWz.out, hbel.trans (b10.mono HWz.out)⟩
        have e1 : (insJ l s).map sk = (l.take n).map sk ++ [s].map sk ++ (l.drop n).map sk := by rw [HI.out, List.map_append, List.map_cons]; simp
        have e2 : n + 1 = n + 1 + (n - n) := by omega
        rw [e1, e2]; exact own10

end Go.Proofs.Ytghbliabmecbcaa

/-
  The document's Keys of layer 16. Conditions are each theorem's own.
-/
namespace Go.Proofs.Ytghbliabmecbcaa
open Go.RowKit Go.Shelf
/-- A row of texts of the call's own, as a slice that reads. -/
theorem own_keys {w : World} {base n : Nat} {v : Value} {K : List (List UInt8)} (h : w.ownsRow base 9 1 v n (K.map sk)) (hn : n = K.length) :
    ∃ A c, v = .slice A n c ∧ RdS clK 1 w w.heap.size A K ∧ K.length ≤ c ∧ (A = none → c = 0) := by
  obtain ⟨A, c, e, h1, h2⟩ := own_rds (cl := clK) h hn (flatK K).symm (fun _ _ => rfl)
  subst hn
  refine ⟨A, c, e, h1, h2, fun e2 => ?_⟩
  rcases h.2 with ⟨e3, _⟩ | ⟨b, cap, cur, e3, _⟩
  · rw [e] at e3; injection e3
  · rw [e, e2] at e3; injection e3 with e3; cases e3
theorem keysOf_step (L : List Bf) (x : Bf) : keysOf (L ++ [x]) = insJ (keysOf L) x.key := by unfold keysOf; rw [List.foldl_append]; rfl
set_option maxRecDepth 100000 in
set_option maxHeartbeats 1000000 in
theorem r16keys (A : Option Addr) (c : Nat) (l : List XB) (B g o : Nat) (most mb wait : Int) (w : World) (h : Tb w B g o A c l most mb wait) (hB : B ≤ w.heap.size) :
    Calls Try.prog 23 #[.pointer (some ⟨g, o, none⟩)] w fun e w' => ∃ v, e = .returned v ∧ w'.ownsRow w.heap.size 9 1 v l.length ((keysOf (tbE l)).map sk) ∧ Below w.heap.size w w' := by
  obtain ⟨n, hn⟩ : ∃ n, n = l.length := ⟨_, rfl⟩
  have HN := Lib.hid hn
  have HO := Lib.hid h
  have k0 := h.cell
  have hgz : g < w.heap.size := cell_block k0
  have hn1 : n ≤ 1000 := by rw [hn]; exact h.n
  have hn2 : n ≤ c := by rw [hn]; exact h.cap
  rw [← hn] at k0 ⊢
  have hw0 := World.ownsRow_nil w w.heap.size 9 1
  clear hn h
  go_enter Try.func23, Try.ntmps23
  go_wp2
  go_loopw [3, 4] (fun u i wr => ∃ (k : Nat) (v : Value), k ≤ n ∧ i = .int .i64 (k : Int) ∧ v = u ∧ Hid (wr.ownsRow w.heap.size 9 1 v k ((keysOf (tbE (l.take k))).map sk)) ∧ Below w.heap.size w wr)
    (fun _ i _ => n - (intOf i).toNat)
  case atStart => exact ⟨0, _, Nat.zero_le _, rfl, rfl, Lib.hid hw0, Below.refl _ _⟩
  case round =>
    obtain ⟨k, v, hk, rfl, rfl, HE, hbel⟩ := hrel
    clear hw0
    have kc := (hbel.cell (p := ⟨g, o, none⟩) hgz).trans k0
    have hz := hbel.size
    have hlk : k = (keysOf (tbE (l.take k))).length := by rw [keysOf_length, tbE, List.length_map, List.length_take, ← HN.out]; omega
    obtain ⟨A', c', rfl, hr', hc', hno⟩ := own_keys HE.out hlk
    by_cases hlt : k < n
    · obtain ⟨x, hx⟩ : ∃ x, l[k]? = some x := ⟨_, List.getElem?_eq_getElem (by rw [← HN.out]; exact hlt)⟩
      obtain ⟨b1, o1, e1, hb1', hr1⟩ := HO.out.rd (by rw [← HN.out]; omega)
      obtain rfl := e1
      have hr := range_below (hr1 k x hx) hb1' (hbel.mono hB)
      have kx0 : wr.cell? ⟨b1, o1 + k * 5, none⟩ = some (.string (strB x.key)) := by simpa using hr 0 _ rfl
      obtain ⟨K, hK⟩ : ∃ K, K = keysOf (tbE (l.take k)) := ⟨_, rfl⟩
      have HKS : Hid (keysOf (tbE (l.take (k + 1))) = insJ K x.key) := Lib.hid (by
        rw [List.take_add_one, hx, hK]
        show keysOf ((l.take k ++ [x]).map bfE) = _
        rw [List.map_append]
        exact keysOf_step _ _)
      rw [← hK] at hlk hr' hc'
      have hins := r16insert A' c' K x.key wr.heap.size wr hr' (Nat.le_refl _) hno hc' (by rw [← hlk]; omega)
      rw [← hlk] at hins
      have HINS := Lib.hid hins
      clear hr1 hx hr hins hr' hc' hno hlk hK
      go_wp2_with (go_at_call 39; refine HINS.out.mono ?_; rintro e w3 ⟨v3, rfl, own3, x3⟩)
      go_roundw
      case rel => exact ⟨k + 1, v3, by omega, by simp, rfl, Lib.hid (by rw [HKS.out]; exact own_baseS own3 hz), hbel.trans (x3.mono hz)⟩
      case measure => simp [intOf]; omega
    · obtain rfl : n = k := by omega
      clear hr' hc' hno hlk
      go_wp2
      refine bodyPost_ret (results_tmp rfl _ _ _) rfl ⟨_, rfl, ?_, hbel⟩
      have := HE.out
      rwa [List.take_of_length_le (by rw [← HN.out]; exact Nat.le_refl _)] at this
end Go.Proofs.Ytghbliabmecbcaa

/-
  The document's table of layer 16, and what it owns; Expire. Conditions are each theorem's own.
-/
namespace Go.Proofs.Ytghbliabmecbcaa
open Go.RowKit Go.Shelf
theorem clB_len (x : XB) : (clB x).length = 5 := rfl
theorem clB_one (x : XB) : ∀ u ∈ clB x, u.oneCell' = true := fun u hu => by simp [clB] at hu; rcases hu with rfl | rfl | rfl | rfl | rfl <;> rfl
theorem info_b : (Try.prog.info? 82).map (fun i => (i.zero, i.size, i.bytes)) = some (some (.agg #[.string ByteArray.empty, .int .i64 0, .slice none 0 0, .string ByteArray.empty, .bool false]), 5, 72) := by kernel_rfl
/-- What a buffer owns. -/
structure XO (w : World) (x : XB) : Prop where
  own : w.ownsRow 0 142 3 (.slice x.A x.l.length x.c) x.l.length (x.l.flatMap clP)
  byt : ∀ y ∈ x.l, w.ownsRow 0 5 1 (.slice y.A y.p.b.length y.c) y.p.b.length (row y.p.b)
  ok : ∀ y ∈ x.l, okP y.p
  n : x.l.length ≤ 1000
/-- The document's table in block g. -/
structure Rj (w : World) (g : Nat) (v : Value) (t : List XB) (most mb wait : Int) : Prop where
  tab : w.heap[g]? = some (.cells #[v, .int .i64 most, .int .i64 mb, .int .i64 wait] 44 (0, 0))
  own : w.ownsRow 0 82 5 v t.length (t.flatMap clB)
  parts : ∀ x ∈ t, XO w x
  n : t.length ≤ 1000
section
variable {w w' : World} {g : Nat} {v : Value} {t : List XB} {most mb wait now : Int}
theorem XO.kept {S : Nat → Prop} {T : TypeId → Prop} {x : XB} (h : XO w x) (k : Kept S w w') (hS : OfT w S T) (h1 : ¬ T 142) (h2 : ¬ T 5) : XO w' x :=
  ⟨own_keptO h.own k hS h1, fun y hy => own_keptO (h.byt y hy) k hS h2, h.ok, h.n⟩
theorem XO.below {x : XB} (h : XO w x) (hb : Below w.heap.size w w') : XO w' x := ⟨own_below h.own hb, fun y hy => own_below (h.byt y hy) hb, h.ok, h.n⟩
theorem Rj.kept {S : Nat → Prop} {T : TypeId → Prop} (h : Rj w g v t most mb wait) (k : Kept S w w') (hS : OfT w S T) (h1 : ¬ T 44) (h2 : ¬ T 82) (h3 : ¬ T 142) (h4 : ¬ T 5) : Rj w' g v t most mb wait :=
  ⟨(k.block g (heap_lt h.tab) (fun s => h1 (hS.not s h.tab))).trans h.tab, own_keptO h.own k hS h2, fun x hx => (h.parts x hx).kept k hS h3 h4, h.n⟩
theorem Rj.below (h : Rj w g v t most mb wait) (hb : Below w.heap.size w w') : Rj w' g v t most mb wait :=
  ⟨(hb.block g (heap_lt h.tab)).trans h.tab, own_below h.own hb, fun x hx => (h.parts x hx).below hb, h.n⟩
theorem own_noneB {e sz n c : Nat} {A : Option Addr} {xs : List Value} {base : Nat} (h : w.ownsRow base e sz (.slice A n c) n xs) : A = none → c = 0 := fun e2 => by
  rcases h.2 with ⟨e3, _⟩ | ⟨b, cap, cur, e3, _⟩
  · injection e3
  · rw [e2] at e3; injection e3 with e3; cases e3
theorem XO.okX {x : XB} (h : XO w x) : okX w w.heap.size x := by
  obtain ⟨A', c', e, hr, hc⟩ := own_rds h.own rfl rfl (fun _ _ => rfl)
  injection e with e1 e2 e3
  refine ⟨by rw [e3]; exact hc, by rw [e1]; exact hr, fun y hy => arg_own (h.byt y hy), h.ok, h.n, own_noneB h.own⟩
theorem Rj.sh (h : Rj w g v t most mb wait) : ∃ A c, v = .slice A t.length c ∧ Tb w w.heap.size g 0 A c t most mb wait ∧ (A = none → c = 0) := by
  obtain ⟨A, c, e, h1, h2⟩ := own_rds h.own rfl rfl (fun x _ => clB_len x)
  subst e
  exact ⟨A, c, rfl, ⟨cells_at (i := 0) h.tab rfl, cells_at (i := 1) h.tab rfl, cells_at (i := 2) h.tab rfl, cells_at (i := 3) h.tab rfl, heap_lt h.tab, h2, h1, fun x hx => (h.parts x hx).okX, h.n⟩, own_noneB h.own⟩
theorem Rj.at_ {A : Option Addr} {m c : Nat} (h : Rj w g (.slice A m c) t most mb wait) {k : Nat} {x : XB} (hx : t[k]? = some x) : ∃ b, A = some ⟨b, 0, none⟩ ∧ w.rangeAt b (k * 5) (clB x) := by
  have hk := (List.getElem?_eq_some_iff.1 hx).1
  rcases h.own.2 with ⟨_, h0⟩ | ⟨b, cap, cur, e3, _⟩
  · omega
  · injection e3 with e1 e2 e4
    refine ⟨b, e1, fun i u hi => ?_⟩
    have hf := flat_at (cl := clB) (sz := 5) t (fun x _ => clB_len x) k x hx i u hi
    have hl := (List.getElem?_eq_some_iff.1 hf).1
    rw [flat_len t (fun x _ => clB_len x)] at hl
    subst e1; subst e2
    have := World.ownsRow.cellAt h.own (k * 5 + i) hl
    rw [hf] at this
    exact this
theorem neB : 82 ≠ 44 ∧ 142 ≠ 44 ∧ 5 ≠ 44 := ⟨nat_ne (by kernel_rfl), nat_ne (by kernel_rfl), nat_ne (by kernel_rfl)⟩
theorem own_setB {e sz n base i : Nat} {u : Value} {xs : List Value} {v2 : Value} (ht : w.heap[g]? = some (.cells #[v, .int .i64 most, .int .i64 mb, .int .i64 wait] 44 (0, 0))) (h : w.ownsRow base e sz u n xs) (hne : e ≠ 44) : (w.setCell ⟨g, i, none⟩ v2).ownsRow 0 e sz u n xs := by
  refine ⟨h.1, ?_⟩
  rcases h.2 with hn | ⟨b, cap, cur, hv, _, hh, rest⟩
  · exact .inl hn
  · refine .inr ⟨b, cap, cur, hv, Nat.zero_le _, (heap_setCell_other w ⟨g, i, none⟩ b v2 (fun e1 => ?_)).trans hh, rest⟩
    have e1 : b = g := by first | exact e1 | exact e1.symm
    rw [e1, ht] at hh
    injection hh with hh
    injection hh with _ e2 _
    exact hne e2.symm
theorem Rj.put {base : Nat} {u : Value} {R : List XB} (ht : w.heap[g]? = some (.cells #[v, .int .i64 most, .int .i64 mb, .int .i64 wait] 44 (0, 0))) (ho : w.ownsRow base 82 5 u R.length (R.flatMap clB)) (hp : ∀ x ∈ R, XO w x) (hn : R.length ≤ 1000) : Rj (w.setCell ⟨g, 0, none⟩ u) g u R most mb wait :=
  ⟨heap_setCell_same w g 0 _ _ u ht, own_setB ht ho neB.1, fun x hx => ⟨own_setB ht (hp x hx).own neB.2.1, fun y hy => own_setB ht ((hp x hx).byt y hy) neB.2.2, (hp x hx).ok, (hp x hx).n⟩, hn⟩
def stayB (wait now : Int) (t : List XB) : List XB := t.filter fun x => !goneJ wait now (bfE x)
theorem stayB_tb : tbE (stayB wait now t) = expL (tbE t) wait now := by
  unfold stayB tbE expL
  induction t with
  | nil => rfl
  | cons x t ih =>
    rw [List.filter_cons, List.map_cons, List.filter_cons]
    split
    · rw [List.map_cons, ih]
    · exact ih
theorem exp_step {k : Nat} {x : XB} (hx : t[k]? = some x) : (goneJ wait now (bfE x) = false → stayB wait now (t.take (k + 1)) = stayB wait now (t.take k) ++ [x] ∧ expK (tbE (t.take (k + 1))) wait now = expK (tbE (t.take k)) wait now) ∧
    (goneJ wait now (bfE x) = true → stayB wait now (t.take (k + 1)) = stayB wait now (t.take k) ∧ expK (tbE (t.take (k + 1))) wait now = insJ (expK (tbE (t.take k)) wait now) x.key) := by
  have e1 : t.take (k + 1) = t.take k ++ [x] := by rw [List.take_add_one, hx]; rfl
  have e2 : tbE (t.take k ++ [x]) = tbE (t.take k) ++ [bfE x] := by simp [tbE]
  refine ⟨fun h => ⟨?_, ?_⟩, fun h => ⟨?_, ?_⟩⟩
  · rw [e1, stayB, List.filter_append, List.filter_cons_of_pos (by rw [h]; rfl)]; rfl
  · rw [e1, e2, expK, List.filter_append, List.filter_cons_of_neg (by rw [h]; decide), List.filter_nil, List.append_nil]; rfl
  · rw [e1, stayB, List.filter_append, List.filter_cons_of_neg (by rw [h]; decide), List.filter_nil, List.append_nil]; rfl
  · rw [e1, e2, expK, List.filter_append, List.filter_cons_of_pos h, List.filter_nil, keysOf_step]; rfl
end
theorem run_load_bf {o : Oper} {a : Act} {w : World} {x : Operand} {g i : Nat} {cs : List Value} (ho : o.op = .load 82 x) (hx : a.eval x = .pointer (some ⟨g, i, none⟩)) (hr : w.rangeAt g i cs) (hl : cs.length = 5) :
    (execOp a.eval o).run Try.prog w = .ok (.value (.agg cs.toArray)) w := by
  have h := run_loadVar_mid (P := Try.prog) w g i 82 cs _ hr Try.underlying82 rfl (by rw [hl]; kernel_rfl)
  unfold execOp
  simp only [ho, hx, Instr.loadAt, Instr.sureAddr, Sem.run_bind, Sem.run_pure, Result.andThen_ok, h]
theorem run_bsB {o : Oper} {a : Act} {w : World} {x : Operand} {cs : Array Value} (ho : o.op = .buildSlice 42 1 #[(0, x)]) (hx : a.eval x = .agg cs) (hl : cs.size = 5) :
    (execOp a.eval o).run Try.prog w = .ok (.value (.slice (some ⟨w.heap.size, 0, none⟩) 1 1)) (w.alloc (.cells cs 82)) := by
  obtain ⟨i0, hi, hz0, hz1, hz2⟩ := info_parts info_b
  have h := run_lit1 (P := Try.prog) w 42 82 i0 _ cs 5 Try.underlying42 hi hz0 hz1 hl (by decide) (by decide)
  unfold execOp
  simp only [ho, List.map_toArray, List.map_cons, List.map_nil, hx, Sem.run_bind, h, Result.andThen_ok]
  rfl
theorem list_growB {P : Program} {ops : Array Oper} {rest : List Oper} {o : Oper} {a : Act} {w w' : World} {Q : Exit → Act → World → Prop} {v : Value} (hg : o.guard = none) (hrun : (execOp a.eval o).run P w = .ok (.value v) w')
    (h : wpList P ops Q rest (a.put o.dst v) w') : wpList P ops Q (o :: rest) a w :=
  wpList_plain hg fun _ hK => by unfold Oper.wp; rw [hrun]; exact hK _ _ h
theorem append_bL {w : World} {ops : Array Oper} {rest : List Oper} {o : Oper} {a : Act} {Q : Exit → Act → World → Prop} (hgd : o.guard = none) (s x : Operand)
    (ho : o.op = .call { callee := .builtin .append, args := #[s, x], argTypes := #[42, 42] })
    (base : Nat) (v : Value) (S : List XB) (hs : a.eval s = v) (hown : w.ownsRow base 82 5 v S.length (S.flatMap clB))
    (g : Nat) (y : XB) (hx : a.eval x = .slice (some ⟨g, 0, none⟩) 1 1) (hy : w.rangeAt g 0 (clB y))
    (hlen : S.length ≤ 1000000) (hbase : base ≤ w.heap.size)
    (h : ∀ v' w', w'.ownsRow base 82 5 v' (S ++ [y]).length ((S ++ [y]).flatMap clB) → w.grownBy w' v.ownBlock → wpList Try.prog ops Q rest (a.put o.dst v') w') : wpList Try.prog ops Q (o :: rest) a w := by
  obtain ⟨i0, hi, hz0, hz1, hz2⟩ := info_parts info_b
  refine wpList_append_own w hgd s x 42 ho base 82 i0 _ 5 72 Try.underlying42 hi hz0 hz1 hz2 rfl (by decide) v S.length (S.flatMap clB) hs hown ⟨g, 0, none⟩ 1 1 (clB y) hx
      (clB_len y) (fun j u hu => ?_) (clB_one y) (by unfold maxLen; omega) (by omega) hbase (fun v' w' h1 h2 _ => h v' w' ?_ h2)
  · rw [add_off]; exact hy j u hu
  · rw [List.length_append, List.flatMap_append]
    simpa using h1
section
variable {w : World} {g : Nat} {v : Value} {t : List XB} {most mb wait now : Int}
set_option maxRecDepth 100000 in
set_option maxHeartbeats 4000000 in
theorem r16expire (h : Rj w g v t most mb wait) (hw0 : 0 ≤ wait ∧ wait ≤ 1099511627776) (hnow : -9223372036854775808 ≤ now ∧ now ≤ 9223372036854775807) :
    Calls Try.prog 15 #[.pointer (some ⟨g, 0, none⟩), .int .i64 now] w fun e w' => ∃ u v', e = .returned u ∧ w'.ownsRow w.heap.size 9 1 u (expK (tbE t) wait now).length ((expK (tbE t) wait now).map sk) ∧
      Rj w' g v' (stayB wait now t) most mb wait ∧ Kept (fun k => k = g) w w' ∧ ∀ j, v'.ownBlock = some j → w.heap.size ≤ j := by
  obtain ⟨A, c, rfl, hTb, hnn⟩ := h.sh
  obtain ⟨n, hn⟩ : ∃ n, n = t.length := ⟨_, rfl⟩
  have HN := Lib.hid hn
  have hn1 : n ≤ 1000 := by rw [hn]; exact h.n
  have hcap : n ≤ c := by rw [hn]; exact hTb.cap
  rw [← hn] at h
  have H := Lib.hid h
  have h5 := World.ownsRow_nil w w.heap.size 9 1
  have h6 := World.ownsRow_nil w w.heap.size 82 5
  clear h hn hTb
  go_enter Try.func15, Try.ntmps15
  go_wp2
  go_loopw [5, 6, 7] (fun a5 a6 i wr => ∃ (k : Nat) (u5 u6 : Value), k ≤ n ∧ i = .int .i64 (k : Int) ∧ u5 = a5 ∧ u6 = a6 ∧
      Hid (wr.ownsRow w.heap.size 9 1 u5 (expK (tbE (t.take k)) wait now).length ((expK (tbE (t.take k)) wait now).map sk)) ∧
      Hid (wr.ownsRow w.heap.size 82 5 u6 (stayB wait now (t.take k)).length ((stayB wait now (t.take k)).flatMap clB)) ∧ Below w.heap.size w wr)
    (fun _ _ i _ => n - (intOf i).toNat)
  case atStart => exact ⟨0, _, _, Nat.zero_le _, rfl, rfl, rfl, Lib.hid h5, Lib.hid h6, Below.refl _ _⟩
  case round =>
    obtain ⟨k, u5, u6, hk, rfl, rfl, rfl, H5, H6, hbel⟩ := hrel
    clear h5 h6
    have hq := H.out.below hbel
    have hgz := heap_lt hq.tab
    have hz := hbel.size
    have kt : wr.cell? ⟨g, 0, none⟩ = some (.slice A n c) := cells_at (i := 0) hq.tab rfl
    have HTB := Lib.hid hq.tab
    have KT : Hid (∀ V, Below wr.heap.size wr V → V.cell? ⟨g, 0, none⟩ = some (.slice A n c)) := Lib.hid fun V hV => cells_at (i := 0) ((hV.block g hgz).trans HTB.out) rfl
    have KW : Hid (∀ V, Below wr.heap.size wr V → V.cell? ⟨g, 3, none⟩ = some (.int .i64 wait)) := Lib.hid fun V hV => cells_at (i := 3) ((hV.block g hgz).trans HTB.out) rfl
    by_cases hkn : k < n
    · obtain ⟨x, hx⟩ : ∃ x, t[k]? = some x := ⟨_, List.getElem?_eq_getElem (by rw [← HN.out]; exact hkn)⟩
      obtain ⟨b, rfl, hr⟩ := hq.at_ hx
      have KR : Hid (∀ V, Below wr.heap.size wr V → V.rangeAt b (k * 5) (clB x)) := Lib.hid fun V hV => by
        obtain ⟨b9, e9, h9⟩ := (hq.below hV).at_ hx
        injection e9 with e9
        injection e9 with e9 _ _
        rw [e9]; exact h9
      have KS : Hid (∀ V, Below wr.heap.size wr V → V.cell? ⟨b, k * 5 + 1, none⟩ = some (.int .i64 x.since)) := Lib.hid fun V hV => by simpa using KR.out V hV 1 _ rfl
      have HST := Lib.hid (exp_step (wait := wait) (now := now) hx)
      have hle6 : (stayB wait now (t.take k)).length ≤ 1000000 := by
        have h1 : (stayB wait now (t.take k)).length ≤ (t.take k).length := List.length_filter_le _ _
        rw [List.length_take] at h1
        omega
      have hle5 : (expK (tbE (t.take k)) wait now).length ≤ 1000 := by
        have h1 : ((tbE (t.take k)).filter (goneJ wait now)).length ≤ (tbE (t.take k)).length := List.length_filter_le _ _
        rw [tbE, List.length_map, List.length_take] at h1
        rw [expK, keysOf_length]
        show ((tbE (t.take k)).filter (goneJ wait now)).length ≤ 1000
        have h2 : ((tbE (t.take k)).filter (goneJ wait now)).length ≤ min k t.length := h1
        omega
      clear hq hr hx
      by_cases hw : now < wait
      · have dw : decide (wait ≤ now) = false := decide_eq_false (by omega)
        have hg : goneJ wait now (bfE x) = false := by unfold goneJ; rw [decide_eq_false (by omega)]; rfl
        go_upto_region 6 with fail
        refine wp_region_held_drew (S := fun w' => Below wr.heap.size wr w') (by kernel_rfl) (Below.refl _ _).drew (fun hS => ?_)
        refine held_pure (i := 0) (oi := ⟨some 17, _, _, _, _, _⟩) rfl (by kernel_rfl) (by kernel_rfl) (by kernel_rfl) (fun _ _ _ h => h) (by rfl) (v := ?_) (fun w hSw => ?_) hS (fun hS => ?_)
        rotate_left
        · go_simp; try with_reducible rfl
        try go_frame
        refine held_pure (i := 1) (oi := ⟨some 18, _, _, _, _, _⟩) rfl (by kernel_rfl) (by kernel_rfl) (by kernel_rfl) (fun _ _ _ h => h) (by rfl) (v := ?_) (fun w hSw => ?_) hS (fun hS => ?_)
        rotate_left
        · go_simp; try with_reducible rfl
        try go_frame
        refine held_pure (i := 2) (oi := ⟨some 19, _, _, _, _, _⟩) rfl (by kernel_rfl) (by kernel_rfl) (by kernel_rfl) (fun _ _ _ h => h) (by rfl) (v := ?_) (fun w hSw => ?_) hS (fun hS => ?_)
        rotate_left
        · go_simp; try with_reducible rfl
        try go_frame
        refine held_pure (i := 3) (oi := ⟨some 20, _, _, _, _, _⟩) rfl (by kernel_rfl) (by kernel_rfl) (by kernel_rfl) (fun _ _ _ h => h) (by rfl) (v := ?_) (fun w hSw => ?_) hS (fun hS => ?_)
        rotate_left
        · go_simp; try with_reducible rfl
        try go_frame
        refine held_pure (i := 4) (oi := ⟨some 21, _, _, _, _, _⟩) rfl (by kernel_rfl) (by kernel_rfl) (by kernel_rfl) (fun _ _ _ h => h) (by rfl) (fun w hSw => run_load_int rfl rfl (KW.out _ hSw)) hS (fun hS => ?_)
        try go_frame
        refine held_pure (i := 5) (oi := ⟨some 22, _, _, _, _, _⟩) rfl (by kernel_rfl) (by kernel_rfl) (by kernel_rfl) (fun _ _ _ h => h) (by rfl) (v := .bool false) (fun w hSw => by go_simp; try exact dw) hS (fun hS => ?_)
        try go_frame
        refine held_pure (i := 6) (oi := ⟨some 23, _, _, _, _, _⟩) rfl (by kernel_rfl) (by kernel_rfl) (by kernel_rfl) (fun _ _ _ h => h) (by rfl) (v := ?_) (fun w hSw => ?_) hS (fun hS => ?_)
        rotate_left
        · go_simp; try with_reducible rfl
        try go_frame
        refine held_skip (i := 7) (oi := ⟨some 24, _, _, _, _, _⟩) rfl (by kernel_rfl) (by kernel_rfl) (by kernel_rfl) (fun _ _ _ h => h) (by rfl) hS (fun hS => ?_)
        try go_frame
        refine held_skip (i := 8) (oi := ⟨some 25, _, _, _, _, _⟩) rfl (by kernel_rfl) (by kernel_rfl) (by kernel_rfl) (fun _ _ _ h => h) (by rfl) hS (fun hS => ?_)
        try go_frame
        refine held_skip (i := 9) (oi := ⟨some 26, _, _, _, _, _⟩) rfl (by kernel_rfl) (by kernel_rfl) (by kernel_rfl) (fun _ _ _ h => h) (by rfl) hS (fun hS => ?_)
        try go_frame
        refine held_skip (i := 10) (oi := ⟨some 27, _, _, _, _, _⟩) rfl (by kernel_rfl) (by kernel_rfl) (by kernel_rfl) (fun _ _ _ h => h) (by rfl) hS (fun hS => ?_)
        try go_frame
        refine held_skip (i := 11) (oi := ⟨some 28, _, _, _, _, _⟩) rfl (by kernel_rfl) (by kernel_rfl) (by kernel_rfl) (fun _ _ _ h => h) (by rfl) hS (fun hS => ?_)
        try go_frame
        refine held_skip (i := 12) (oi := ⟨some 29, _, _, _, _, _⟩) rfl (by kernel_rfl) (by kernel_rfl) (by kernel_rfl) (fun _ _ _ h => h) (by rfl) hS (fun hS => ?_)
        try go_frame
        refine held_skip (i := 13) (oi := ⟨some 30, _, _, _, _, _⟩) rfl (by kernel_rfl) (by kernel_rfl) (by kernel_rfl) (fun _ _ _ h => h) (by rfl) hS (fun hS => ?_)
        try go_frame
        refine held_skip (i := 14) (oi := ⟨some 31, _, _, _, _, _⟩) rfl (by kernel_rfl) (by kernel_rfl) (by kernel_rfl) (fun _ _ _ h => h) (by rfl) hS (fun hS => ?_)
        try go_frame
        refine held_skip (i := 15) (oi := ⟨some 32, _, _, _, _, _⟩) rfl (by kernel_rfl) (by kernel_rfl) (by kernel_rfl) (fun _ _ _ h => h) (by rfl) hS (fun hS => ?_)
        try go_frame
        refine held_skip (i := 16) (oi := ⟨some 33, _, _, _, _, _⟩) rfl (by kernel_rfl) (by kernel_rfl) (by kernel_rfl) (fun _ _ _ h => h) (by rfl) hS (fun hS => ?_)
        try go_frame
        refine held_skip (i := 17) (oi := ⟨some 34, _, _, _, _, _⟩) rfl (by kernel_rfl) (by kernel_rfl) (by kernel_rfl) (fun _ _ _ h => h) (by rfl) hS (fun hS => ?_)
        try go_frame
        refine held_skip (i := 18) (oi := ⟨some 35, _, _, _, _, _⟩) rfl (by kernel_rfl) (by kernel_rfl) (by kernel_rfl) (fun _ _ _ h => h) (by rfl) hS (fun hS => ?_)
        try go_frame
        refine held_skip (i := 19) (oi := ⟨some 36, _, _, _, _, _⟩) rfl (by kernel_rfl) (by kernel_rfl) (by kernel_rfl) (fun _ _ _ h => h) (by rfl) hS (fun hS => ?_)
        try go_frame
        refine held_skip (i := 20) (oi := ⟨some 37, _, _, _, _, _⟩) rfl (by kernel_rfl) (by kernel_rfl) (by kernel_rfl) (fun _ _ _ h => h) (by rfl) hS (fun hS => ?_)
        try go_frame
        refine held_skip (i := 21) (oi := ⟨some 38, _, _, _, _, _⟩) rfl (by kernel_rfl) (by kernel_rfl) (by kernel_rfl) (fun _ _ _ h => h) (by rfl) hS (fun hS => ?_)
        try go_frame
        refine held_pure (i := 22) (oi := ⟨some 39, _, _, _, _, _⟩) rfl (by kernel_rfl) (by kernel_rfl) (by kernel_rfl) (fun _ _ _ h => h) (by rfl) (v := .bool false) (fun w hSw => by go_simp) hS (fun hS => ?_)
        try go_frame
        refine wpAnyH_done (by kernel_rfl) ?_ _
        have hbD : Below w.heap.size w wr.drew := hbel.drew
        have KTD : wr.drew.cell? ⟨g, 0, none⟩ = some (.slice (some ⟨b, 0, none⟩) n c) := KT.out _ (Below.refl _ _).drew
        have hrD : wr.drew.rangeAt b (k * 5) (clB x) := KR.out _ (Below.refl _ _).drew
        have HE : Hid ((stayB wait now (t.take (k + 1))) = stayB wait now (t.take k) ++ [x] ∧ expK (tbE (t.take (k + 1))) wait now = expK (tbE (t.take k)) wait now) := Lib.hid (HST.out.1 hg)
        obtain ⟨V2, hV2⟩ : ∃ V2, V2 = wr.drew.alloc (.cells (clB x).toArray 82) := ⟨_, rfl⟩
        have HV2 := Lib.hid hV2
        have hrV2 : V2.rangeAt wr.drew.heap.size 0 (clB x) := by rw [hV2]; exact range_heap (World.alloc_heap_new _ _)
        have hOV2 : V2.ownsRow w.heap.size 82 5 u6 (stayB wait now (t.take k)).length ((stayB wait now (t.take k)).flatMap clB) := by rw [hV2]; exact (own_below H6.out ((Below.refl wr.heap.size wr).drew)).alloc _
        have hO52 : V2.ownsRow w.heap.size 9 1 u5 (expK (tbE (t.take k)) wait now).length ((expK (tbE (t.take k)) wait now).map sk) := by rw [hV2]; exact (own_below H5.out ((Below.refl wr.heap.size wr).drew)).alloc _
        have HO52 := Lib.hid hO52
        have hbV2 : Below w.heap.size w V2 := by rw [hV2]; exact hbD.alloc hbD.size _
        have hzV := hbV2.size
        clear hV2 hg hO52
        go_wp2_with (first
          | ((with_reducible show wpList _ _ _ (Oper.mk _ (Op.load 82 _) _ _ _ _ :: _) _ _); refine wpList_val rfl (run_load_bf rfl rfl hrD rfl) ?_)
          | ((with_reducible show wpList _ _ _ (Oper.mk _ (Op.buildSlice _ _ _) _ _ _ _ :: _) _ _); refine list_growB rfl (run_bsB (cs := (clB x).toArray) rfl rfl rfl) ?_; rw [← HV2.out])
          | (at_builtin; refine append_bL rfl _ _ rfl w.heap.size _ (stayB wait now (t.take k)) rfl hOV2 wr.drew.heap.size x rfl hrV2 hle6 hzV ?_; intro v' w3 hown' hgrow; have Q3 := Lib.hid hown'; have q5 := hbV2.grown hgrow hzV (fun k hk => own_block_ge hOV2 k hk); have Q5 := Lib.hid (own_keepT HO52.out hOV2 hgrow (nat_ne (by kernel_rfl))); clear hown' hgrow))
        go_roundw
        case rel => exact ⟨k + 1, _, _, by omega, by simp, rfl, rfl, Lib.hid (by rw [HE.out.2]; exact Q5.out), Lib.hid (by rw [HE.out.1]; exact Q3.out), q5⟩
        case measure => simp [intOf]; omega
      · have dw : decide (wait ≤ now) = true := decide_eq_true (by omega)
        have HWR := Lib.hid (IntWalk.i64_in (now - wait) (by omega))
        by_cases hsx : x.since ≤ now - wait
        · have dg : decide (x.since ≤ now - wait) = true := decide_eq_true hsx
          have hg : goneJ wait now (bfE x) = true := by unfold goneJ; rw [decide_eq_true (by omega), show decide ((bfE x).since ≤ now - wait) = true from dg]; rfl
          go_upto_region 6 with fail
          refine wp_region_held_drew (S := fun w' => Below wr.heap.size wr w') (by kernel_rfl) (Below.refl _ _).drew (fun hS => ?_)
          refine held_pure (i := 0) (oi := ⟨some 17, _, _, _, _, _⟩) rfl (by kernel_rfl) (by kernel_rfl) (by kernel_rfl) (fun _ _ _ h => h) (by rfl) (v := ?_) (fun w hSw => ?_) hS (fun hS => ?_)
          rotate_left
          · go_simp; try with_reducible rfl
          try go_frame
          refine held_pure (i := 1) (oi := ⟨some 18, _, _, _, _, _⟩) rfl (by kernel_rfl) (by kernel_rfl) (by kernel_rfl) (fun _ _ _ h => h) (by rfl) (v := ?_) (fun w hSw => ?_) hS (fun hS => ?_)
          rotate_left
          · go_simp; try with_reducible rfl
          try go_frame
          refine held_pure (i := 2) (oi := ⟨some 19, _, _, _, _, _⟩) rfl (by kernel_rfl) (by kernel_rfl) (by kernel_rfl) (fun _ _ _ h => h) (by rfl) (v := ?_) (fun w hSw => ?_) hS (fun hS => ?_)
          rotate_left
          · go_simp; try with_reducible rfl
          try go_frame
          refine held_pure (i := 3) (oi := ⟨some 20, _, _, _, _, _⟩) rfl (by kernel_rfl) (by kernel_rfl) (by kernel_rfl) (fun _ _ _ h => h) (by rfl) (v := ?_) (fun w hSw => ?_) hS (fun hS => ?_)
          rotate_left
          · go_simp; try with_reducible rfl
          try go_frame
          refine held_pure (i := 4) (oi := ⟨some 21, _, _, _, _, _⟩) rfl (by kernel_rfl) (by kernel_rfl) (by kernel_rfl) (fun _ _ _ h => h) (by rfl) (fun w hSw => run_load_int rfl rfl (KW.out _ hSw)) hS (fun hS => ?_)
          try go_frame
          refine held_pure (i := 5) (oi := ⟨some 22, _, _, _, _, _⟩) rfl (by kernel_rfl) (by kernel_rfl) (by kernel_rfl) (fun _ _ _ h => h) (by rfl) (v := .bool true) (fun w hSw => by go_simp; try exact dw) hS (fun hS => ?_)
          try go_frame
          refine held_pure (i := 6) (oi := ⟨some 23, _, _, _, _, _⟩) rfl (by kernel_rfl) (by kernel_rfl) (by kernel_rfl) (fun _ _ _ h => h) (by rfl) (v := ?_) (fun w hSw => ?_) hS (fun hS => ?_)
          rotate_left
          · go_simp; try with_reducible rfl
          try go_frame
          refine held_pure (i := 7) (oi := ⟨some 24, _, _, _, _, _⟩) rfl (by kernel_rfl) (by kernel_rfl) (by kernel_rfl) (fun _ _ _ h => h) (by rfl) (v := ?_) (fun w hSw => ?_) hS (fun hS => ?_)
          rotate_left
          · go_simp; try with_reducible rfl
          try go_frame
          refine held_pure (i := 8) (oi := ⟨some 25, _, _, _, _, _⟩) rfl (by kernel_rfl) (by kernel_rfl) (by kernel_rfl) (fun _ _ _ h => h) (by rfl) (v := ?_) (fun w hSw => ?_) hS (fun hS => ?_)
          rotate_left
          · go_simp; try with_reducible rfl
          try go_frame
          refine held_pure (i := 9) (oi := ⟨some 26, _, _, _, _, _⟩) rfl (by kernel_rfl) (by kernel_rfl) (by kernel_rfl) (fun _ _ _ h => h) (by rfl) (v := ?_) (fun w hSw => ?_) hS (fun hS => ?_)
          rotate_left
          · go_simp; try with_reducible rfl
          try go_frame
          refine held_pure (i := 10) (oi := ⟨some 27, _, _, _, _, _⟩) rfl (by kernel_rfl) (by kernel_rfl) (by kernel_rfl) (fun _ _ _ h => h) (by rfl) (fun w hSw => run_load_bs rfl rfl (KT.out _ hSw)) hS (fun hS => ?_)
          try go_frame
          refine held_pure (i := 11) (oi := ⟨some 28, _, _, _, _, _⟩) rfl (by kernel_rfl) (by kernel_rfl) (by kernel_rfl) (fun _ _ _ h => h) (by rfl) (v := ?_) (fun w hSw => ?_) hS (fun hS => ?_)
          rotate_left
          · go_simp; try with_reducible rfl
          try go_frame
          refine held_pure (i := 12) (oi := ⟨some 29, _, _, _, _, _⟩) rfl (by kernel_rfl) (by kernel_rfl) (by kernel_rfl) (fun _ _ _ h => h) (by rfl) (v := .pointer (some ⟨b, k * 5, none⟩)) (fun w hSw => by go_simp; try exact fun h => absurd h (by omega)) hS (fun hS => ?_)
          try go_frame
          refine held_pure (i := 13) (oi := ⟨some 30, _, _, _, _, _⟩) rfl (by kernel_rfl) (by kernel_rfl) (by kernel_rfl) (fun _ _ _ h => h) (by rfl) (v := ?_) (fun w hSw => ?_) hS (fun hS => ?_)
          rotate_left
          · go_simp; try with_reducible rfl
          try go_frame
          refine held_pure (i := 14) (oi := ⟨some 31, _, _, _, _, _⟩) rfl (by kernel_rfl) (by kernel_rfl) (by kernel_rfl) (fun _ _ _ h => h) (by rfl) (fun w hSw => run_load_int rfl rfl (KS.out _ hSw)) hS (fun hS => ?_)
          try go_frame
          refine held_pure (i := 15) (oi := ⟨some 32, _, _, _, _, _⟩) rfl (by kernel_rfl) (by kernel_rfl) (by kernel_rfl) (fun _ _ _ h => h) (by rfl) (v := ?_) (fun w hSw => ?_) hS (fun hS => ?_)
          rotate_left
          · go_simp; try with_reducible rfl
          try go_frame
          refine held_pure (i := 16) (oi := ⟨some 33, _, _, _, _, _⟩) rfl (by kernel_rfl) (by kernel_rfl) (by kernel_rfl) (fun _ _ _ h => h) (by rfl) (v := ?_) (fun w hSw => ?_) hS (fun hS => ?_)
          rotate_left
          · go_simp; try with_reducible rfl
          try go_frame
          refine held_pure (i := 17) (oi := ⟨some 34, _, _, _, _, _⟩) rfl (by kernel_rfl) (by kernel_rfl) (by kernel_rfl) (fun _ _ _ h => h) (by rfl) (v := ?_) (fun w hSw => ?_) hS (fun hS => ?_)
          rotate_left
          · go_simp; try with_reducible rfl
          try go_frame
          refine held_pure (i := 18) (oi := ⟨some 35, _, _, _, _, _⟩) rfl (by kernel_rfl) (by kernel_rfl) (by kernel_rfl) (fun _ _ _ h => h) (by rfl) (v := ?_) (fun w hSw => ?_) hS (fun hS => ?_)
          rotate_left
          · go_simp; try with_reducible rfl
          try go_frame
          refine held_pure (i := 19) (oi := ⟨some 36, _, _, _, _, _⟩) rfl (by kernel_rfl) (by kernel_rfl) (by kernel_rfl) (fun _ _ _ h => h) (by rfl) (fun w hSw => run_load_int rfl rfl (KW.out _ hSw)) hS (fun hS => ?_)
          try go_frame
          refine held_pure (i := 20) (oi := ⟨some 37, _, _, _, _, _⟩) rfl (by kernel_rfl) (by kernel_rfl) (by kernel_rfl) (fun _ _ _ h => h) (by rfl) (v := .int .i64 (now - wait)) (fun w hSw => by go_simp; try exact HWR.out) hS (fun hS => ?_)
          try go_frame
          refine held_pure (i := 21) (oi := ⟨some 38, _, _, _, _, _⟩) rfl (by kernel_rfl) (by kernel_rfl) (by kernel_rfl) (fun _ _ _ h => h) (by rfl) (v := .bool true) (fun w hSw => by go_simp; try exact dg) hS (fun hS => ?_)
          try go_frame
          refine held_pure (i := 22) (oi := ⟨some 39, _, _, _, _, _⟩) rfl (by kernel_rfl) (by kernel_rfl) (by kernel_rfl) (fun _ _ _ h => h) (by rfl) (v := .bool true) (fun w hSw => by go_simp) hS (fun hS => ?_)
          try go_frame
          refine wpAnyH_done (by kernel_rfl) ?_ _
          have hbD : Below w.heap.size w wr.drew := hbel.drew
          have KTD : wr.drew.cell? ⟨g, 0, none⟩ = some (.slice (some ⟨b, 0, none⟩) n c) := KT.out _ (Below.refl _ _).drew
          have hrD : wr.drew.rangeAt b (k * 5) (clB x) := KR.out _ (Below.refl _ _).drew
          have HE : Hid ((stayB wait now (t.take (k + 1))) = stayB wait now (t.take k) ∧ expK (tbE (t.take (k + 1))) wait now = insJ (expK (tbE (t.take k)) wait now) x.key) := Lib.hid (HST.out.2 hg)
          obtain ⟨A', c', rfl, hr', hc', hno⟩ := own_keys H5.out rfl
          obtain ⟨K, hK⟩ : ∃ K, K = expK (tbE (t.take k)) wait now := ⟨_, rfl⟩
          rw [← hK] at HE hr' hc' hle5 ⊢
          have hrD' : RdS clK 1 wr.drew wr.drew.heap.size A' K := hr'
          have HINS := Lib.hid (r16insert A' c' K x.key wr.drew.heap.size wr.drew hrD' (Nat.le_refl _) hno hc' hle5)
          have kx0 : wr.drew.cell? ⟨b, k * 5, none⟩ = some (.string (strB x.key)) := by simpa using hrD 0 _ rfl
          have H6D := Lib.hid (own_below H6.out ((Below.refl wr.heap.size wr).drew))
          have HKL := Lib.hid (insJ_length K x.key)
          have hzD := hbD.size
          clear hg hr' hc' hno hK hrD'
          go_wp2_with (go_at_call 39; refine HINS.out.mono ?_; rintro e w3 ⟨v3, rfl, own3, x3⟩; have O3 := Lib.hid own3; have O6 := Lib.hid (own_below H6D.out x3); clear own3)
          go_roundw
          case rel => exact ⟨k + 1, v3, _, by omega, by simp, rfl, rfl, Lib.hid (by rw [HE.out.2, HKL.out]; exact own_baseS O3.out hzD), Lib.hid (by rw [HE.out.1]; exact O6.out), hbD.trans (x3.mono hzD)⟩
          case measure => simp [intOf]; omega
        · have dg : decide (x.since ≤ now - wait) = false := decide_eq_false hsx
          have hg : goneJ wait now (bfE x) = false := by unfold goneJ; rw [decide_eq_true (by omega), show decide ((bfE x).since ≤ now - wait) = false from dg]; rfl
          go_upto_region 6 with fail
          refine wp_region_held_drew (S := fun w' => Below wr.heap.size wr w') (by kernel_rfl) (Below.refl _ _).drew (fun hS => ?_)
          refine held_pure (i := 0) (oi := ⟨some 17, _, _, _, _, _⟩) rfl (by kernel_rfl) (by kernel_rfl) (by kernel_rfl) (fun _ _ _ h => h) (by rfl) (v := ?_) (fun w hSw => ?_) hS (fun hS => ?_)
          rotate_left
          · go_simp; try with_reducible rfl
          try go_frame
          refine held_pure (i := 1) (oi := ⟨some 18, _, _, _, _, _⟩) rfl (by kernel_rfl) (by kernel_rfl) (by kernel_rfl) (fun _ _ _ h => h) (by rfl) (v := ?_) (fun w hSw => ?_) hS (fun hS => ?_)
          rotate_left
          · go_simp; try with_reducible rfl
          try go_frame
          refine held_pure (i := 2) (oi := ⟨some 19, _, _, _, _, _⟩) rfl (by kernel_rfl) (by kernel_rfl) (by kernel_rfl) (fun _ _ _ h => h) (by rfl) (v := ?_) (fun w hSw => ?_) hS (fun hS => ?_)
          rotate_left
          · go_simp; try with_reducible rfl
          try go_frame
          refine held_pure (i := 3) (oi := ⟨some 20, _, _, _, _, _⟩) rfl (by kernel_rfl) (by kernel_rfl) (by kernel_rfl) (fun _ _ _ h => h) (by rfl) (v := ?_) (fun w hSw => ?_) hS (fun hS => ?_)
          rotate_left
          · go_simp; try with_reducible rfl
          try go_frame
          refine held_pure (i := 4) (oi := ⟨some 21, _, _, _, _, _⟩) rfl (by kernel_rfl) (by kernel_rfl) (by kernel_rfl) (fun _ _ _ h => h) (by rfl) (fun w hSw => run_load_int rfl rfl (KW.out _ hSw)) hS (fun hS => ?_)
          try go_frame
          refine held_pure (i := 5) (oi := ⟨some 22, _, _, _, _, _⟩) rfl (by kernel_rfl) (by kernel_rfl) (by kernel_rfl) (fun _ _ _ h => h) (by rfl) (v := .bool true) (fun w hSw => by go_simp; try exact dw) hS (fun hS => ?_)
          try go_frame
          refine held_pure (i := 6) (oi := ⟨some 23, _, _, _, _, _⟩) rfl (by kernel_rfl) (by kernel_rfl) (by kernel_rfl) (fun _ _ _ h => h) (by rfl) (v := ?_) (fun w hSw => ?_) hS (fun hS => ?_)
          rotate_left
          · go_simp; try with_reducible rfl
          try go_frame
          refine held_pure (i := 7) (oi := ⟨some 24, _, _, _, _, _⟩) rfl (by kernel_rfl) (by kernel_rfl) (by kernel_rfl) (fun _ _ _ h => h) (by rfl) (v := ?_) (fun w hSw => ?_) hS (fun hS => ?_)
          rotate_left
          · go_simp; try with_reducible rfl
          try go_frame
          refine held_pure (i := 8) (oi := ⟨some 25, _, _, _, _, _⟩) rfl (by kernel_rfl) (by kernel_rfl) (by kernel_rfl) (fun _ _ _ h => h) (by rfl) (v := ?_) (fun w hSw => ?_) hS (fun hS => ?_)
          rotate_left
          · go_simp; try with_reducible rfl
          try go_frame
          refine held_pure (i := 9) (oi := ⟨some 26, _, _, _, _, _⟩) rfl (by kernel_rfl) (by kernel_rfl) (by kernel_rfl) (fun _ _ _ h => h) (by rfl) (v := ?_) (fun w hSw => ?_) hS (fun hS => ?_)
          rotate_left
          · go_simp; try with_reducible rfl
          try go_frame
          refine held_pure (i := 10) (oi := ⟨some 27, _, _, _, _, _⟩) rfl (by kernel_rfl) (by kernel_rfl) (by kernel_rfl) (fun _ _ _ h => h) (by rfl) (fun w hSw => run_load_bs rfl rfl (KT.out _ hSw)) hS (fun hS => ?_)
          try go_frame
          refine held_pure (i := 11) (oi := ⟨some 28, _, _, _, _, _⟩) rfl (by kernel_rfl) (by kernel_rfl) (by kernel_rfl) (fun _ _ _ h => h) (by rfl) (v := ?_) (fun w hSw => ?_) hS (fun hS => ?_)
          rotate_left
          · go_simp; try with_reducible rfl
          try go_frame
          refine held_pure (i := 12) (oi := ⟨some 29, _, _, _, _, _⟩) rfl (by kernel_rfl) (by kernel_rfl) (by kernel_rfl) (fun _ _ _ h => h) (by rfl) (v := .pointer (some ⟨b, k * 5, none⟩)) (fun w hSw => by go_simp; try exact fun h => absurd h (by omega)) hS (fun hS => ?_)
          try go_frame
          refine held_pure (i := 13) (oi := ⟨some 30, _, _, _, _, _⟩) rfl (by kernel_rfl) (by kernel_rfl) (by kernel_rfl) (fun _ _ _ h => h) (by rfl) (v := ?_) (fun w hSw => ?_) hS (fun hS => ?_)
          rotate_left
          · go_simp; try with_reducible rfl
          try go_frame
          refine held_pure (i := 14) (oi := ⟨some 31, _, _, _, _, _⟩) rfl (by kernel_rfl) (by kernel_rfl) (by kernel_rfl) (fun _ _ _ h => h) (by rfl) (fun w hSw => run_load_int rfl rfl (KS.out _ hSw)) hS (fun hS => ?_)
          try go_frame
          refine held_pure (i := 15) (oi := ⟨some 32, _, _, _, _, _⟩) rfl (by kernel_rfl) (by kernel_rfl) (by kernel_rfl) (fun _ _ _ h => h) (by rfl) (v := ?_) (fun w hSw => ?_) hS (fun hS => ?_)
          rotate_left
          · go_simp; try with_reducible rfl
          try go_frame
          refine held_pure (i := 16) (oi := ⟨some 33, _, _, _, _, _⟩) rfl (by kernel_rfl) (by kernel_rfl) (by kernel_rfl) (fun _ _ _ h => h) (by rfl) (v := ?_) (fun w hSw => ?_) hS (fun hS => ?_)
          rotate_left
          · go_simp; try with_reducible rfl
          try go_frame
          refine held_pure (i := 17) (oi := ⟨some 34, _, _, _, _, _⟩) rfl (by kernel_rfl) (by kernel_rfl) (by kernel_rfl) (fun _ _ _ h => h) (by rfl) (v := ?_) (fun w hSw => ?_) hS (fun hS => ?_)
          rotate_left
          · go_simp; try with_reducible rfl
          try go_frame
          refine held_pure (i := 18) (oi := ⟨some 35, _, _, _, _, _⟩) rfl (by kernel_rfl) (by kernel_rfl) (by kernel_rfl) (fun _ _ _ h => h) (by rfl) (v := ?_) (fun w hSw => ?_) hS (fun hS => ?_)
          rotate_left
          · go_simp; try with_reducible rfl
          try go_frame
          refine held_pure (i := 19) (oi := ⟨some 36, _, _, _, _, _⟩) rfl (by kernel_rfl) (by kernel_rfl) (by kernel_rfl) (fun _ _ _ h => h) (by rfl) (fun w hSw => run_load_int rfl rfl (KW.out _ hSw)) hS (fun hS => ?_)
          try go_frame
          refine held_pure (i := 20) (oi := ⟨some 37, _, _, _, _, _⟩) rfl (by kernel_rfl) (by kernel_rfl) (by kernel_rfl) (fun _ _ _ h => h) (by rfl) (v := .int .i64 (now - wait)) (fun w hSw => by go_simp; try exact HWR.out) hS (fun hS => ?_)
          try go_frame
          refine held_pure (i := 21) (oi := ⟨some 38, _, _, _, _, _⟩) rfl (by kernel_rfl) (by kernel_rfl) (by kernel_rfl) (fun _ _ _ h => h) (by rfl) (v := .bool false) (fun w hSw => by go_simp; try exact dg) hS (fun hS => ?_)
          try go_frame
          refine held_pure (i := 22) (oi := ⟨some 39, _, _, _, _, _⟩) rfl (by kernel_rfl) (by kernel_rfl) (by kernel_rfl) (fun _ _ _ h => h) (by rfl) (v := .bool false) (fun w hSw => by go_simp) hS (fun hS => ?_)
          try go_frame
          refine wpAnyH_done (by kernel_rfl) ?_ _
          have hbD : Below w.heap.size w wr.drew := hbel.drew
          have KTD : wr.drew.cell? ⟨g, 0, none⟩ = some (.slice (some ⟨b, 0, none⟩) n c) := KT.out _ (Below.refl _ _).drew
          have hrD : wr.drew.rangeAt b (k * 5) (clB x) := KR.out _ (Below.refl _ _).drew
          have HE : Hid ((stayB wait now (t.take (k + 1))) = stayB wait now (t.take k) ++ [x] ∧ expK (tbE (t.take (k + 1))) wait now = expK (tbE (t.take k)) wait now) := Lib.hid (HST.out.1 hg)
          obtain ⟨V2, hV2⟩ : ∃ V2, V2 = wr.drew.alloc (.cells (clB x).toArray 82) := ⟨_, rfl⟩
          have HV2 := Lib.hid hV2
          have hrV2 : V2.rangeAt wr.drew.heap.size 0 (clB x) := by rw [hV2]; exact range_heap (World.alloc_heap_new _ _)
          have hOV2 : V2.ownsRow w.heap.size 82 5 u6 (stayB wait now (t.take k)).length ((stayB wait now (t.take k)).flatMap clB) := by rw [hV2]; exact (own_below H6.out ((Below.refl wr.heap.size wr).drew)).alloc _
          have hO52 : V2.ownsRow w.heap.size 9 1 u5 (expK (tbE (t.take k)) wait now).length ((expK (tbE (t.take k)) wait now).map sk) := by rw [hV2]; exact (own_below H5.out ((Below.refl wr.heap.size wr).drew)).alloc _
          have HO52 := Lib.hid hO52
          have hbV2 : Below w.heap.size w V2 := by rw [hV2]; exact hbD.alloc hbD.size _
          have hzV := hbV2.size
          clear hV2 hg hO52
          go_wp2_with (first
            | ((with_reducible show wpList _ _ _ (Oper.mk _ (Op.load 82 _) _ _ _ _ :: _) _ _); refine wpList_val rfl (run_load_bf rfl rfl hrD rfl) ?_)
            | ((with_reducible show wpList _ _ _ (Oper.mk _ (Op.buildSlice _ _ _) _ _ _ _ :: _) _ _); refine list_growB rfl (run_bsB (cs := (clB x).toArray) rfl rfl rfl) ?_; rw [← HV2.out])
            | (at_builtin; refine append_bL rfl _ _ rfl w.heap.size _ (stayB wait now (t.take k)) rfl hOV2 wr.drew.heap.size x rfl hrV2 hle6 hzV ?_; intro v' w3 hown' hgrow; have Q3 := Lib.hid hown'; have q5 := hbV2.grown hgrow hzV (fun k hk => own_block_ge hOV2 k hk); have Q5 := Lib.hid (own_keepT HO52.out hOV2 hgrow (nat_ne (by kernel_rfl))); clear hown' hgrow))
          go_roundw
          case rel => exact ⟨k + 1, _, _, by omega, by simp, rfl, rfl, Lib.hid (by rw [HE.out.2]; exact Q5.out), Lib.hid (by rw [HE.out.1]; exact Q3.out), q5⟩
          case measure => simp [intOf]; omega
    · obtain rfl : n = k := by omega
      have hLk : t.take n = t := List.take_of_length_le (by rw [← HN.out]; exact Nat.le_refl _)
      rw [hLk] at H5 H6
      obtain ⟨A', c', e5, _, _⟩ := own_rds H6.out rfl rfl (fun x _ => clB_len x)
      obtain ⟨m, hm⟩ : ∃ m, m = (stayB wait now t).length := ⟨_, rfl⟩
      rw [← hm] at e5
      subst e5
      have kf := heap_frozen HTB.out 0
      have HPX : Hid (∀ x ∈ stayB wait now t, XO wr x) := Lib.hid fun x hx => hq.parts x (List.mem_filter.1 hx).1
      have HLE : Hid ((stayB wait now t).length ≤ 1000) := Lib.hid (by have h1 : (stayB wait now t).length ≤ t.length := List.length_filter_le _ _; have := HN.out; omega)
      have HU5 : Hid ((wr.setCell ⟨g, 0, none⟩ (.slice A' m c')).ownsRow w.heap.size 9 1 u5 (expK (tbE t) wait now).length ((expK (tbE t) wait now).map sk)) := Lib.hid (by
        refine ⟨H5.out.1, ?_⟩
        rcases H5.out.2 with h0 | ⟨b, cap, cur, hv, hb, hh, rest⟩
        · exact .inl h0
        · refine .inr ⟨b, cap, cur, hv, hb, (heap_setCell_other wr ⟨g, 0, none⟩ b _ (fun e1 => ?_)).trans hh, rest⟩
          have e1 : b = g := by first | exact e1 | exact e1.symm
          rw [e1, HTB.out] at hh
          injection hh with hh
          injection hh with _ e2 _
          exact absurd e2.symm (nat_ne (by kernel_rfl)))
      clear hLk hm hq
      go_wp2
      refine bodyPost_ret (results_tmp rfl _ _ _) rfl ⟨u5, _, rfl, HU5.out, Rj.put HTB.out H6.out HPX.out HLE.out, (Kept.of_below hbel).trans (Kept.setCell wr g 0 _) (fun _ _ e => e), fun j hj => own_block_ge H6.out j hj⟩
end
end Go.Proofs.Ytghbliabmecbcaa

/-
  Rows of buffers, cut and joined; the document's without of layer 16. Conditions are each theorem's own.
-/
namespace Go.Proofs.Ytghbliabmecbcaa
open Go.RowKit Go.Shelf
def cutB5 (A : Option Addr) (c k : Nat) : Option Addr := if c = k then A else A.map (·.add (k * 5))
theorem cutB5_none {A : Option Addr} {c k : Nat} (h : A = none → c = 0) : cutB5 A c k = none → c - k = 0 := fun e => by
  unfold cutB5 at e
  split at e
  · omega
  · cases A with
    | none => have := h rfl; omega
    | some a => cases e
theorem rds_takeB {w : World} {B k : Nat} {A : Option Addr} {l : List XB} (h : RdS clB 5 w B A l) : RdS clB 5 w B A (l.take k) := fun hn => by
  rw [List.length_take] at hn
  obtain ⟨b', off', e, hb, hc⟩ := h (by omega)
  refine ⟨_, _, e, hb, fun j x hx => hc j x ?_⟩
  rw [List.getElem?_take] at hx
  split at hx
  · exact hx
  · cases hx
theorem rds_cutB {w : World} {B k c : Nat} {A : Option Addr} {l : List XB} (h : RdS clB 5 w B A l) (hc : l.length ≤ c) : RdS clB 5 w B (cutB5 A c k) (l.drop k) := fun hn => by
  rw [List.length_drop] at hn
  obtain ⟨b', off', e, hb, hr⟩ := h (by omega)
  refine ⟨b', off' + k * 5, by rw [cutB5, if_neg (by omega), e]; show some (Addr.add ⟨b', off', none⟩ (k * 5)) = _; rw [add_off], hb, fun j x hx => ?_⟩
  rw [List.getElem?_drop] at hx
  have := hr (k + j) x hx
  rwa [show off' + (k + j) * 5 = off' + k * 5 + j * 5 by omega] at this
theorem slice_B : Try.prog.underlying 42 = some (.slice (Try.prog.elem 42)) := by kernel_rfl
theorem run_cutb_l {o : Oper} {a : Act} {w : World} {x lo : Operand} {A : Option Addr} {n c l m : Nat} (ho : o.op = .slice 42 x (some lo) none none) (hx : a.eval x = .slice A n c) (hl : a.eval lo = .int .i64 (l : Int)) (hn : l ≤ n) (hm : m = n - l) :
    (execOp a.eval o).run Try.prog w = .ok (.value (.slice (cutB5 A c l) m (c - l))) w := by
  subst hm
  have h1 := run_slice_l (P := Try.prog) (w := w) 42 A n c slice_B .i64 (l : Int) (by omega) (by omega)
  unfold execOp
  simp only [ho, hx, hl, Option.map, Sem.run_bind, run_sliceAt_slice _ _ _ _ _ _ slice_B, h1]
  go_simp
  rfl
theorem run_cutb_h {o : Oper} {a : Act} {w : World} {x hi : Operand} {A : Option Addr} {n c m : Nat} {h : Int} (ho : o.op = .slice 42 x none (some hi) none) (hx : a.eval x = .slice A n c) (hh : a.eval hi = .int .i64 h)
    (h0 : 0 ≤ h) (h2 : h ≤ (c : Int)) (hm : m = h.toNat) :
    (execOp a.eval o).run Try.prog w = .ok (.value (.slice A m c)) w := by
  subst hm
  have h1 := run_slice_h (P := Try.prog) (w := w) 42 A n c slice_B .i64 h h0 h2
  unfold execOp
  simp only [ho, hx, hh, Option.map, Sem.run_bind, run_sliceAt_slice _ _ _ _ _ _ slice_B, h1]
  go_simp
theorem flatB_len (l : List XB) : (l.flatMap clB).length = l.length * 5 := flat_len l (fun x _ => clB_len x)
theorem rds_srcB {w : World} {B : Nat} {ad : Addr} {l : List XB} (hr : RdS clB 5 w B (some ad) l) : ∀ j u, (l.flatMap clB)[j]? = some u → w.cell? (ad.add j) = some u := fun j u hj => by
  have hj3 : j < l.length * 5 := by have := (List.getElem?_eq_some_iff.1 hj).1; rwa [flatB_len] at this
  obtain ⟨b, off, e, _, hc⟩ := hr (by omega)
  injection e with e
  subst e
  obtain ⟨y, hy⟩ : ∃ y, l[j / 5]? = some y := ⟨_, List.getElem?_eq_getElem (by omega)⟩
  have h2 : j % 5 < (clB y).length := by rw [clB_len]; omega
  have hf := flat_at (cl := clB) (sz := 5) l (fun x _ => clB_len x) (j / 5) y hy (j % 5) _ (List.getElem?_eq_getElem h2)
  rw [show j / 5 * 5 + j % 5 = j from by omega, hj] at hf
  injection hf with hf
  have h8 := hc (j / 5) y hy (j % 5) _ (List.getElem?_eq_getElem h2)
  rw [← hf, show off + j / 5 * 5 + j % 5 = off + j from by omega] at h8
  rw [add_off]; exact h8
theorem ones_B (l : List XB) : ∀ u ∈ l.flatMap clB, u.oneCell' = true := fun u hu => by
  obtain ⟨y, _, h⟩ := List.mem_flatMap.1 hu
  exact clB_one y u h
section
variable {n : Nat} {o : Oper} {a : Act} {w : World} {K : Act → World → Prop} {Q : Exit → Act → World → Prop}
theorem store_bsI {x y : Operand} {p : Addr} {v0 : Value} {A : Option Addr} {m c : Nat} (ho : o.op = .store 42 x y) (hx : a.eval x = .pointer (some p)) (hy : a.eval y = .slice A m c) (hc : w.cell? p = some v0) (hf : w.frozen? p = false)
    (h : K (a.put o.dst undef) (w.setCell p (.slice A m c))) : o.wpIn Fence.wide n Try.prog a w K Q := by
  refine skipI (w' := w.setCell p (.slice A m c)) ?_ h
  unfold execOp
  simp only [ho, hx, hy, Instr.storeAt, Instr.sureAddr, Sem.run_bind, Sem.run_pure, Result.andThen_ok]
  go_simp
theorem append_bI (s x : Operand) (ho : o.op = .call { callee := .builtin .append, args := #[s, x], argTypes := #[42, 42] })
    (base : Nat) (v : Value) (m : Nat) (xs : List Value) (hs : a.eval s = v) (hown : w.ownsRow base 82 5 v m xs)
    (B : Nat) (A : Option Addr) (k c : Nat) (l : List XB) (hx : a.eval x = .slice A k c) (hk : k = l.length) (hA : A = none → c = 0) (hr : RdS clB 5 w B A l)
    (hlen : m + k ≤ 1000000) (hbase : base ≤ w.heap.size)
    (h : ∀ v' w', w'.ownsRow base 82 5 v' (m + k) (xs ++ l.flatMap clB) → w.grownBy w' v.ownBlock → K (a.put o.dst v') w') : o.wpIn Fence.wide n Try.prog a w K Q := by
  obtain ⟨i0, hi, hz0, hz1, hz2⟩ := info_parts info_b
  subst hk
  rcases A with _ | ad
  · have h0 : l = [] := by
      rcases Nat.eq_zero_or_pos l.length with e | e
      · exact List.eq_nil_of_length_eq_zero e
      · obtain ⟨_, _, e', _⟩ := hr e; cases e'
    subst h0
    obtain rfl := hA rfl
    have hrun := run_append_owned_none (P := Try.prog) (w := w) base 42 o.type 82 i0 5 Try.underlying42 hi v m xs hown
    refine growI (v := v) (w' := w) ?_ (h v w (by simpa using hown) (World.grownBy.refl w _))
    simp [execOp, ho, resolve, invoke, builtin, hs, hx, hrun, Result.andThen]
  · obtain ⟨v', w', hrun, h1, h2, _⟩ := run_append_own (P := Try.prog) w base 42 o.type 82 i0 _ 5 72 Try.underlying42 hi hz0 hz1 hz2 rfl (by decide) v m xs hown ad l.length c (l.flatMap clB)
      (flatB_len l) (rds_srcB hr) (ones_B l) (by unfold maxLen; omega) (by omega) hbase
    refine growI (v := v') (w' := w') ?_ (h v' w' h1 h2)
    simp [execOp, ho, resolve, invoke, builtin, hs, hx, hrun, Result.andThen]
end
theorem XO.below' {w w' : World} {x : XB} (h : XO w x) (hb : Below w.heap.size w w') : XO w' x := h.below hb
theorem erase_len (t : List XB) (k : Nat) : (t.eraseIdx k).length ≤ t.length := by
  rw [List.length_eraseIdx]; split <;> omega
section
variable {w : World} {g : Nat} {v : Value} {t : List XB} {most mb wait : Int}
set_option maxRecDepth 100000 in
set_option maxHeartbeats 4000000 in
theorem r16without (h : Rj w g v t most mb wait) (k : Nat) (hk : k < t.length) :
    Calls Try.prog 47 #[.pointer (some ⟨g, 0, none⟩), .int .i64 (k : Int)] w fun e w' => e = .returned (.tuple #[]) ∧ ∃ v', Rj w' g v' (t.eraseIdx k) most mb wait ∧ Kept (fun k => k = g) w w' ∧ ∀ j, v'.ownBlock = some j → w.heap.size ≤ j := by
  obtain ⟨A, c, rfl, hTb, hnn⟩ := h.sh
  obtain ⟨n, hn⟩ : ∃ n, n = t.length := ⟨_, rfl⟩
  have HN := Lib.hid hn
  have HNN := Lib.hid hnn
  have HRD := Lib.hid hTb.rd
  have hn1 : n ≤ 1000 := by rw [hn]; exact h.n
  have hcap : n ≤ c := by rw [hn]; exact hTb.cap
  have HPX := Lib.hid h.parts
  rw [← hn] at h hk
  have HTB := Lib.hid h.tab
  have hgz := heap_lt h.tab
  have HKT : Hid (∀ V, Below w.heap.size w V → V.cell? ⟨g, 0, none⟩ = some (.slice A n c)) := Lib.hid fun V hV => cells_at (i := 0) ((hV.block g hgz).trans HTB.out) rfl
  have HWK := Lib.hid (IntWalk.i64_in ((k : Int) + 1) (by omega))
  clear h hn hTb hnn
  go_enter Try.func47, Try.ntmps47
  refine regionY 16 (fun w' => Below w.heap.size w w') (by kernel_rfl) ?_
  have b0 : Below w.heap.size w w.drew := (Below.refl _ w).drew
  have hS : Below w.heap.size w w.drew := b0
  generalize w.drew = X0 at *
  refine pureY (i := 0) (oi := ⟨some 4, _, _, _, _, _⟩) rfl (by kernel_rfl) (by kernel_rfl) (by kernel_rfl) (by kernel_rfl) (by kernel_rfl) (fun _ _ _ h => h) (by rfl) (v := ?_) (fun w hSw => ?_) hS ?_
  rotate_left
  · go_simp; try with_reducible rfl
  try go_frame
  refine pureY (i := 1) (oi := ⟨some 5, _, _, _, _, _⟩) rfl (by kernel_rfl) (by kernel_rfl) (by kernel_rfl) (by kernel_rfl) (by kernel_rfl) (fun _ _ _ h => h) (by rfl) (v := ?_) (fun w hSw => ?_) hS ?_
  rotate_left
  · go_simp; try with_reducible rfl
  try go_frame
  refine pureY (i := 2) (oi := ⟨some 6, _, _, _, _, _⟩) rfl (by kernel_rfl) (by kernel_rfl) (by kernel_rfl) (by kernel_rfl) (by kernel_rfl) (fun _ _ _ h => h) (by rfl) (v := ?_) (fun w hSw => ?_) hS ?_
  rotate_left
  · go_simp; try with_reducible rfl
  try go_frame
  refine pureY (i := 3) (oi := ⟨some 7, _, _, _, _, _⟩) rfl (by kernel_rfl) (by kernel_rfl) (by kernel_rfl) (by kernel_rfl) (by kernel_rfl) (fun _ _ _ h => h) (by rfl) (v := ?_) (fun w hSw => ?_) hS ?_
  rotate_left
  · go_simp; try with_reducible rfl
  try go_frame
  refine pureY (i := 4) (oi := ⟨some 8, _, _, _, _, _⟩) rfl (by kernel_rfl) (by kernel_rfl) (by kernel_rfl) (by kernel_rfl) (by kernel_rfl) (fun _ _ _ h => h) (by rfl) (fun w hSw => run_load_bs rfl rfl (HKT.out _ hSw)) hS ?_
  try go_frame
  refine pureY (i := 5) (oi := ⟨some 9, _, _, _, _, _⟩) rfl (by kernel_rfl) (by kernel_rfl) (by kernel_rfl) (by kernel_rfl) (by kernel_rfl) (fun _ _ _ h => h) (by rfl) (v := ?_) (fun w hSw => ?_) hS ?_
  rotate_left
  · go_simp; try with_reducible rfl
  try go_frame
  refine pureY (i := 6) (oi := ⟨some 10, _, _, _, _, _⟩) rfl (by kernel_rfl) (by kernel_rfl) (by kernel_rfl) (by kernel_rfl) (by kernel_rfl) (fun _ _ _ h => h) (by rfl) (fun w hSw => run_cutb_h (h := (k : Int)) rfl rfl rfl (by omega) (by omega) (m := k) (by omega)) hS ?_
  try go_frame
  refine pureY (i := 8) (oi := ⟨some 12, _, _, _, _, _⟩) rfl (by kernel_rfl) (by kernel_rfl) (by kernel_rfl) (by kernel_rfl) (by kernel_rfl) (fun _ _ _ h => h) (by rfl) (v := ?_) (fun w hSw => ?_) hS ?_
  rotate_left
  · go_simp; try with_reducible rfl
  try go_frame
  refine pureY (i := 9) (oi := ⟨some 13, _, _, _, _, _⟩) rfl (by kernel_rfl) (by kernel_rfl) (by kernel_rfl) (by kernel_rfl) (by kernel_rfl) (fun _ _ _ h => h) (by rfl) (v := ?_) (fun w hSw => ?_) hS ?_
  rotate_left
  · go_simp; try with_reducible rfl
  try go_frame
  refine pureY (i := 10) (oi := ⟨some 14, _, _, _, _, _⟩) rfl (by kernel_rfl) (by kernel_rfl) (by kernel_rfl) (by kernel_rfl) (by kernel_rfl) (fun _ _ _ h => h) (by rfl) (v := ?_) (fun w hSw => ?_) hS ?_
  rotate_left
  · go_simp; try with_reducible rfl
  try go_frame
  refine pureY (i := 11) (oi := ⟨some 15, _, _, _, _, _⟩) rfl (by kernel_rfl) (by kernel_rfl) (by kernel_rfl) (by kernel_rfl) (by kernel_rfl) (fun _ _ _ h => h) (by rfl) (fun w hSw => run_load_bs rfl rfl (HKT.out _ hSw)) hS ?_
  try go_frame
  refine pureY (i := 12) (oi := ⟨some 16, _, _, _, _, _⟩) rfl (by kernel_rfl) (by kernel_rfl) (by kernel_rfl) (by kernel_rfl) (by kernel_rfl) (fun _ _ _ h => h) (by rfl) (v := ?_) (fun w hSw => ?_) hS ?_
  rotate_left
  · go_simp; try with_reducible rfl
  try go_frame
  refine pureY (i := 13) (oi := ⟨some 17, _, _, _, _, _⟩) rfl (by kernel_rfl) (by kernel_rfl) (by kernel_rfl) (by kernel_rfl) (by kernel_rfl) (fun _ _ _ h => h) (by rfl) (v := .int .i64 ((k + 1 : Nat) : Int)) (fun w hSw => by go_simp; try exact HWK.out) hS ?_
  try go_frame
  refine pureY (i := 14) (oi := ⟨some 18, _, _, _, _, _⟩) rfl (by kernel_rfl) (by kernel_rfl) (by kernel_rfl) (by kernel_rfl) (by kernel_rfl) (fun _ _ _ h => h) (by rfl) (fun w hSw => run_cutb_l rfl rfl (l := k + 1) rfl (by omega) (m := n - (k + 1)) rfl) hS ?_
  try go_frame
  refine oneY (i := 7) (oi := ⟨some 11, _, _, _, _, _⟩) (by kernel_rfl) rfl (by rfl) (fun K hK => ?_)
  refine append_bI _ _ rfl w.heap.size (.slice none 0 0) 0 [] rfl (World.ownsRow_nil _ _ _ _) w.heap.size A k c (t.take k) rfl (by rw [List.length_take, ← HN.out]; omega) HNN.out (rds_takeB (HRD.out.below b0)) (by omega) b0.size ?_
  intro v7 w7 own7 grow7
  rw [Nat.zero_add, List.nil_append] at own7
  have x7 := (Below.refl X0.heap.size X0).grown grow7 (Nat.le_refl _) (fun _ hk => by cases hk)
  have b7 := b0.trans (x7.mono b0.size)
  have hS : Below w.heap.size w w7 := b7
  refine hK _ _ (fun _ => hS) ?_
  clear hK K
  try go_frame
  try go_frame
  refine oneY (i := 15) (oi := ⟨some 19, _, _, _, _, _⟩) (by kernel_rfl) rfl (by rfl) (fun K hK => ?_)
  refine append_bI _ _ rfl w.heap.size v7 k _ rfl own7 w.heap.size (cutB5 A c (k + 1)) (n - (k + 1)) (c - (k + 1)) (t.drop (k + 1)) rfl (by rw [List.length_drop, ← HN.out]) (cutB5_none HNN.out) (rds_cutB (HRD.out.below b7) (by rw [← HN.out]; exact hcap)) (by omega) b7.size ?_
  intro v15 w15 own15 grow15
  have b15 := b7.grown grow15 b7.size (fun k hk => own_block_ge own7 k hk)
  have hS := b15
  refine hK _ _ (fun _ => hS) ?_
  clear hK K
  try go_frame
  try go_frame
  refine oneY (i := 16) (oi := ⟨some 20, _, _, _, _, _⟩) (by kernel_rfl) rfl (by rfl) (fun K hK => ?_)
  refine valI (v := ?_) ?_ ?_
  rotate_left
  · go_simp; try with_reducible rfl
  refine hK _ _ (fun h => absurd h (by decide)) ?_
  clear hK K
  try go_frame
  refine oneY (i := 17) (oi := ⟨some 21, _, _, _, _, _⟩) (by kernel_rfl) rfl (by rfl) (fun K hK => ?_)
  refine valI (v := ?_) ?_ ?_
  rotate_left
  · go_simp; try with_reducible rfl
  refine hK _ _ (fun h => absurd h (by decide)) ?_
  clear hK K
  try go_frame
  refine oneY (i := 18) (oi := ⟨none, _, _, _, _, _⟩) (by kernel_rfl) rfl (by rfl) (fun K hK => ?_)
  have ht := (b15.block g hgz).trans HTB.out
  have k18 := cells_at (i := 0) ht rfl
  have f18 := heap_frozen ht 0
  have own20 : w15.ownsRow w.heap.size 82 5 v15 (t.eraseIdx k).length ((t.eraseIdx k).flatMap clB) := by
    have e0 : t.eraseIdx k = t.take k ++ t.drop (k + 1) := List.eraseIdx_eq_take_drop_succ t k
    have e1 : (t.eraseIdx k).flatMap clB = (t.take k).flatMap clB ++ (t.drop (k + 1)).flatMap clB := by rw [e0, List.flatMap_append]
    have e2 : (t.eraseIdx k).length = k + (n - (k + 1)) := by rw [e0, List.length_append, List.length_take, List.length_drop, ← HN.out]; omega
    rw [e1, e2]; exact own15
  obtain ⟨A2, c2, e2, _, _⟩ := own_rds own20 rfl rfl (fun x _ => clB_len x)
  subst e2
  refine store_bsI rfl rfl rfl k18 f18 ?_
  refine hK _ _ (fun h => absurd h (by decide)) ?_
  clear hK K
  try go_frame
  try go_frame
  refine doneY (by kernel_rfl) ?_ _
  go_wp2
  refine bodyPost_end (results_none rfl _ _ _) rfl ⟨rfl, _, Rj.put ht own20 (fun x hx => (HPX.out x (List.mem_of_mem_eraseIdx hx)).below' b15) (by have h1 := erase_len t k; have := HN.out; omega), (Kept.of_below b15).trans (Kept.setCell w15 g 0 _) (fun _ _ e => e), fun j hj => own_block_ge own20 j hj⟩
end
end Go.Proofs.Ytghbliabmecbcaa
