/-
  Contracts and lemmas on which the proofs of this seat stand (several texts in one). Conditions are each theorem's own.
-/
import Derived.Test.YtkgbjohadkbjaaaFa3
import Derived.Test.YtkgbjohadkbjaaaFa1

/-
  What layer 25's laws call first: Name, slices.Contains at remote endpoints, the small example. Conditions are each theorem's own.
-/
namespace Go.Proofs.Ytkgbjohadkbjaaa
open Go.RowKit Go.Shelf
def nmF (mode : Int) : ByteArray := if mode = 0 then ⟨#[110, 111, 110, 101]⟩ else if mode = 1 then ⟨#[97, 100, 100, 114, 101, 115, 115]⟩ else if mode = 2 then ⟨#[112, 111, 114, 116]⟩ else ⟨#[]⟩
set_option maxRecDepth 100000 in
set_option maxHeartbeats 1000000 in
theorem cnameF (mode : Int) (w : World) : Calls Try.prog 19 #[.int .i64 mode] w fun e w' => e = .returned (.string (nmF mode)) ∧ w = w' := by
  obtain ⟨R, hR⟩ : ∃ R, R = nmF mode := ⟨_, rfl⟩
  rw [← hR]
  have HR := Lib.hid hR
  have hm : mode = 0 ∨ mode = 1 ∨ mode = 2 ∨ (mode ≠ 0 ∧ mode ≠ 1 ∧ mode ≠ 2) := by omega
  clear hR
  go_enter Try.func19, Try.ntmps19
  rcases hm with rfl | rfl | rfl | ⟨h0, h1, h2⟩
  · go_wp2
    go_ret
    exact ⟨by rw [HR.out]; rfl, rfl⟩
  · go_wp2
    go_ret
    exact ⟨by rw [HR.out]; rfl, rfl⟩
  · go_wp2
    go_ret
    exact ⟨by rw [HR.out]; rfl, rfl⟩
  · have d0 : (mode == 0) = false := by simpa using h0
    have d1 : (mode == 1) = false := by simpa using h1
    have d2 : (mode == 2) = false := by simpa using h2
    go_wp2
    go_ret
    exact ⟨by rw [HR.out, nmF, if_neg h0, if_neg h1, if_neg h2]; rfl, rfl⟩
set_option maxRecDepth 100000 in
set_option maxHeartbeats 1000000 in
theorem rnameF (mode : Int) (w : World) : Calls Try.prog 20 #[.int .i64 mode] w fun e w' => e = .returned (.string (nmF mode)) ∧ w = w' := by
  obtain ⟨R, hR⟩ : ∃ R, R = nmF mode := ⟨_, rfl⟩
  rw [← hR]
  have HR := Lib.hid hR
  have hm : mode = 0 ∨ mode = 1 ∨ mode = 2 ∨ (mode ≠ 0 ∧ mode ≠ 1 ∧ mode ≠ 2) := by omega
  clear hR
  go_enter Try.func20, Try.ntmps20
  rcases hm with rfl | rfl | rfl | ⟨h0, h1, h2⟩
  · go_wp2
    go_ret
    exact ⟨by rw [HR.out]; rfl, rfl⟩
  · go_wp2
    go_ret
    exact ⟨by rw [HR.out]; rfl, rfl⟩
  · go_wp2
    go_ret
    exact ⟨by rw [HR.out]; rfl, rfl⟩
  · have d0 : (mode == 0) = false := by simpa using h0
    have d1 : (mode == 1) = false := by simpa using h1
    have d2 : (mode == 2) = false := by simpa using h2
    go_wp2
    go_ret
    exact ⟨by rw [HR.out, nmF, if_neg h0, if_neg h1, if_neg h2]; rfl, rfl⟩
set_option maxRecDepth 100000 in
set_option maxHeartbeats 1000000 in
theorem rmidx (r : Rm) (A : Option Addr) (c : Nat) (l : List Rm) (B : Nat) (w : World) (hr : RdS clM 2 w B A l) (hB : B ≤ w.heap.size) (hl : l.length ≤ 1000) :
    Calls Try.prog 51 #[.slice A l.length c, rmV r] w fun e w' => (∃ k : Int, e = .returned (.int .i64 k) ∧ decide (0 ≤ k) = l.any (fun x => sameR r x) ∧ (-1 ≤ k ∧ k ≤ 100000)) ∧ Below w.heap.size w w' := by
  have hW := (Below.refl w.heap.size w).alloc (Nat.le_refl _) (.cells #[.int .i64 r.addr, .int .i64 r.port] 38)
  have kf := rm_box w r
  have hz : w.heap.size < (w.alloc (.cells #[.int .i64 r.addr, .int .i64 r.port] 38)).heap.size := by simp
  have hr1 := Lib.hid (hr.below (hW.mono hB))
  obtain ⟨n, hn⟩ : ∃ n, n = l.length := ⟨_, rfl⟩
  have HN := Lib.hid hn
  rw [← hn] at hl ⊢
  obtain ⟨W, hWe⟩ : ∃ W, W = w.alloc (.cells #[.int .i64 r.addr, .int .i64 r.port] 38) := ⟨_, rfl⟩
  rw [← hWe] at hW kf hz hr1
  have hB2 : B ≤ W.heap.size := Nat.le_trans hB hW.size
  clear hr hn
  rw [rmV]
  go_enter Try.func51, Try.ntmps51
  go_upto_region 1 with fail
  rw [← hWe]
  clear hWe
  go_wp2
  go_loopw [5, 8] (fun _ i wr => ∃ kk : Nat, kk ≤ n ∧ i = .int .i64 kk ∧ Hid (l.any (fun x => sameR r x) = (l.drop kk).any (fun x => sameR r x)) ∧ Below W.heap.size W wr) (fun _ i _ => n - (intOf i).toNat)
  case atStart => exact ⟨0, Nat.zero_le _, rfl, Lib.hid rfl, Below.refl _ W⟩
  case round =>
    obtain ⟨kk, hkk, rfl, HE, hbel⟩ := hrel
    by_cases hlt : kk < n
    · obtain ⟨x, hx⟩ : ∃ x, l[kk]? = some x := ⟨_, List.getElem?_eq_getElem (by rw [← HN.out]; exact hlt)⟩
      obtain ⟨b1, o1, rfl, hb1, hr2⟩ := row_ofRm hr1.out hx
      have hrow := range_below hr2 hb1 (hbel.mono hB2)
      have kr := range_below kf hz hbel
      have hx0 : wr.cell? ⟨b1, o1 + kk * 2, none⟩ = some (.int .i64 x.addr) := hrow 0 _ rfl
      have hx1 : wr.cell? ⟨b1, o1 + kk * 2 + 1, none⟩ = some (.int .i64 x.port) := hrow 1 _ rfl
      have hr0 : wr.cell? ⟨w.heap.size, 0, none⟩ = some (.int .i64 r.addr) := kr 0 _ rfl
      have hr1' : wr.cell? ⟨w.heap.size, 1, none⟩ = some (.int .i64 r.port) := kr 1 _ rfl
      have hzr := hbel.size
      have hb1' : b1 < wr.heap.size := by omega
      have hg0 : w.heap.size < wr.heap.size := by omega
      clear hr2
      have HXD : Hid (l.drop kk = x :: l.drop (kk + 1)) := Lib.hid (by
        have hk : kk < l.length := by rw [← HN.out]; exact hlt
        rw [List.drop_eq_getElem_cons hk]
        rw [List.getElem?_eq_getElem hk] at hx
        rw [Option.some.inj hx])
      clear hx
      go_upto_region 4 with fail
      cases hq : sameR r x with
      | true =>
        have HQ := Lib.hid hq
        refine wp_region_held_drew (S := fun w' => Below wr.heap.size wr w') (by kernel_rfl) (Below.refl _ wr).drew (fun hS => ?_)
        refine held_pure (i := 0) (oi := ⟨some 11, _, _, _, _, _⟩) rfl (by kernel_rfl) (by kernel_rfl) (by kernel_rfl) (fun _ _ _ h => h) (by rfl) (fun w hSw => run_load_rm rfl rfl (range_below kr hg0 hSw)) hS (fun hS => ?_)
        try go_frame
        refine held_pure (i := 1) (oi := ⟨some 12, _, _, _, _, _⟩) rfl (by kernel_rfl) (by kernel_rfl) (by kernel_rfl) (fun _ _ _ h => h) (by rfl) (v := ?_) (fun w hSw => ?_) hS (fun hS => ?_)
        rotate_left
        · go_simp; try with_reducible rfl
        try go_frame
        refine held_pure (i := 2) (oi := ⟨some 13, _, _, _, _, _⟩) rfl (by kernel_rfl) (by kernel_rfl) (by kernel_rfl) (fun _ _ _ h => h) (by rfl) (v := ?_) (fun w hSw => ?_) hS (fun hS => ?_)
        rotate_left
        · go_simp; try with_reducible rfl
        try go_frame
        refine held_pure (i := 3) (oi := ⟨some 14, _, _, _, _, _⟩) rfl (by kernel_rfl) (by kernel_rfl) (by kernel_rfl) (fun _ _ _ h => h) (by rfl) (v := Value.pointer (some ⟨b1, o1 + kk * 2, none⟩)) (fun w hSw => by go_simp; try (exact fun h => absurd h (by omega))) hS (fun hS => ?_)
        try go_frame
        refine held_pure (i := 4) (oi := ⟨some 15, _, _, _, _, _⟩) rfl (by kernel_rfl) (by kernel_rfl) (by kernel_rfl) (fun _ _ _ h => h) (by rfl) (fun w hSw => run_load_rm rfl rfl (range_below hrow hb1' hSw)) hS (fun hS => ?_)
        try go_frame
        refine held_pure (i := 5) (oi := ⟨some 16, _, _, _, _, _⟩) rfl (by kernel_rfl) (by kernel_rfl) (by kernel_rfl) (fun _ _ _ h => h) (by rfl) (v := .bool true) (fun w hSw => by exact (run_eqlO r x w rfl rfl rfl).trans (by rw [HQ.out])) hS (fun hS => ?_)
        try go_frame
        refine wpAnyH_done (by kernel_rfl) ?_ _
        go_wp2
        go_ret
        exact ⟨⟨kk, rfl, by rw [HE.out, HXD.out, List.any_cons, HQ.out, Bool.true_or]; exact decide_eq_true (by omega), by omega, by omega⟩, hW.trans ((hbel.trans (hS.mono hbel.size)).mono hW.size)⟩
      | false =>
        have HQ := Lib.hid hq
        refine wp_region_held_drew (S := fun w' => Below wr.heap.size wr w') (by kernel_rfl) (Below.refl _ wr).drew (fun hS => ?_)
        refine held_pure (i := 0) (oi := ⟨some 11, _, _, _, _, _⟩) rfl (by kernel_rfl) (by kernel_rfl) (by kernel_rfl) (fun _ _ _ h => h) (by rfl) (fun w hSw => run_load_rm rfl rfl (range_below kr hg0 hSw)) hS (fun hS => ?_)
        try go_frame
        refine held_pure (i := 1) (oi := ⟨some 12, _, _, _, _, _⟩) rfl (by kernel_rfl) (by kernel_rfl) (by kernel_rfl) (fun _ _ _ h => h) (by rfl) (v := ?_) (fun w hSw => ?_) hS (fun hS => ?_)
        rotate_left
        · go_simp; try with_reducible rfl
        try go_frame
        refine held_pure (i := 2) (oi := ⟨some 13, _, _, _, _, _⟩) rfl (by kernel_rfl) (by kernel_rfl) (by kernel_rfl) (fun _ _ _ h => h) (by rfl) (v := ?_) (fun w hSw => ?_) hS (fun hS => ?_)
        rotate_left
        · go_simp; try with_reducible rfl
        try go_frame
        refine held_pure (i := 3) (oi := ⟨some 14, _, _, _, _, _⟩) rfl (by kernel_rfl) (by kernel_rfl) (by kernel_rfl) (fun _ _ _ h => h) (by rfl) (v := Value.pointer (some ⟨b1, o1 + kk * 2, none⟩)) (fun w hSw => by go_simp; try (exact fun h => absurd h (by omega))) hS (fun hS => ?_)
        try go_frame
        refine held_pure (i := 4) (oi := ⟨some 15, _, _, _, _, _⟩) rfl (by kernel_rfl) (by kernel_rfl) (by kernel_rfl) (fun _ _ _ h => h) (by rfl) (fun w hSw => run_load_rm rfl rfl (range_below hrow hb1' hSw)) hS (fun hS => ?_)
        try go_frame
        refine held_pure (i := 5) (oi := ⟨some 16, _, _, _, _, _⟩) rfl (by kernel_rfl) (by kernel_rfl) (by kernel_rfl) (fun _ _ _ h => h) (by rfl) (v := .bool false) (fun w hSw => by exact (run_eqlO r x w rfl rfl rfl).trans (by rw [HQ.out])) hS (fun hS => ?_)
        try go_frame
        refine wpAnyH_done (by kernel_rfl) ?_ _
        go_wp2
        go_roundw
        case rel => exact ⟨kk + 1, by omega, by simp, Lib.hid (by rw [HE.out, HXD.out, List.any_cons, HQ.out, Bool.false_or]), hbel.trans (hS.mono hbel.size)⟩
        case measure => simp [intOf]; omega
    · obtain rfl : n = kk := by omega
      go_wp2
      go_ret
      exact ⟨⟨-1, rfl, by rw [HE.out, List.drop_eq_nil_of_le (by rw [← HN.out]; exact Nat.le_refl _)]; rfl, by omega, by omega⟩, hW.trans (hbel.mono hW.size)⟩
set_option maxRecDepth 100000 in
set_option maxHeartbeats 1000000 in
theorem rmcont (r : Rm) (A : Option Addr) (c : Nat) (l : List Rm) (B : Nat) (w : World) (hr : RdS clM 2 w B A l) (hB : B ≤ w.heap.size) (hl : l.length ≤ 1000) :
    Calls Try.prog 21 #[.slice A l.length c, rmV r] w fun e w' => e = .returned (.bool (l.any fun x => sameR r x)) ∧ Below w.heap.size w w' := by
  have hW := (Below.refl w.heap.size w).alloc (Nat.le_refl _) (.cells #[.int .i64 r.addr, .int .i64 r.port] 38)
  have kf := rm_box w r
  have hcall := Lib.hid (fun V (hV : Below w.heap.size w V) => rmidx r A c l B V (hr.below (hV.mono hB)) (Nat.le_trans hB hV.size) hl)
  generalize hR : l.any (fun x => sameR r x) = R at hcall
  have kr0 : (w.alloc (.cells #[.int .i64 r.addr, .int .i64 r.port] 38)).cell? ⟨w.heap.size, 0, none⟩ = some (.int .i64 r.addr) := kf 0 _ rfl
  have kr1 : (w.alloc (.cells #[.int .i64 r.addr, .int .i64 r.port] 38)).cell? ⟨w.heap.size, 1, none⟩ = some (.int .i64 r.port) := kf 1 _ rfl
  clear hr hR kf
  rw [rmV]
  go_enter Try.func21, Try.ntmps21
  go_upto_region 1 with fail
  generalize w.alloc (.cells #[.int .i64 r.addr, .int .i64 r.port] 38) = W at *
  go_wp2_with (go_at_call 51; refine (hcall.out W hW).mono ?_; rintro e w' ⟨⟨k, rfl, hk, hk0, hk1⟩, hb'⟩; have HK := Lib.hid hk; clear hk)
  go_ret
  exact ⟨by rw [← HK.out]; rfl, hW.trans (hb'.mono hW.size)⟩
theorem info_rm : (Try.prog.info? 38).map (fun i => (i.zero, i.size, i.bytes)) = some (some (.agg #[.int .i64 0, .int .i64 0]), 2, 16) := by kernel_rfl
theorem run_bsrm {o : Oper} {a : Act} {w : World} {x : Operand} {cs : Array Value} (ho : o.op = .buildSlice 39 1 #[(0, x)]) (hx : a.eval x = .agg cs) (hl : cs.size = 2) :
    (execOp a.eval o).run Try.prog w = .ok (.value (.slice (some ⟨w.heap.size, 0, none⟩) 1 1)) (w.alloc (.cells cs 38)) := by
  obtain ⟨i0, hi, hz0, hz1, hz2⟩ := info_parts info_rm
  have h := run_lit1 (P := Try.prog) w 39 38 i0 (.agg #[.int .i64 0, .int .i64 0]) cs 2 Try.underlying39 hi hz0 hz1 hl (by decide) (by decide)
  unfold execOp
  simp only [ho, List.map_toArray, List.map_cons, List.map_nil, hx, Sem.run_bind, h, Result.andThen_ok]
  rfl
theorem rds_rm (w : World) (x : Rm) : RdS clM 2 (w.alloc (.cells #[.int .i64 x.addr, .int .i64 x.port] 38)) (w.heap.size + 1) (some ⟨w.heap.size, 0, none⟩) [x] := by
  intro _
  refine ⟨w.heap.size, 0, rfl, Nat.lt_succ_self _, fun j y hy => ?_⟩
  have hj : j = 0 := by have := (List.getElem?_eq_some_iff.1 hy).1; simpa using this
  subst hj
  obtain rfl : y = x := by simpa using hy.symm
  exact rm_box w y
theorem callow_lit (mode a p b q : Int) (R : Bool) (hR : alwF mode ⟨a, p⟩ [⟨b, q⟩] = R) (w : World) : Calls Try.prog 17 #[.int .i64 mode, .agg #[.int .i64 a, .int .i64 p], .slice (some ⟨w.heap.size, 0, none⟩) 1 1] (w.alloc (.cells #[.int .i64 b, .int .i64 q] 38)) fun e w' => e = .returned (.bool R) ∧ Below w.heap.size w w' :=
  (callow mode ⟨a, p⟩ (some ⟨w.heap.size, 0, none⟩) 1 [⟨b, q⟩] (w.heap.size + 1) _ (rds_rm w ⟨b, q⟩) (by simp) (by simp)).mono fun e w' ⟨h1, h2⟩ => ⟨by rw [h1, hR], ((Below.refl w.heap.size w).alloc (Nat.le_refl _) _).trans (h2.mono (by simp))⟩
set_option maxRecDepth 100000 in
set_option maxHeartbeats 1000000 in
theorem awake25 (w : World) : Calls Try.prog 16 #[] w fun e w' => e = .returned (.bool true) ∧ Below w.heap.size w w' := by
  have hW := (Below.refl w.heap.size w).alloc (Nat.le_refl _) (.cells #[.int .i64 1, .int .i64 2] 38)
  have k0 : (w.alloc (.cells #[.int .i64 1, .int .i64 2] 38)).cell? ⟨w.heap.size, 0, none⟩ = some (.int .i64 1) := rm_box w ⟨1, 2⟩ 0 _ rfl
  have k1 : (w.alloc (.cells #[.int .i64 1, .int .i64 2] 38)).cell? ⟨w.heap.size, 1, none⟩ = some (.int .i64 2) := rm_box w ⟨1, 2⟩ 1 _ rfl
  have hz : w.heap.size < (w.alloc (.cells #[.int .i64 1, .int .i64 2] 38)).heap.size := by simp
  go_enter Try.func16, Try.ntmps16
  go_upto_region 2 with fail
  try simp only [World.setRow_alloc_new]
  generalize w.alloc (.cells #[.int .i64 1, .int .i64 2] 38) = W at *
  go_wp2_with (first
    | ((with_reducible show wpList _ _ _ (Oper.mk _ (Op.buildSlice _ _ _) _ _ _ _ :: _) _ _); refine wpList_growU rfl (run_bsrm rfl rfl rfl) ?_)
    | (go_at_call 17; with_reducible refine (callow_lit 2 1 2 1 2 true (by decide) W).mono ?_; rintro e w1 ⟨rfl, b1⟩; have k0 := (b1.cell (p := ⟨w.heap.size, 0, none⟩) hz).trans k0; have k1 := (b1.cell (p := ⟨w.heap.size, 1, none⟩) hz).trans k1; have hz1 := Nat.lt_of_lt_of_le hz b1.size)
    | (go_at_call 17; with_reducible refine (callow_lit 2 1 2 1 3 false (by decide) w1).mono ?_; rintro e w2 ⟨rfl, b2⟩; have k0 := (b2.cell (p := ⟨w.heap.size, 0, none⟩) hz1).trans k0; have k1 := (b2.cell (p := ⟨w.heap.size, 1, none⟩) hz1).trans k1)
    | (go_at_call 17; with_reducible refine (callow_lit 1 1 2 1 3 true (by decide) w2).mono ?_; rintro e w3 ⟨rfl, b3⟩)
    | (go_at_call 19; refine (cnameF 2 _).mono ?_; rintro e w4 ⟨rfl, rfl⟩; rw [show nmF 2 = ⟨#[112, 111, 114, 116]⟩ from rfl]))
  go_ret
  exact ⟨rfl, hW.trans ((b1.trans ((b2.trans (b3.mono b2.size)).mono b1.size)).mono hW.size)⟩
end Go.Proofs.Ytkgbjohadkbjaaa
