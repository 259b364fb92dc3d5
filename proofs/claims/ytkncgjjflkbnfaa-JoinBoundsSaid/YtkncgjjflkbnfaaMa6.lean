/-
  Contracts and lemmas on which the proofs of this seat stand (several texts in one). Conditions are each theorem's own.
-/
import Derived.Test.YtkncgjjflkbnfaaMa1
import Derived.Test.YtkncgjjflkbnfaaMa5

/-
  Parts as they lie in memory; contracts of the document's answers of layer 15 that read them. Conditions are each theorem's own.
-/
namespace Go.Proofs.Ytkncgjjflkbnfaa
open Go.RowKit Go.Shelf

/-- A part, and where its bytes lie. -/
structure XP where
  p : Pc
  A : Option Addr
  c : Nat
def clP (x : XP) : List Value := [.int .i64 x.p.off, .bool x.p.more, .slice x.A x.p.b.length x.c]
def piE (l : List XP) : List Pc := l.map (·.p)
def okP (p : Pc) : Prop := 0 ≤ p.off ∧ p.stop ≤ 65535
/-- At ⟨g, o⟩ lies a slice of parts; what it reaches lies below block B. -/
structure Ho (w : World) (B g o : Nat) (A : Option Addr) (c : Nat) (l : List XP) : Prop where
  cell : w.cell? ⟨g, o, none⟩ = some (.slice A l.length c)
  gB : g < B
  cap : l.length ≤ c
  rd : RdS clP 3 w B A l
  arg : ∀ x ∈ l, Arg w B x.A x.c x.p.b
  ok : ∀ x ∈ l, okP x.p
  n : l.length ≤ 100000
  none_ : A = none → c = 0
theorem Ho.below {w w' : World} {B g o : Nat} {A : Option Addr} {c : Nat} {l : List XP} (h : Ho w B g o A c l) (hb : Below B w w') : Ho w' B g o A c l :=
  ⟨(hb.cell h.gB).trans h.cell, h.gB, h.cap, h.rd.below hb, fun x hx => (h.arg x hx).below hb, h.ok, h.n, h.none_⟩
theorem Ho.more {w : World} {B B' g o : Nat} {A : Option Addr} {c : Nat} {l : List XP} (h : Ho w B g o A c l) (hB : B ≤ B') : Ho w B' g o A c l :=
  ⟨h.cell, Nat.lt_of_lt_of_le h.gB hB, h.cap, h.rd.more hB, fun x hx => (h.arg x hx).more hB, h.ok, h.n, h.none_⟩
theorem run_load_ps {o : Oper} {a : Act} {w : World} {x : Operand} {p : Addr} {A : Option Addr} {n c : Nat} (ho : o.op = .load 27 x) (hx : a.eval x = .pointer (some p)) (hc : w.cell? p = some (.slice A n c)) :
    (execOp a.eval o).run Try.prog w = .ok (.value (.slice A n c)) w := by
  unfold execOp
  simp only [ho, hx, Instr.loadAt, Instr.sureAddr, Sem.run_bind, Sem.run_pure, Result.andThen_ok]
  go_simp
theorem farP_nn : ∀ l : List Pc, 0 ≤ farP l
  | [] => Int.le_refl _
  | x :: l => by have := farP_nn l; rw [farP]; omega
theorem bytesP_le {n : Int} (hn : 0 ≤ n) : ∀ l : List Pc, (∀ x ∈ l, x.len ≤ n) → 0 ≤ bytesP l ∧ bytesP l ≤ n * (l.length : Int)
  | [], _ => by simp [bytesP]
  | x :: l, h => by
    obtain ⟨h1, h2⟩ := bytesP_le hn l (fun y hy => h y (List.mem_cons_of_mem _ hy))
    have h3 := h x (List.mem_cons_self ..)
    have h4 : 0 ≤ x.len := Int.natCast_nonneg _
    simp only [bytesP, List.length_cons]
    refine ⟨by omega, ?_⟩
    rw [show n * ((l.length + 1 : Nat) : Int) = n * (l.length : Int) + n by rw [Int.natCast_add, Int.mul_add]; simp]
    omega
set_option maxRecDepth 100000 in
set_option maxHeartbeats 1000000 in
theorem r15end (A : Option Addr) (c : Nat) (l : List XP) (B g o : Nat) (w : World) (h : Ho w B g o A c l) (hB : B ≤ w.heap.size) :
    Calls Try.prog 50 #[.pointer (some ⟨g, o, none⟩)] w fun e w' => e = .returned (.int .i64 (endP (piE l))) ∧ Below w.heap.size w w' := by
  obtain ⟨n, hn⟩ : ∃ n, n = l.length := ⟨_, rfl⟩
  have HN := Lib.hid hn
  obtain ⟨L, hL⟩ : ∃ L, L = piE l := ⟨_, rfl⟩
  have HL := Lib.hid hL
  have HO := Lib.hid h
  have k0 := h.cell
  have hgz : g < w.heap.size := cell_block k0
  have hn1 : n ≤ 100000 := by rw [hn]; exact h.n
  have hn2 : n ≤ c := by rw [hn]; exact h.cap
  rw [← hn] at k0
  rw [← hL]
  clear hn hL h
  go_enter Try.func50, Try.ntmps50
  go_wp2
  go_loopw [3] (fun i wr => ∃ (k : Nat), k ≤ n ∧ i = .int .i64 (k : Int) ∧ Hid (endP L = endP (L.drop k)) ∧ Below w.heap.size w wr)
    (fun i _ => n - (intOf i).toNat)
  case atStart => exact ⟨0, Nat.zero_le _, rfl, Lib.hid rfl, Below.refl _ _⟩
  case round =>
    obtain ⟨k, hk, rfl, HE, hbel⟩ := hrel
    have kc := (hbel.cell (p := ⟨g, o, none⟩) hgz).trans k0
    by_cases hlt : k < n
    · skip
      obtain ⟨x, hx⟩ : ∃ x, l[k]? = some x := ⟨_, List.getElem?_eq_getElem (by rw [← HN.out]; exact hlt)⟩
      have hxm := List.mem_of_getElem? hx
      obtain ⟨ok1, ok2⟩ := HO.out.ok x hxm
      have ok3 : x.p.stop = x.p.off + (x.p.b.length : Int) := rfl
      obtain ⟨b1, o1, e1, hb1', hr1⟩ := HO.out.rd (by rw [← HN.out]; omega)
      obtain rfl := e1
      have hr := range_below (hr1 k x hx) hb1' (hbel.mono hB)
      have kx0 : wr.cell? ⟨b1, o1 + k * 3, none⟩ = some (.int .i64 x.p.off) := by simpa using hr 0 _ rfl
      have kx1 : wr.cell? ⟨b1, o1 + k * 3 + 1, none⟩ = some (.bool x.p.more) := hr 1 _ rfl
      have kx2 : wr.cell? ⟨b1, o1 + k * 3 + 2, none⟩ = some (.slice x.A x.p.b.length x.c) := hr 2 _ rfl
      have HXD : Hid (L.drop k = x.p :: L.drop (k + 1)) := Lib.hid (by
        have hl : k < L.length := by rw [HL.out, piE, List.length_map, ← HN.out]; exact hlt
        rw [List.drop_eq_getElem_cons hl]
        congr 1
        have h1 : L[k]? = some x.p := by rw [HL.out, piE, List.getElem?_map, hx]; rfl
        rw [List.getElem?_eq_getElem hl] at h1
        exact Option.some.inj h1)
      have hzr := hbel.size
      have hb1 : b1 < wr.heap.size := by omega
      have hgr : g < wr.heap.size := by omega
      clear hr1 hx
      cases hm : x.p.more with
      | true =>
        rw [hm] at kx1
        go_wp2
        go_roundw
        case rel => exact ⟨k + 1, by omega, by simp, Lib.hid (by rw [HE.out, HXD.out]; rw [endP, hm]; rfl), hbel⟩
        case measure => simp [intOf]; omega
      | false =>
        rw [hm] at kx1
        have HW : Hid (IntKind.i64.wrap (x.p.off + (x.p.b.length : Int)) = x.p.stop) := Lib.hid (by rw [ok3]; exact IntWalk.i64_in _ (by omega))
        go_upto_region 5 with fail
        refine wp_region_held_drew (S := fun w' => Below wr.heap.size wr w') (by kernel_rfl) (Below.refl _ wr).drew (fun hS => ?_)
        refine held_pure (i := 0) (oi := ⟨some 22, _, _, _, _, _⟩) rfl (by kernel_rfl) (by kernel_rfl) (by kernel_rfl) (fun _ _ _ h => h) (by rfl) (v := ?_) (fun w hSw => ?_) hS (fun hS => ?_)
        rotate_left
        · go_simp; try with_reducible rfl
        try go_frame
        refine held_pure (i := 1) (oi := ⟨some 23, _, _, _, _, _⟩) rfl (by kernel_rfl) (by kernel_rfl) (by kernel_rfl) (fun _ _ _ h => h) (by rfl) (v := ?_) (fun w hSw => ?_) hS (fun hS => ?_)
        rotate_left
        · go_simp; try with_reducible rfl
        try go_frame
        refine held_pure (i := 2) (oi := ⟨some 24, _, _, _, _, _⟩) rfl (by kernel_rfl) (by kernel_rfl) (by kernel_rfl) (fun _ _ _ h => h) (by rfl) (v := ?_) (fun w hSw => ?_) hS (fun hS => ?_)
        rotate_left
        · go_simp; try with_reducible rfl
        try go_frame
        refine held_pure (i := 3) (oi := ⟨some 25, _, _, _, _, _⟩) rfl (by kernel_rfl) (by kernel_rfl) (by kernel_rfl) (fun _ _ _ h => h) (by rfl) (fun w hSw => run_load_ps rfl rfl ((hSw.cell (p := ⟨g, o, none⟩) hgr).trans kc)) hS (fun hS => ?_)
        try go_frame
        refine held_pure (i := 4) (oi := ⟨some 26, _, _, _, _, _⟩) rfl (by kernel_rfl) (by kernel_rfl) (by kernel_rfl) (fun _ _ _ h => h) (by rfl) (v := ?_) (fun w hSw => ?_) hS (fun hS => ?_)
        rotate_left
        · go_simp; try with_reducible rfl
        try go_frame
        refine held_pure (i := 5) (oi := ⟨some 27, _, _, _, _, _⟩) rfl (by kernel_rfl) (by kernel_rfl) (by kernel_rfl) (fun _ _ _ h => h) (by rfl) (v := Value.pointer (some ⟨b1, o1 + k * 3, none⟩)) (fun w hSw => by go_simp; try (exact fun h => absurd h (by omega))) hS (fun hS => ?_)
        try go_frame
        refine held_pure (i := 6) (oi := ⟨some 28, _, _, _, _, _⟩) rfl (by kernel_rfl) (by kernel_rfl) (by kernel_rfl) (fun _ _ _ h => h) (by rfl) (v := ?_) (fun w hSw => ?_) hS (fun hS => ?_)
        rotate_left
        · go_simp; try with_reducible rfl
        try go_frame
        refine held_pure (i := 7) (oi := ⟨some 29, _, _, _, _, _⟩) rfl (by kernel_rfl) (by kernel_rfl) (by kernel_rfl) (fun _ _ _ h => h) (by rfl) (fun w hSw => run_load_int rfl rfl ((hSw.cell (p := ⟨b1, o1 + k * 3, none⟩) hb1).trans kx0)) hS (fun hS => ?_)
        try go_frame
        refine held_pure (i := 8) (oi := ⟨some 30, _, _, _, _, _⟩) rfl (by kernel_rfl) (by kernel_rfl) (by kernel_rfl) (fun _ _ _ h => h) (by rfl) (v := ?_) (fun w hSw => ?_) hS (fun hS => ?_)
        rotate_left
        · go_simp; try with_reducible rfl
        try go_frame
        refine held_pure (i := 9) (oi := ⟨some 31, _, _, _, _, _⟩) rfl (by kernel_rfl) (by kernel_rfl) (by kernel_rfl) (fun _ _ _ h => h) (by rfl) (v := ?_) (fun w hSw => ?_) hS (fun hS => ?_)
        rotate_left
        · go_simp; try with_reducible rfl
        try go_frame
        refine held_pure (i := 10) (oi := ⟨some 32, _, _, _, _, _⟩) rfl (by kernel_rfl) (by kernel_rfl) (by kernel_rfl) (fun _ _ _ h => h) (by rfl) (v := ?_) (fun w hSw => ?_) hS (fun hS => ?_)
        rotate_left
        · go_simp; try with_reducible rfl
        try go_frame
        refine held_pure (i := 11) (oi := ⟨some 33, _, _, _, _, _⟩) rfl (by kernel_rfl) (by kernel_rfl) (by kernel_rfl) (fun _ _ _ h => h) (by rfl) (fun w hSw => run_load_ps rfl rfl ((hSw.cell (p := ⟨g, o, none⟩) hgr).trans kc)) hS (fun hS => ?_)
        try go_frame
        refine held_pure (i := 12) (oi := ⟨some 34, _, _, _, _, _⟩) rfl (by kernel_rfl) (by kernel_rfl) (by kernel_rfl) (fun _ _ _ h => h) (by rfl) (v := ?_) (fun w hSw => ?_) hS (fun hS => ?_)
        rotate_left
        · go_simp; try with_reducible rfl
        try go_frame
        refine held_pure (i := 13) (oi := ⟨some 35, _, _, _, _, _⟩) rfl (by kernel_rfl) (by kernel_rfl) (by kernel_rfl) (fun _ _ _ h => h) (by rfl) (v := Value.pointer (some ⟨b1, o1 + k * 3, none⟩)) (fun w hSw => by go_simp; try (exact fun h => absurd h (by omega))) hS (fun hS => ?_)
        try go_frame
        refine held_pure (i := 14) (oi := ⟨some 36, _, _, _, _, _⟩) rfl (by kernel_rfl) (by kernel_rfl) (by kernel_rfl) (fun _ _ _ h => h) (by rfl) (v := Value.pointer (some ⟨b1, o1 + k * 3 + 2, none⟩)) (fun w hSw => by go_simp) hS (fun hS => ?_)
        try go_frame
        refine held_pure (i := 15) (oi := ⟨some 37, _, _, _, _, _⟩) rfl (by kernel_rfl) (by kernel_rfl) (by kernel_rfl) (fun _ _ _ h => h) (by rfl) (fun w hSw => run_load_sl rfl rfl ((hSw.cell (p := ⟨b1, o1 + k * 3 + 2, none⟩) hb1).trans kx2)) hS (fun hS => ?_)
        try go_frame
        refine held_pure (i := 16) (oi := ⟨some 38, _, _, _, _, _⟩) rfl (by kernel_rfl) (by kernel_rfl) (by kernel_rfl) (fun _ _ _ h => h) (by rfl) (v := ?_) (fun w hSw => ?_) hS (fun hS => ?_)
        rotate_left
        · go_simp; try with_reducible rfl
        try go_frame
        refine held_pure (i := 17) (oi := ⟨some 39, _, _, _, _, _⟩) rfl (by kernel_rfl) (by kernel_rfl) (by kernel_rfl) (fun _ _ _ h => h) (by rfl) (v := .int .i64 x.p.stop) (fun w hSw => by go_simp; exact HW.out) hS (fun hS => ?_)
        try go_frame
        refine held_pure (i := 18) (oi := ⟨some 2, _, _, _, _, _⟩) rfl (by kernel_rfl) (by kernel_rfl) (by kernel_rfl) (fun _ _ _ h => h) (by rfl) (v := ?_) (fun w hSw => ?_) hS (fun hS => ?_)
        rotate_left
        · go_simp; try with_reducible rfl
        try go_frame
        refine wpAnyH_done (by kernel_rfl) ?_ _
        go_wp2_with fail
        go_ret
        exact ⟨by rw [HE.out, HXD.out, endP, hm]; rfl, hbel.trans (hS.mono hzr)⟩
    · obtain rfl : n = k := by omega
      go_wp2
      go_ret
      exact ⟨by rw [HE.out, List.drop_eq_nil_of_le (by rw [HL.out, piE, List.length_map, ← HN.out]; exact Nat.le_refl _)]; rfl, hbel⟩
set_option maxRecDepth 100000 in
set_option maxHeartbeats 1000000 in
theorem r15far (A : Option Addr) (c : Nat) (l : List XP) (B g o : Nat) (w : World) (h : Ho w B g o A c l) (hB : B ≤ w.heap.size) :
    Calls Try.prog 51 #[.pointer (some ⟨g, o, none⟩)] w fun e w' => e = .returned (.int .i64 (farP (piE l))) ∧ Below w.heap.size w w' := by
  obtain ⟨n, hn⟩ : ∃ n, n = l.length := ⟨_, rfl⟩
  have HN := Lib.hid hn
  obtain ⟨L, hL⟩ : ∃ L, L = piE l := ⟨_, rfl⟩
  have HL := Lib.hid hL
  have HO := Lib.hid h
  have k0 := h.cell
  have hgz : g < w.heap.size := cell_block k0
  have hn1 : n ≤ 100000 := by rw [hn]; exact h.n
  have hn2 : n ≤ c := by rw [hn]; exact h.cap
  rw [← hn] at k0
  rw [← hL]
  clear hn hL h
  go_enter Try.func51, Try.ntmps51
  go_wp2
  go_loopw [3, 4] (fun t i wr => ∃ (k : Nat) (s : Int), k ≤ n ∧ i = .int .i64 (k : Int) ∧ t = .int .i64 s ∧ (0 ≤ s ∧ s ≤ 65535) ∧ Hid (farP L = max s (farP (L.drop k))) ∧ Below w.heap.size w wr)
    (fun t i _ => n - (intOf i).toNat)
  case atStart => exact ⟨0, 0, Nat.zero_le _, rfl, rfl, by omega, Lib.hid (by rw [List.drop_zero]; exact (Int.max_eq_right (farP_nn _)).symm), Below.refl _ _⟩
  case round =>
    obtain ⟨k, s, hk, rfl, rfl, hs0, HE, hbel⟩ := hrel
    have kc := (hbel.cell (p := ⟨g, o, none⟩) hgz).trans k0
    by_cases hlt : k < n
    · skip
      obtain ⟨x, hx⟩ : ∃ x, l[k]? = some x := ⟨_, List.getElem?_eq_getElem (by rw [← HN.out]; exact hlt)⟩
      have hxm := List.mem_of_getElem? hx
      obtain ⟨ok1, ok2⟩ := HO.out.ok x hxm
      have ok3 : x.p.stop = x.p.off + (x.p.b.length : Int) := rfl
      obtain ⟨b1, o1, e1, hb1', hr1⟩ := HO.out.rd (by rw [← HN.out]; omega)
      obtain rfl := e1
      have hr := range_below (hr1 k x hx) hb1' (hbel.mono hB)
      have kx0 : wr.cell? ⟨b1, o1 + k * 3, none⟩ = some (.int .i64 x.p.off) := by simpa using hr 0 _ rfl
      have kx1 : wr.cell? ⟨b1, o1 + k * 3 + 1, none⟩ = some (.bool x.p.more) := hr 1 _ rfl
      have kx2 : wr.cell? ⟨b1, o1 + k * 3 + 2, none⟩ = some (.slice x.A x.p.b.length x.c) := hr 2 _ rfl
      have HXD : Hid (L.drop k = x.p :: L.drop (k + 1)) := Lib.hid (by
        have hl : k < L.length := by rw [HL.out, piE, List.length_map, ← HN.out]; exact hlt
        rw [List.drop_eq_getElem_cons hl]
        congr 1
        have h1 : L[k]? = some x.p := by rw [HL.out, piE, List.getElem?_map, hx]; rfl
        rw [List.getElem?_eq_getElem hl] at h1
        exact Option.some.inj h1)
      have hzr := hbel.size
      have hb1 : b1 < wr.heap.size := by omega
      have hgr : g < wr.heap.size := by omega
      clear hr1 hx
      have HW : Hid (IntKind.i64.wrap (x.p.off + (x.p.b.length : Int)) = x.p.stop) := Lib.hid (by rw [ok3]; exact IntWalk.i64_in _ (by omega))
      go_upto_region 5 with fail
      refine wp_region_held_drew (S := fun w' => Below wr.heap.size wr w') (by kernel_rfl) (Below.refl _ wr).drew (fun hS => ?_)
      refine held_pure (i := 0) (oi := ⟨some 14, _, _, _, _, _⟩) rfl (by kernel_rfl) (by kernel_rfl) (by kernel_rfl) (fun _ _ _ h => h) (by rfl) (v := ?_) (fun w hSw => ?_) hS (fun hS => ?_)
      rotate_left
      · go_simp; try with_reducible rfl
      try go_frame
      refine held_pure (i := 1) (oi := ⟨some 15, _, _, _, _, _⟩) rfl (by kernel_rfl) (by kernel_rfl) (by kernel_rfl) (fun _ _ _ h => h) (by rfl) (v := ?_) (fun w hSw => ?_) hS (fun hS => ?_)
      rotate_left
      · go_simp; try with_reducible rfl
      try go_frame
      refine held_pure (i := 2) (oi := ⟨some 16, _, _, _, _, _⟩) rfl (by kernel_rfl) (by kernel_rfl) (by kernel_rfl) (fun _ _ _ h => h) (by rfl) (v := ?_) (fun w hSw => ?_) hS (fun hS => ?_)
      rotate_left
      · go_simp; try with_reducible rfl
      try go_frame
      refine held_pure (i := 3) (oi := ⟨some 17, _, _, _, _, _⟩) rfl (by kernel_rfl) (by kernel_rfl) (by kernel_rfl) (fun _ _ _ h => h) (by rfl) (v := ?_) (fun w hSw => ?_) hS (fun hS => ?_)
      rotate_left
      · go_simp; try with_reducible rfl
      try go_frame
      refine held_pure (i := 4) (oi := ⟨some 18, _, _, _, _, _⟩) rfl (by kernel_rfl) (by kernel_rfl) (by kernel_rfl) (fun _ _ _ h => h) (by rfl) (fun w hSw => run_load_ps rfl rfl ((hSw.cell (p := ⟨g, o, none⟩) hgr).trans kc)) hS (fun hS => ?_)
      try go_frame
      refine held_pure (i := 5) (oi := ⟨some 19, _, _, _, _, _⟩) rfl (by kernel_rfl) (by kernel_rfl) (by kernel_rfl) (fun _ _ _ h => h) (by rfl) (v := ?_) (fun w hSw => ?_) hS (fun hS => ?_)
      rotate_left
      · go_simp; try with_reducible rfl
      try go_frame
      refine held_pure (i := 6) (oi := ⟨some 20, _, _, _, _, _⟩) rfl (by kernel_rfl) (by kernel_rfl) (by kernel_rfl) (fun _ _ _ h => h) (by rfl) (v := Value.pointer (some ⟨b1, o1 + k * 3, none⟩)) (fun w hSw => by go_simp; try (exact fun h => absurd h (by omega))) hS (fun hS => ?_)
      try go_frame
      refine held_pure (i := 7) (oi := ⟨some 21, _, _, _, _, _⟩) rfl (by kernel_rfl) (by kernel_rfl) (by kernel_rfl) (fun _ _ _ h => h) (by rfl) (v := ?_) (fun w hSw => ?_) hS (fun hS => ?_)
      rotate_left
      · go_simp; try with_reducible rfl
      try go_frame
      refine held_pure (i := 8) (oi := ⟨some 22, _, _, _, _, _⟩) rfl (by kernel_rfl) (by kernel_rfl) (by kernel_rfl) (fun _ _ _ h => h) (by rfl) (fun w hSw => run_load_int rfl rfl ((hSw.cell (p := ⟨b1, o1 + k * 3, none⟩) hb1).trans kx0)) hS (fun hS => ?_)
      try go_frame
      refine held_pure (i := 9) (oi := ⟨some 23, _, _, _, _, _⟩) rfl (by kernel_rfl) (by kernel_rfl) (by kernel_rfl) (fun _ _ _ h => h) (by rfl) (v := ?_) (fun w hSw => ?_) hS (fun hS => ?_)
      rotate_left
      · go_simp; try with_reducible rfl
      try go_frame
      refine held_pure (i := 10) (oi := ⟨some 24, _, _, _, _, _⟩) rfl (by kernel_rfl) (by kernel_rfl) (by kernel_rfl) (fun _ _ _ h => h) (by rfl) (v := ?_) (fun w hSw => ?_) hS (fun hS => ?_)
      rotate_left
      · go_simp; try with_reducible rfl
      try go_frame
      refine held_pure (i := 11) (oi := ⟨some 25, _, _, _, _, _⟩) rfl (by kernel_rfl) (by kernel_rfl) (by kernel_rfl) (fun _ _ _ h => h) (by rfl) (v := ?_) (fun w hSw => ?_) hS (fun hS => ?_)
      rotate_left
      · go_simp; try with_reducible rfl
      try go_frame
      refine held_pure (i := 12) (oi := ⟨some 26, _, _, _, _, _⟩) rfl (by kernel_rfl) (by kernel_rfl) (by kernel_rfl) (fun _ _ _ h => h) (by rfl) (fun w hSw => run_load_ps rfl rfl ((hSw.cell (p := ⟨g, o, none⟩) hgr).trans kc)) hS (fun hS => ?_)
      try go_frame
      refine held_pure (i := 13) (oi := ⟨some 27, _, _, _, _, _⟩) rfl (by kernel_rfl) (by kernel_rfl) (by kernel_rfl) (fun _ _ _ h => h) (by rfl) (v := ?_) (fun w hSw => ?_) hS (fun hS => ?_)
      rotate_left
      · go_simp; try with_reducible rfl
      try go_frame
      refine held_pure (i := 14) (oi := ⟨some 28, _, _, _, _, _⟩) rfl (by kernel_rfl) (by kernel_rfl) (by kernel_rfl) (fun _ _ _ h => h) (by rfl) (v := Value.pointer (some ⟨b1, o1 + k * 3, none⟩)) (fun w hSw => by go_simp; try (exact fun h => absurd h (by omega))) hS (fun hS => ?_)
      try go_frame
      refine held_pure (i := 15) (oi := ⟨some 29, _, _, _, _, _⟩) rfl (by kernel_rfl) (by kernel_rfl) (by kernel_rfl) (fun _ _ _ h => h) (by rfl) (v := Value.pointer (some ⟨b1, o1 + k * 3 + 2, none⟩)) (fun w hSw => by go_simp) hS (fun hS => ?_)
      try go_frame
      refine held_pure (i := 16) (oi := ⟨some 30, _, _, _, _, _⟩) rfl (by kernel_rfl) (by kernel_rfl) (by kernel_rfl) (fun _ _ _ h => h) (by rfl) (fun w hSw => run_load_sl rfl rfl ((hSw.cell (p := ⟨b1, o1 + k * 3 + 2, none⟩) hb1).trans kx2)) hS (fun hS => ?_)
      try go_frame
      refine held_pure (i := 17) (oi := ⟨some 31, _, _, _, _, _⟩) rfl (by kernel_rfl) (by kernel_rfl) (by kernel_rfl) (fun _ _ _ h => h) (by rfl) (v := ?_) (fun w hSw => ?_) hS (fun hS => ?_)
      rotate_left
      · go_simp; try with_reducible rfl
      try go_frame
      refine held_pure (i := 18) (oi := ⟨some 32, _, _, _, _, _⟩) rfl (by kernel_rfl) (by kernel_rfl) (by kernel_rfl) (fun _ _ _ h => h) (by rfl) (v := .int .i64 x.p.stop) (fun w hSw => by go_simp; exact HW.out) hS (fun hS => ?_)
      try go_frame
      refine held_pure (i := 19) (oi := ⟨some 33, _, _, _, _, _⟩) rfl (by kernel_rfl) (by kernel_rfl) (by kernel_rfl) (fun _ _ _ h => h) (by rfl) (v := .int .i64 (max s x.p.stop)) (fun w hSw => by go_simp) hS (fun hS => ?_)
      try go_frame
      refine held_pure (i := 20) (oi := ⟨some 3, _, _, _, _, _⟩) rfl (by kernel_rfl) (by kernel_rfl) (by kernel_rfl) (fun _ _ _ h => h) (by rfl) (v := ?_) (fun w hSw => ?_) hS (fun hS => ?_)
      rotate_left
      · go_simp; try with_reducible rfl
      try go_frame
      refine wpAnyH_done (by kernel_rfl) ?_ _
      go_wp2_with fail
      go_roundw
      case rel => exact ⟨k + 1, max s x.p.stop, by omega, by simp, rfl, by omega, Lib.hid (by rw [HE.out, HXD.out, farP]; omega), hbel.trans (hS.mono hzr)⟩
      case measure => simp [intOf]; omega
    · obtain rfl : n = k := by omega
      go_wp2
      go_ret
      exact ⟨by rw [HE.out, List.drop_eq_nil_of_le (by rw [HL.out, piE, List.length_map, ← HN.out]; exact Nat.le_refl _), farP, Int.max_eq_left hs0.1]; rfl, hbel⟩
set_option maxRecDepth 100000 in
set_option maxHeartbeats 1000000 in
theorem r15bytes (A : Option Addr) (c : Nat) (l : List XP) (B g o : Nat) (w : World) (h : Ho w B g o A c l) (hB : B ≤ w.heap.size) :
    Calls Try.prog 19 #[.pointer (some ⟨g, o, none⟩)] w fun e w' => e = .returned (.int .i64 (bytesP (piE l))) ∧ Below w.heap.size w w' := by
  obtain ⟨n, hn⟩ : ∃ n, n = l.length := ⟨_, rfl⟩
  have HN := Lib.hid hn
  obtain ⟨L, hL⟩ : ∃ L, L = piE l := ⟨_, rfl⟩
  have HL := Lib.hid hL
  have HO := Lib.hid h
  have k0 := h.cell
  have hgz : g < w.heap.size := cell_block k0
  have hn1 : n ≤ 100000 := by rw [hn]; exact h.n
  have hn2 : n ≤ c := by rw [hn]; exact h.cap
  rw [← hn] at k0
  rw [← hL]
  clear hn hL h
  go_enter Try.func19, Try.ntmps19
  go_wp2
  go_loopw [3, 4] (fun t i wr => ∃ (k : Nat) (s : Int), k ≤ n ∧ i = .int .i64 (k : Int) ∧ t = .int .i64 s ∧ (0 ≤ s ∧ s ≤ 65535 * (k : Int)) ∧ Hid (bytesP L = s + bytesP (L.drop k)) ∧ Below w.heap.size w wr)
    (fun t i _ => n - (intOf i).toNat)
  case atStart => exact ⟨0, 0, Nat.zero_le _, rfl, rfl, by omega, Lib.hid (by rw [List.drop_zero, Int.zero_add]), Below.refl _ _⟩
  case round =>
    obtain ⟨k, s, hk, rfl, rfl, hs0, HE, hbel⟩ := hrel
    have kc := (hbel.cell (p := ⟨g, o, none⟩) hgz).trans k0
    by_cases hlt : k < n
    · skip
      obtain ⟨x, hx⟩ : ∃ x, l[k]? = some x := ⟨_, List.getElem?_eq_getElem (by rw [← HN.out]; exact hlt)⟩
      have hxm := List.mem_of_getElem? hx
      obtain ⟨ok1, ok2⟩ := HO.out.ok x hxm
      have ok3 : x.p.stop = x.p.off + (x.p.b.length : Int) := rfl
      obtain ⟨b1, o1, e1, hb1', hr1⟩ := HO.out.rd (by rw [← HN.out]; omega)
      obtain rfl := e1
      have hr := range_below (hr1 k x hx) hb1' (hbel.mono hB)
      have kx0 : wr.cell? ⟨b1, o1 + k * 3, none⟩ = some (.int .i64 x.p.off) := by simpa using hr 0 _ rfl
      have kx1 : wr.cell? ⟨b1, o1 + k * 3 + 1, none⟩ = some (.bool x.p.more) := hr 1 _ rfl
      have kx2 : wr.cell? ⟨b1, o1 + k * 3 + 2, none⟩ = some (.slice x.A x.p.b.length x.c) := hr 2 _ rfl
      have HXD : Hid (L.drop k = x.p :: L.drop (k + 1)) := Lib.hid (by
        have hl : k < L.length := by rw [HL.out, piE, List.length_map, ← HN.out]; exact hlt
        rw [List.drop_eq_getElem_cons hl]
        congr 1
        have h1 : L[k]? = some x.p := by rw [HL.out, piE, List.getElem?_map, hx]; rfl
        rw [List.getElem?_eq_getElem hl] at h1
        exact Option.some.inj h1)
      have hzr := hbel.size
      have hb1 : b1 < wr.heap.size := by omega
      have hgr : g < wr.heap.size := by omega
      clear hr1 hx
      have hb0 : x.p.b.length ≤ 65535 := by omega
      have e2 : wrap64 (s + (x.p.b.length : Int)) = s + (x.p.b.length : Int) := by unfold wrap64; omega
      go_wp2
      go_roundw
      case rel => exact ⟨k + 1, s + (x.p.b.length : Int), by omega, by simp, rfl, by omega, Lib.hid (by rw [HE.out, HXD.out, bytesP, Pc.len]; omega), hbel⟩
      case measure => simp [intOf]; omega
    · obtain rfl : n = k := by omega
      go_wp2
      go_ret
      exact ⟨by rw [HE.out, List.drop_eq_nil_of_le (by rw [HL.out, piE, List.length_map, ← HN.out]; exact Nat.le_refl _), bytesP, Int.add_zero]; rfl, hbel⟩
theorem cover_cons (x : Pc) (l : List Pc) (a : Int) : coverP (x :: l) a = ((decide (x.off ≤ a) && decide (a < x.stop)) || coverP l a) := by simp [coverP]
set_option maxRecDepth 100000 in
set_option maxHeartbeats 1000000 in
theorem r15cover (A : Option Addr) (c : Nat) (l : List XP) (B g o : Nat) (a : Int) (w : World) (h : Ho w B g o A c l) (hB : B ≤ w.heap.size) :
    Calls Try.prog 53 #[.pointer (some ⟨g, o, none⟩), .int .i64 a] w fun e w' => e = .returned (.bool (coverP (piE l) a)) ∧ Below w.heap.size w w' := by
  obtain ⟨n, hn⟩ : ∃ n, n = l.length := ⟨_, rfl⟩
  have HN := Lib.hid hn
  obtain ⟨L, hL⟩ : ∃ L, L = piE l := ⟨_, rfl⟩
  have HL := Lib.hid hL
  have HO := Lib.hid h
  have k0 := h.cell
  have hgz : g < w.heap.size := cell_block k0
  have hn1 : n ≤ 100000 := by rw [hn]; exact h.n
  have hn2 : n ≤ c := by rw [hn]; exact h.cap
  rw [← hn] at k0
  rw [← hL]
  clear hn hL h
  go_enter Try.func53, Try.ntmps53
  go_wp2
  go_loopw [5] (fun i wr => ∃ (k : Nat), k ≤ n ∧ i = .int .i64 (k : Int) ∧ Hid (coverP L a = coverP (L.drop k) a) ∧ Below w.heap.size w wr)
    (fun i _ => n - (intOf i).toNat)
  case atStart => exact ⟨0, Nat.zero_le _, rfl, Lib.hid rfl, Below.refl _ _⟩
  case round =>
    obtain ⟨k, hk, rfl, HE, hbel⟩ := hrel
    have kc := (hbel.cell (p := ⟨g, o, none⟩) hgz).trans k0
    by_cases hlt : k < n
    · skip
      obtain ⟨x, hx⟩ : ∃ x, l[k]? = some x := ⟨_, List.getElem?_eq_getElem (by rw [← HN.out]; exact hlt)⟩
      have hxm := List.mem_of_getElem? hx
      obtain ⟨ok1, ok2⟩ := HO.out.ok x hxm
      have ok3 : x.p.stop = x.p.off + (x.p.b.length : Int) := rfl
      obtain ⟨b1, o1, e1, hb1', hr1⟩ := HO.out.rd (by rw [← HN.out]; omega)
      obtain rfl := e1
      have hr := range_below (hr1 k x hx) hb1' (hbel.mono hB)
      have kx0 : wr.cell? ⟨b1, o1 + k * 3, none⟩ = some (.int .i64 x.p.off) := by simpa using hr 0 _ rfl
      have kx1 : wr.cell? ⟨b1, o1 + k * 3 + 1, none⟩ = some (.bool x.p.more) := hr 1 _ rfl
      have kx2 : wr.cell? ⟨b1, o1 + k * 3 + 2, none⟩ = some (.slice x.A x.p.b.length x.c) := hr 2 _ rfl
      have HXD : Hid (L.drop k = x.p :: L.drop (k + 1)) := Lib.hid (by
        have hl : k < L.length := by rw [HL.out, piE, List.length_map, ← HN.out]; exact hlt
        rw [List.drop_eq_getElem_cons hl]
        congr 1
        have h1 : L[k]? = some x.p := by rw [HL.out, piE, List.getElem?_map, hx]; rfl
        rw [List.getElem?_eq_getElem hl] at h1
        exact Option.some.inj h1)
      have hzr := hbel.size
      have hb1 : b1 < wr.heap.size := by omega
      have hgr : g < wr.heap.size := by omega
      clear hr1 hx
      have HW : Hid (IntKind.i64.wrap (x.p.off + (x.p.b.length : Int)) = x.p.stop) := Lib.hid (by rw [ok3]; exact IntWalk.i64_in _ (by omega))
      by_cases h1 : x.p.off ≤ a
      · have d1 : decide (x.p.off ≤ a) = true := decide_eq_true h1
        by_cases h2 : a < x.p.stop
        · have d2 : decide (a < x.p.stop) = true := decide_eq_true h2
          clear h1 h2
          go_upto_region 4 with fail
          refine wp_region_held_drew (S := fun w' => Below wr.heap.size wr w') (by kernel_rfl) (Below.refl _ wr).drew (fun hS => ?_)
          refine held_pure (i := 0) (oi := ⟨some 15, _, _, _, _, _⟩) rfl (by kernel_rfl) (by kernel_rfl) (by kernel_rfl) (fun _ _ _ h => h) (by rfl) (v := ?_) (fun w hSw => ?_) hS (fun hS => ?_)
          rotate_left
          · go_simp; try with_reducible rfl
          try go_frame
          refine held_pure (i := 1) (oi := ⟨some 16, _, _, _, _, _⟩) rfl (by kernel_rfl) (by kernel_rfl) (by kernel_rfl) (fun _ _ _ h => h) (by rfl) (v := ?_) (fun w hSw => ?_) hS (fun hS => ?_)
          rotate_left
          · go_simp; try with_reducible rfl
          try go_frame
          refine held_pure (i := 2) (oi := ⟨some 17, _, _, _, _, _⟩) rfl (by kernel_rfl) (by kernel_rfl) (by kernel_rfl) (fun _ _ _ h => h) (by rfl) (v := ?_) (fun w hSw => ?_) hS (fun hS => ?_)
          rotate_left
          · go_simp; try with_reducible rfl
          try go_frame
          refine held_pure (i := 3) (oi := ⟨some 18, _, _, _, _, _⟩) rfl (by kernel_rfl) (by kernel_rfl) (by kernel_rfl) (fun _ _ _ h => h) (by rfl) (fun w hSw => run_load_ps rfl rfl ((hSw.cell (p := ⟨g, o, none⟩) hgr).trans kc)) hS (fun hS => ?_)
          try go_frame
          refine held_pure (i := 4) (oi := ⟨some 19, _, _, _, _, _⟩) rfl (by kernel_rfl) (by kernel_rfl) (by kernel_rfl) (fun _ _ _ h => h) (by rfl) (v := ?_) (fun w hSw => ?_) hS (fun hS => ?_)
          rotate_left
          · go_simp; try with_reducible rfl
          try go_frame
          refine held_pure (i := 5) (oi := ⟨some 20, _, _, _, _, _⟩) rfl (by kernel_rfl) (by kernel_rfl) (by kernel_rfl) (fun _ _ _ h => h) (by rfl) (v := Value.pointer (some ⟨b1, o1 + k * 3, none⟩)) (fun w hSw => by go_simp; try (exact fun h => absurd h (by omega))) hS (fun hS => ?_)
          try go_frame
          refine held_pure (i := 6) (oi := ⟨some 21, _, _, _, _, _⟩) rfl (by kernel_rfl) (by kernel_rfl) (by kernel_rfl) (fun _ _ _ h => h) (by rfl) (v := ?_) (fun w hSw => ?_) hS (fun hS => ?_)
          rotate_left
          · go_simp; try with_reducible rfl
          try go_frame
          refine held_pure (i := 7) (oi := ⟨some 22, _, _, _, _, _⟩) rfl (by kernel_rfl) (by kernel_rfl) (by kernel_rfl) (fun _ _ _ h => h) (by rfl) (fun w hSw => run_load_int rfl rfl ((hSw.cell (p := ⟨b1, o1 + k * 3, none⟩) hb1).trans kx0)) hS (fun hS => ?_)
          try go_frame
          refine held_pure (i := 8) (oi := ⟨some 23, _, _, _, _, _⟩) rfl (by kernel_rfl) (by kernel_rfl) (by kernel_rfl) (fun _ _ _ h => h) (by rfl) (v := ?_) (fun w hSw => ?_) hS (fun hS => ?_)
          rotate_left
          · go_simp; try with_reducible rfl
          try go_frame
          refine held_pure (i := 9) (oi := ⟨some 24, _, _, _, _, _⟩) rfl (by kernel_rfl) (by kernel_rfl) (by kernel_rfl) (fun _ _ _ h => h) (by rfl) (v := ?_) (fun w hSw => ?_) hS (fun hS => ?_)
          rotate_left
          · go_simp; try with_reducible rfl
          try go_frame
          refine held_pure (i := 10) (oi := ⟨some 25, _, _, _, _, _⟩) rfl (by kernel_rfl) (by kernel_rfl) (by kernel_rfl) (fun _ _ _ h => h) (by rfl) (v := ?_) (fun w hSw => ?_) hS (fun hS => ?_)
          rotate_left
          · go_simp; try with_reducible rfl
          try go_frame
          refine held_pure (i := 11) (oi := ⟨some 26, _, _, _, _, _⟩) rfl (by kernel_rfl) (by kernel_rfl) (by kernel_rfl) (fun _ _ _ h => h) (by rfl) (v := ?_) (fun w hSw => ?_) hS (fun hS => ?_)
          rotate_left
          · go_simp; try with_reducible rfl
          try go_frame
          refine held_pure (i := 12) (oi := ⟨some 27, _, _, _, _, _⟩) rfl (by kernel_rfl) (by kernel_rfl) (by kernel_rfl) (fun _ _ _ h => h) (by rfl) (v := ?_) (fun w hSw => ?_) hS (fun hS => ?_)
          rotate_left
          · go_simp; try with_reducible rfl
          try go_frame
          refine held_pure (i := 13) (oi := ⟨some 28, _, _, _, _, _⟩) rfl (by kernel_rfl) (by kernel_rfl) (by kernel_rfl) (fun _ _ _ h => h) (by rfl) (v := ?_) (fun w hSw => ?_) hS (fun hS => ?_)
          rotate_left
          · go_simp; try with_reducible rfl
          try go_frame
          refine held_pure (i := 14) (oi := ⟨some 29, _, _, _, _, _⟩) rfl (by kernel_rfl) (by kernel_rfl) (by kernel_rfl) (fun _ _ _ h => h) (by rfl) (v := ?_) (fun w hSw => ?_) hS (fun hS => ?_)
          rotate_left
          · go_simp; try with_reducible rfl
          try go_frame
          refine held_pure (i := 15) (oi := ⟨some 30, _, _, _, _, _⟩) rfl (by kernel_rfl) (by kernel_rfl) (by kernel_rfl) (fun _ _ _ h => h) (by rfl) (fun w hSw => run_load_ps rfl rfl ((hSw.cell (p := ⟨g, o, none⟩) hgr).trans kc)) hS (fun hS => ?_)
          try go_frame
          refine held_pure (i := 16) (oi := ⟨some 31, _, _, _, _, _⟩) rfl (by kernel_rfl) (by kernel_rfl) (by kernel_rfl) (fun _ _ _ h => h) (by rfl) (v := ?_) (fun w hSw => ?_) hS (fun hS => ?_)
          rotate_left
          · go_simp; try with_reducible rfl
          try go_frame
          refine held_pure (i := 17) (oi := ⟨some 32, _, _, _, _, _⟩) rfl (by kernel_rfl) (by kernel_rfl) (by kernel_rfl) (fun _ _ _ h => h) (by rfl) (v := Value.pointer (some ⟨b1, o1 + k * 3, none⟩)) (fun w hSw => by go_simp; try (exact fun h => absurd h (by omega))) hS (fun hS => ?_)
          try go_frame
          refine held_pure (i := 18) (oi := ⟨some 33, _, _, _, _, _⟩) rfl (by kernel_rfl) (by kernel_rfl) (by kernel_rfl) (fun _ _ _ h => h) (by rfl) (v := ?_) (fun w hSw => ?_) hS (fun hS => ?_)
          rotate_left
          · go_simp; try with_reducible rfl
          try go_frame
          refine held_pure (i := 19) (oi := ⟨some 34, _, _, _, _, _⟩) rfl (by kernel_rfl) (by kernel_rfl) (by kernel_rfl) (fun _ _ _ h => h) (by rfl) (fun w hSw => run_load_int rfl rfl ((hSw.cell (p := ⟨b1, o1 + k * 3, none⟩) hb1).trans kx0)) hS (fun hS => ?_)
          try go_frame
          refine held_pure (i := 20) (oi := ⟨some 35, _, _, _, _, _⟩) rfl (by kernel_rfl) (by kernel_rfl) (by kernel_rfl) (fun _ _ _ h => h) (by rfl) (v := ?_) (fun w hSw => ?_) hS (fun hS => ?_)
          rotate_left
          · go_simp; try with_reducible rfl
          try go_frame
          refine held_pure (i := 21) (oi := ⟨some 36, _, _, _, _, _⟩) rfl (by kernel_rfl) (by kernel_rfl) (by kernel_rfl) (fun _ _ _ h => h) (by rfl) (v := ?_) (fun w hSw => ?_) hS (fun hS => ?_)
          rotate_left
          · go_simp; try with_reducible rfl
          try go_frame
          refine held_pure (i := 22) (oi := ⟨some 37, _, _, _, _, _⟩) rfl (by kernel_rfl) (by kernel_rfl) (by kernel_rfl) (fun _ _ _ h => h) (by rfl) (v := ?_) (fun w hSw => ?_) hS (fun hS => ?_)
          rotate_left
          · go_simp; try with_reducible rfl
          try go_frame
          refine held_pure (i := 23) (oi := ⟨some 38, _, _, _, _, _⟩) rfl (by kernel_rfl) (by kernel_rfl) (by kernel_rfl) (fun _ _ _ h => h) (by rfl) (fun w hSw => run_load_ps rfl rfl ((hSw.cell (p := ⟨g, o, none⟩) hgr).trans kc)) hS (fun hS => ?_)
          try go_frame
          refine held_pure (i := 24) (oi := ⟨some 39, _, _, _, _, _⟩) rfl (by kernel_rfl) (by kernel_rfl) (by kernel_rfl) (fun _ _ _ h => h) (by rfl) (v := ?_) (fun w hSw => ?_) hS (fun hS => ?_)
          rotate_left
          · go_simp; try with_reducible rfl
          try go_frame
          refine held_pure (i := 25) (oi := ⟨some 40, _, _, _, _, _⟩) rfl (by kernel_rfl) (by kernel_rfl) (by kernel_rfl) (fun _ _ _ h => h) (by rfl) (v := Value.pointer (some ⟨b1, o1 + k * 3, none⟩)) (fun w hSw => by go_simp; try (exact fun h => absurd h (by omega))) hS (fun hS => ?_)
          try go_frame
          refine held_pure (i := 26) (oi := ⟨some 41, _, _, _, _, _⟩) rfl (by kernel_rfl) (by kernel_rfl) (by kernel_rfl) (fun _ _ _ h => h) (by rfl) (v := Value.pointer (some ⟨b1, o1 + k * 3 + 2, none⟩)) (fun w hSw => by go_simp) hS (fun hS => ?_)
          try go_frame
          refine held_pure (i := 27) (oi := ⟨some 42, _, _, _, _, _⟩) rfl (by kernel_rfl) (by kernel_rfl) (by kernel_rfl) (fun _ _ _ h => h) (by rfl) (fun w hSw => run_load_sl rfl rfl ((hSw.cell (p := ⟨b1, o1 + k * 3 + 2, none⟩) hb1).trans kx2)) hS (fun hS => ?_)
          try go_frame
          refine held_pure (i := 28) (oi := ⟨some 43, _, _, _, _, _⟩) rfl (by kernel_rfl) (by kernel_rfl) (by kernel_rfl) (fun _ _ _ h => h) (by rfl) (v := ?_) (fun w hSw => ?_) hS (fun hS => ?_)
          rotate_left
          · go_simp; try with_reducible rfl
          try go_frame
          refine held_pure (i := 29) (oi := ⟨some 44, _, _, _, _, _⟩) rfl (by kernel_rfl) (by kernel_rfl) (by kernel_rfl) (fun _ _ _ h => h) (by rfl) (v := .int .i64 x.p.stop) (fun w hSw => by go_simp; exact HW.out) hS (fun hS => ?_)
          try go_frame
          refine held_pure (i := 30) (oi := ⟨some 45, _, _, _, _, _⟩) rfl (by kernel_rfl) (by kernel_rfl) (by kernel_rfl) (fun _ _ _ h => h) (by rfl) (v := ?_) (fun w hSw => ?_) hS (fun hS => ?_)
          rotate_left
          · go_simp; try with_reducible rfl
          try go_frame
          refine held_pure (i := 31) (oi := ⟨some 46, _, _, _, _, _⟩) rfl (by kernel_rfl) (by kernel_rfl) (by kernel_rfl) (fun _ _ _ h => h) (by rfl) (v := .bool true) (fun w hSw => by go_simp; have := of_decide_eq_true d2; omega) hS (fun hS => ?_)
          try go_frame
          refine wpAnyH_done (by kernel_rfl) ?_ _
          go_wp2_with fail
          go_ret
          exact ⟨by rw [HE.out, HXD.out, cover_cons, d1, d2]; rfl, hbel.trans (hS.mono hzr)⟩
        · have d2 : decide (a < x.p.stop) = false := decide_eq_false h2
          have hcv : (decide (x.p.off ≤ a) && decide (a < x.p.stop)) = false := by rw [d1, d2]; rfl
          clear h1 h2
          go_upto_region 4 with fail
          refine wp_region_held_drew (S := fun w' => Below wr.heap.size wr w') (by kernel_rfl) (Below.refl _ wr).drew (fun hS => ?_)
          refine held_pure (i := 0) (oi := ⟨some 15, _, _, _, _, _⟩) rfl (by kernel_rfl) (by kernel_rfl) (by kernel_rfl) (fun _ _ _ h => h) (by rfl) (v := ?_) (fun w hSw => ?_) hS (fun hS => ?_)
          rotate_left
          · go_simp; try with_reducible rfl
          try go_frame
          refine held_pure (i := 1) (oi := ⟨some 16, _, _, _, _, _⟩) rfl (by kernel_rfl) (by kernel_rfl) (by kernel_rfl) (fun _ _ _ h => h) (by rfl) (v := ?_) (fun w hSw => ?_) hS (fun hS => ?_)
          rotate_left
          · go_simp; try with_reducible rfl
          try go_frame
          refine held_pure (i := 2) (oi := ⟨some 17, _, _, _, _, _⟩) rfl (by kernel_rfl) (by kernel_rfl) (by kernel_rfl) (fun _ _ _ h => h) (by rfl) (v := ?_) (fun w hSw => ?_) hS (fun hS => ?_)
          rotate_left
          · go_simp; try with_reducible rfl
          try go_frame
          refine held_pure (i := 3) (oi := ⟨some 18, _, _, _, _, _⟩) rfl (by kernel_rfl) (by kernel_rfl) (by kernel_rfl) (fun _ _ _ h => h) (by rfl) (fun w hSw => run_load_ps rfl rfl ((hSw.cell (p := ⟨g, o, none⟩) hgr).trans kc)) hS (fun hS => ?_)
          try go_frame
          refine held_pure (i := 4) (oi := ⟨some 19, _, _, _, _, _⟩) rfl (by kernel_rfl) (by kernel_rfl) (by kernel_rfl) (fun _ _ _ h => h) (by rfl) (v := ?_) (fun w hSw => ?_) hS (fun hS => ?_)
          rotate_left
          · go_simp; try with_reducible rfl
          try go_frame
          refine held_pure (i := 5) (oi := ⟨some 20, _, _, _, _, _⟩) rfl (by kernel_rfl) (by kernel_rfl) (by kernel_rfl) (fun _ _ _ h => h) (by rfl) (v := Value.pointer (some ⟨b1, o1 + k * 3, none⟩)) (fun w hSw => by go_simp; try (exact fun h => absurd h (by omega))) hS (fun hS => ?_)
          try go_frame
          refine held_pure (i := 6) (oi := ⟨some 21, _, _, _, _, _⟩) rfl (by kernel_rfl) (by kernel_rfl) (by kernel_rfl) (fun _ _ _ h => h) (by rfl) (v := ?_) (fun w hSw => ?_) hS (fun hS => ?_)
          rotate_left
          · go_simp; try with_reducible rfl
          try go_frame
          refine held_pure (i := 7) (oi := ⟨some 22, _, _, _, _, _⟩) rfl (by kernel_rfl) (by kernel_rfl) (by kernel_rfl) (fun _ _ _ h => h) (by rfl) (fun w hSw => run_load_int rfl rfl ((hSw.cell (p := ⟨b1, o1 + k * 3, none⟩) hb1).trans kx0)) hS (fun hS => ?_)
          try go_frame
          refine held_pure (i := 8) (oi := ⟨some 23, _, _, _, _, _⟩) rfl (by kernel_rfl) (by kernel_rfl) (by kernel_rfl) (fun _ _ _ h => h) (by rfl) (v := ?_) (fun w hSw => ?_) hS (fun hS => ?_)
          rotate_left
          · go_simp; try with_reducible rfl
          try go_frame
          refine held_pure (i := 9) (oi := ⟨some 24, _, _, _, _, _⟩) rfl (by kernel_rfl) (by kernel_rfl) (by kernel_rfl) (fun _ _ _ h => h) (by rfl) (v := ?_) (fun w hSw => ?_) hS (fun hS => ?_)
          rotate_left
          · go_simp; try with_reducible rfl
          try go_frame
          refine held_pure (i := 10) (oi := ⟨some 25, _, _, _, _, _⟩) rfl (by kernel_rfl) (by kernel_rfl) (by kernel_rfl) (fun _ _ _ h => h) (by rfl) (v := ?_) (fun w hSw => ?_) hS (fun hS => ?_)
          rotate_left
          · go_simp; try with_reducible rfl
          try go_frame
          refine held_pure (i := 11) (oi := ⟨some 26, _, _, _, _, _⟩) rfl (by kernel_rfl) (by kernel_rfl) (by kernel_rfl) (fun _ _ _ h => h) (by rfl) (v := ?_) (fun w hSw => ?_) hS (fun hS => ?_)
          rotate_left
          · go_simp; try with_reducible rfl
          try go_frame
          refine held_pure (i := 12) (oi := ⟨some 27, _, _, _, _, _⟩) rfl (by kernel_rfl) (by kernel_rfl) (by kernel_rfl) (fun _ _ _ h => h) (by rfl) (v := ?_) (fun w hSw => ?_) hS (fun hS => ?_)
          rotate_left
          · go_simp; try with_reducible rfl
          try go_frame
          refine held_pure (i := 13) (oi := ⟨some 28, _, _, _, _, _⟩) rfl (by kernel_rfl) (by kernel_rfl) (by kernel_rfl) (fun _ _ _ h => h) (by rfl) (v := ?_) (fun w hSw => ?_) hS (fun hS => ?_)
          rotate_left
          · go_simp; try with_reducible rfl
          try go_frame
          refine held_pure (i := 14) (oi := ⟨some 29, _, _, _, _, _⟩) rfl (by kernel_rfl) (by kernel_rfl) (by kernel_rfl) (fun _ _ _ h => h) (by rfl) (v := ?_) (fun w hSw => ?_) hS (fun hS => ?_)
          rotate_left
          · go_simp; try with_reducible rfl
          try go_frame
          refine held_pure (i := 15) (oi := ⟨some 30, _, _, _, _, _⟩) rfl (by kernel_rfl) (by kernel_rfl) (by kernel_rfl) (fun _ _ _ h => h) (by rfl) (fun w hSw => run_load_ps rfl rfl ((hSw.cell (p := ⟨g, o, none⟩) hgr).trans kc)) hS (fun hS => ?_)
          try go_frame
          refine held_pure (i := 16) (oi := ⟨some 31, _, _, _, _, _⟩) rfl (by kernel_rfl) (by kernel_rfl) (by kernel_rfl) (fun _ _ _ h => h) (by rfl) (v := ?_) (fun w hSw => ?_) hS (fun hS => ?_)
          rotate_left
          · go_simp; try with_reducible rfl
          try go_frame
          refine held_pure (i := 17) (oi := ⟨some 32, _, _, _, _, _⟩) rfl (by kernel_rfl) (by kernel_rfl) (by kernel_rfl) (fun _ _ _ h => h) (by rfl) (v := Value.pointer (some ⟨b1, o1 + k * 3, none⟩)) (fun w hSw => by go_simp; try (exact fun h => absurd h (by omega))) hS (fun hS => ?_)
          try go_frame
          refine held_pure (i := 18) (oi := ⟨some 33, _, _, _, _, _⟩) rfl (by kernel_rfl) (by kernel_rfl) (by kernel_rfl) (fun _ _ _ h => h) (by rfl) (v := ?_) (fun w hSw => ?_) hS (fun hS => ?_)
          rotate_left
          · go_simp; try with_reducible rfl
          try go_frame
          refine held_pure (i := 19) (oi := ⟨some 34, _, _, _, _, _⟩) rfl (by kernel_rfl) (by kernel_rfl) (by kernel_rfl) (fun _ _ _ h => h) (by rfl) (fun w hSw => run_load_int rfl rfl ((hSw.cell (p := ⟨b1, o1 + k * 3, none⟩) hb1).trans kx0)) hS (fun hS => ?_)
          try go_frame
          refine held_pure (i := 20) (oi := ⟨some 35, _, _, _, _, _⟩) rfl (by kernel_rfl) (by kernel_rfl) (by kernel_rfl) (fun _ _ _ h => h) (by rfl) (v := ?_) (fun w hSw => ?_) hS (fun hS => ?_)
          rotate_left
          · go_simp; try with_reducible rfl
          try go_frame
          refine held_pure (i := 21) (oi := ⟨some 36, _, _, _, _, _⟩) rfl (by kernel_rfl) (by kernel_rfl) (by kernel_rfl) (fun _ _ _ h => h) (by rfl) (v := ?_) (fun w hSw => ?_) hS (fun hS => ?_)
          rotate_left
          · go_simp; try with_reducible rfl
          try go_frame
          refine held_pure (i := 22) (oi := ⟨some 37, _, _, _, _, _⟩) rfl (by kernel_rfl) (by kernel_rfl) (by kernel_rfl) (fun _ _ _ h => h) (by rfl) (v := ?_) (fun w hSw => ?_) hS (fun hS => ?_)
          rotate_left
          · go_simp; try with_reducible rfl
          try go_frame
          refine held_pure (i := 23) (oi := ⟨some 38, _, _, _, _, _⟩) rfl (by kernel_rfl) (by kernel_rfl) (by kernel_rfl) (fun _ _ _ h => h) (by rfl) (fun w hSw => run_load_ps rfl rfl ((hSw.cell (p := ⟨g, o, none⟩) hgr).trans kc)) hS (fun hS => ?_)
          try go_frame
          refine held_pure (i := 24) (oi := ⟨some 39, _, _, _, _, _⟩) rfl (by kernel_rfl) (by kernel_rfl) (by kernel_rfl) (fun _ _ _ h => h) (by rfl) (v := ?_) (fun w hSw => ?_) hS (fun hS => ?_)
          rotate_left
          · go_simp; try with_reducible rfl
          try go_frame
          refine held_pure (i := 25) (oi := ⟨some 40, _, _, _, _, _⟩) rfl (by kernel_rfl) (by kernel_rfl) (by kernel_rfl) (fun _ _ _ h => h) (by rfl) (v := Value.pointer (some ⟨b1, o1 + k * 3, none⟩)) (fun w hSw => by go_simp; try (exact fun h => absurd h (by omega))) hS (fun hS => ?_)
          try go_frame
          refine held_pure (i := 26) (oi := ⟨some 41, _, _, _, _, _⟩) rfl (by kernel_rfl) (by kernel_rfl) (by kernel_rfl) (fun _ _ _ h => h) (by rfl) (v := Value.pointer (some ⟨b1, o1 + k * 3 + 2, none⟩)) (fun w hSw => by go_simp) hS (fun hS => ?_)
          try go_frame
          refine held_pure (i := 27) (oi := ⟨some 42, _, _, _, _, _⟩) rfl (by kernel_rfl) (by kernel_rfl) (by kernel_rfl) (fun _ _ _ h => h) (by rfl) (fun w hSw => run_load_sl rfl rfl ((hSw.cell (p := ⟨b1, o1 + k * 3 + 2, none⟩) hb1).trans kx2)) hS (fun hS => ?_)
          try go_frame
          refine held_pure (i := 28) (oi := ⟨some 43, _, _, _, _, _⟩) rfl (by kernel_rfl) (by kernel_rfl) (by kernel_rfl) (fun _ _ _ h => h) (by rfl) (v := ?_) (fun w hSw => ?_) hS (fun hS => ?_)
          rotate_left
          · go_simp; try with_reducible rfl
          try go_frame
          refine held_pure (i := 29) (oi := ⟨some 44, _, _, _, _, _⟩) rfl (by kernel_rfl) (by kernel_rfl) (by kernel_rfl) (fun _ _ _ h => h) (by rfl) (v := .int .i64 x.p.stop) (fun w hSw => by go_simp; exact HW.out) hS (fun hS => ?_)
          try go_frame
          refine held_pure (i := 30) (oi := ⟨some 45, _, _, _, _, _⟩) rfl (by kernel_rfl) (by kernel_rfl) (by kernel_rfl) (fun _ _ _ h => h) (by rfl) (v := ?_) (fun w hSw => ?_) hS (fun hS => ?_)
          rotate_left
          · go_simp; try with_reducible rfl
          try go_frame
          refine held_pure (i := 31) (oi := ⟨some 46, _, _, _, _, _⟩) rfl (by kernel_rfl) (by kernel_rfl) (by kernel_rfl) (fun _ _ _ h => h) (by rfl) (v := .bool false) (fun w hSw => by go_simp; have := of_decide_eq_false d2; omega) hS (fun hS => ?_)
          try go_frame
          refine wpAnyH_done (by kernel_rfl) ?_ _
          go_wp2_with fail
          go_roundw
          case rel => exact ⟨k + 1, by omega, by simp, Lib.hid (by rw [HE.out, HXD.out, cover_cons, hcv]; rfl), hbel.trans (hS.mono hzr)⟩
          case measure => simp [intOf]; omega
      · have d1 : decide (x.p.off ≤ a) = false := decide_eq_false h1
        have hcv : (decide (x.p.off ≤ a) && decide (a < x.p.stop)) = false := by rw [d1]; rfl
        clear h1
        go_upto_region 4 with fail
        refine wp_region_held_drew (S := fun w' => Below wr.heap.size wr w') (by kernel_rfl) (Below.refl _ wr).drew (fun hS => ?_)
        refine held_pure (i := 0) (oi := ⟨some 15, _, _, _, _, _⟩) rfl (by kernel_rfl) (by kernel_rfl) (by kernel_rfl) (fun _ _ _ h => h) (by rfl) (v := ?_) (fun w hSw => ?_) hS (fun hS => ?_)
        rotate_left
        · go_simp; try with_reducible rfl
        try go_frame
        refine held_pure (i := 1) (oi := ⟨some 16, _, _, _, _, _⟩) rfl (by kernel_rfl) (by kernel_rfl) (by kernel_rfl) (fun _ _ _ h => h) (by rfl) (v := ?_) (fun w hSw => ?_) hS (fun hS => ?_)
        rotate_left
        · go_simp; try with_reducible rfl
        try go_frame
        refine held_pure (i := 2) (oi := ⟨some 17, _, _, _, _, _⟩) rfl (by kernel_rfl) (by kernel_rfl) (by kernel_rfl) (fun _ _ _ h => h) (by rfl) (v := ?_) (fun w hSw => ?_) hS (fun hS => ?_)
        rotate_left
        · go_simp; try with_reducible rfl
        try go_frame
        refine held_pure (i := 3) (oi := ⟨some 18, _, _, _, _, _⟩) rfl (by kernel_rfl) (by kernel_rfl) (by kernel_rfl) (fun _ _ _ h => h) (by rfl) (fun w hSw => run_load_ps rfl rfl ((hSw.cell (p := ⟨g, o, none⟩) hgr).trans kc)) hS (fun hS => ?_)
        try go_frame
        refine held_pure (i := 4) (oi := ⟨some 19, _, _, _, _, _⟩) rfl (by kernel_rfl) (by kernel_rfl) (by kernel_rfl) (fun _ _ _ h => h) (by rfl) (v := ?_) (fun w hSw => ?_) hS (fun hS => ?_)
        rotate_left
        · go_simp; try with_reducible rfl
        try go_frame
        refine held_pure (i := 5) (oi := ⟨some 20, _, _, _, _, _⟩) rfl (by kernel_rfl) (by kernel_rfl) (by kernel_rfl) (fun _ _ _ h => h) (by rfl) (v := Value.pointer (some ⟨b1, o1 + k * 3, none⟩)) (fun w hSw => by go_simp; try (exact fun h => absurd h (by omega))) hS (fun hS => ?_)
        try go_frame
        refine held_pure (i := 6) (oi := ⟨some 21, _, _, _, _, _⟩) rfl (by kernel_rfl) (by kernel_rfl) (by kernel_rfl) (fun _ _ _ h => h) (by rfl) (v := ?_) (fun w hSw => ?_) hS (fun hS => ?_)
        rotate_left
        · go_simp; try with_reducible rfl
        try go_frame
        refine held_pure (i := 7) (oi := ⟨some 22, _, _, _, _, _⟩) rfl (by kernel_rfl) (by kernel_rfl) (by kernel_rfl) (fun _ _ _ h => h) (by rfl) (fun w hSw => run_load_int rfl rfl ((hSw.cell (p := ⟨b1, o1 + k * 3, none⟩) hb1).trans kx0)) hS (fun hS => ?_)
        try go_frame
        refine held_pure (i := 8) (oi := ⟨some 23, _, _, _, _, _⟩) rfl (by kernel_rfl) (by kernel_rfl) (by kernel_rfl) (fun _ _ _ h => h) (by rfl) (v := ?_) (fun w hSw => ?_) hS (fun hS => ?_)
        rotate_left
        · go_simp; try with_reducible rfl
        try go_frame
        refine held_pure (i := 9) (oi := ⟨some 24, _, _, _, _, _⟩) rfl (by kernel_rfl) (by kernel_rfl) (by kernel_rfl) (fun _ _ _ h => h) (by rfl) (v := ?_) (fun w hSw => ?_) hS (fun hS => ?_)
        rotate_left
        · go_simp; try with_reducible rfl
        try go_frame
        refine held_pure (i := 10) (oi := ⟨some 25, _, _, _, _, _⟩) rfl (by kernel_rfl) (by kernel_rfl) (by kernel_rfl) (fun _ _ _ h => h) (by rfl) (v := ?_) (fun w hSw => ?_) hS (fun hS => ?_)
        rotate_left
        · go_simp; try with_reducible rfl
        try go_frame
        refine held_skip (i := 11) (oi := ⟨some 26, _, _, _, _, _⟩) rfl (by kernel_rfl) (by kernel_rfl) (by kernel_rfl) (fun _ _ _ h => h) (by rfl) hS (fun hS => ?_)
        try go_frame
        refine held_skip (i := 12) (oi := ⟨some 27, _, _, _, _, _⟩) rfl (by kernel_rfl) (by kernel_rfl) (by kernel_rfl) (fun _ _ _ h => h) (by rfl) hS (fun hS => ?_)
        try go_frame
        refine held_skip (i := 13) (oi := ⟨some 28, _, _, _, _, _⟩) rfl (by kernel_rfl) (by kernel_rfl) (by kernel_rfl) (fun _ _ _ h => h) (by rfl) hS (fun hS => ?_)
        try go_frame
        refine held_skip (i := 14) (oi := ⟨some 29, _, _, _, _, _⟩) rfl (by kernel_rfl) (by kernel_rfl) (by kernel_rfl) (fun _ _ _ h => h) (by rfl) hS (fun hS => ?_)
        try go_frame
        refine held_skip (i := 15) (oi := ⟨some 30, _, _, _, _, _⟩) rfl (by kernel_rfl) (by kernel_rfl) (by kernel_rfl) (fun _ _ _ h => h) (by rfl) hS (fun hS => ?_)
        try go_frame
        refine held_skip (i := 16) (oi := ⟨some 31, _, _, _, _, _⟩) rfl (by kernel_rfl) (by kernel_rfl) (by kernel_rfl) (fun _ _ _ h => h) (by rfl) hS (fun hS => ?_)
        try go_frame
        refine held_skip (i := 17) (oi := ⟨some 32, _, _, _, _, _⟩) rfl (by kernel_rfl) (by kernel_rfl) (by kernel_rfl) (fun _ _ _ h => h) (by rfl) hS (fun hS => ?_)
        try go_frame
        refine held_skip (i := 18) (oi := ⟨some 33, _, _, _, _, _⟩) rfl (by kernel_rfl) (by kernel_rfl) (by kernel_rfl) (fun _ _ _ h => h) (by rfl) hS (fun hS => ?_)
        try go_frame
        refine held_skip (i := 19) (oi := ⟨some 34, _, _, _, _, _⟩) rfl (by kernel_rfl) (by kernel_rfl) (by kernel_rfl) (fun _ _ _ h => h) (by rfl) hS (fun hS => ?_)
        try go_frame
        refine held_skip (i := 20) (oi := ⟨some 35, _, _, _, _, _⟩) rfl (by kernel_rfl) (by kernel_rfl) (by kernel_rfl) (fun _ _ _ h => h) (by rfl) hS (fun hS => ?_)
        try go_frame
        refine held_skip (i := 21) (oi := ⟨some 36, _, _, _, _, _⟩) rfl (by kernel_rfl) (by kernel_rfl) (by kernel_rfl) (fun _ _ _ h => h) (by rfl) hS (fun hS => ?_)
        try go_frame
        refine held_skip (i := 22) (oi := ⟨some 37, _, _, _, _, _⟩) rfl (by kernel_rfl) (by kernel_rfl) (by kernel_rfl) (fun _ _ _ h => h) (by rfl) hS (fun hS => ?_)
        try go_frame
        refine held_skip (i := 23) (oi := ⟨some 38, _, _, _, _, _⟩) rfl (by kernel_rfl) (by kernel_rfl) (by kernel_rfl) (fun _ _ _ h => h) (by rfl) hS (fun hS => ?_)
        try go_frame
        refine held_skip (i := 24) (oi := ⟨some 39, _, _, _, _, _⟩) rfl (by kernel_rfl) (by kernel_rfl) (by kernel_rfl) (fun _ _ _ h => h) (by rfl) hS (fun hS => ?_)
        try go_frame
        refine held_skip (i := 25) (oi := ⟨some 40, _, _, _, _, _⟩) rfl (by kernel_rfl) (by kernel_rfl) (by kernel_rfl) (fun _ _ _ h => h) (by rfl) hS (fun hS => ?_)
        try go_frame
        refine held_skip (i := 26) (oi := ⟨some 41, _, _, _, _, _⟩) rfl (by kernel_rfl) (by kernel_rfl) (by kernel_rfl) (fun _ _ _ h => h) (by rfl) hS (fun hS => ?_)
        try go_frame
        refine held_skip (i := 27) (oi := ⟨some 42, _, _, _, _, _⟩) rfl (by kernel_rfl) (by kernel_rfl) (by kernel_rfl) (fun _ _ _ h => h) (by rfl) hS (fun hS => ?_)
        try go_frame
        refine held_skip (i := 28) (oi := ⟨some 43, _, _, _, _, _⟩) rfl (by kernel_rfl) (by kernel_rfl) (by kernel_rfl) (fun _ _ _ h => h) (by rfl) hS (fun hS => ?_)
        try go_frame
        refine held_skip (i := 29) (oi := ⟨some 44, _, _, _, _, _⟩) rfl (by kernel_rfl) (by kernel_rfl) (by kernel_rfl) (fun _ _ _ h => h) (by rfl) hS (fun hS => ?_)
        try go_frame
        refine held_skip (i := 30) (oi := ⟨some 45, _, _, _, _, _⟩) rfl (by kernel_rfl) (by kernel_rfl) (by kernel_rfl) (fun _ _ _ h => h) (by rfl) hS (fun hS => ?_)
        try go_frame
        refine held_pure (i := 31) (oi := ⟨some 46, _, _, _, _, _⟩) rfl (by kernel_rfl) (by kernel_rfl) (by kernel_rfl) (fun _ _ _ h => h) (by rfl) (v := .bool false) (fun w hSw => by go_simp) hS (fun hS => ?_)
        try go_frame
        refine wpAnyH_done (by kernel_rfl) ?_ _
        go_wp2_with fail
        go_roundw
        case rel => exact ⟨k + 1, by omega, by simp, Lib.hid (by rw [HE.out, HXD.out, cover_cons, hcv]; rfl), hbel.trans (hS.mono hzr)⟩
        case measure => simp [intOf]; omega
    · obtain rfl : n = k := by omega
      go_wp2
      go_ret
      exact ⟨by rw [HE.out, List.drop_eq_nil_of_le (by rw [HL.out, piE, List.length_map, ← HN.out]; exact Nat.le_refl _)]; rfl, hbel⟩
end Go.Proofs.Ytkncgjjflkbnfaa

/-
  Contracts of the document's same, shares and Room of layer 15. Conditions are each theorem's own.
-/
namespace Go.Proofs.Ytkncgjjflkbnfaa
open Go.RowKit Go.Shelf

theorem clP_one (x : XP) : (clP x).toArray.all (·.oneCell') = true := by simp [clP, Value.oneCell']
theorem run_load_pc {o : Oper} {a : Act} {w : World} {x : Operand} {g i : Nat} {cs : List Value} (ho : o.op = .load 83 x) (hx : a.eval x = .pointer (some ⟨g, i, none⟩)) (hr : w.rangeAt g i cs) (hl : cs.length = 3) :
    (execOp a.eval o).run Try.prog w = .ok (.value (.agg cs.toArray)) w := by
  have h := run_loadVar_mid (P := Try.prog) w g i 83 cs _ hr Try.underlying83 rfl (by rw [hl]; kernel_rfl)
  unfold execOp
  simp only [ho, hx, Instr.loadAt, Instr.sureAddr, Sem.run_bind, Sem.run_pure, Result.andThen_ok, h]
theorem pc_store {ops : Array Oper} {rest : List Oper} {x y : Operand} {ty : TypeId} {pos : String} {af : Array Edge} {a : Act} {w : World} {Q : Exit → Act → World → Prop}
    {g : Nat} {t : TypeId} {cs old : Array Value} (hx : a.eval x = .pointer (some ⟨g, 0, none⟩)) (hy : a.eval y = .agg cs) (hg : w.heap[g]? = some (.cells old t (0, 0))) (ho : old.size = 3) (hl : cs.size = 3) (h1 : cs.all (·.oneCell') = true)
    (h : wpList Try.prog ops Q rest (a.put none undef) (w.setRow g cs)) : wpList Try.prog ops Q (⟨none, .store 83 x y, ty, pos, af, none⟩ :: rest) a w :=
  wpList_plain rfl fun _ hK => wp_store_row 83 x y rfl g cs hx hy t old hg (by rw [hl]; kernel_rfl) (by rw [ho, hl]) h1 (hK _ _ h)
theorem pc_store_new {ops : Array Oper} {rest : List Oper} {x y : Operand} {ty : TypeId} {pos : String} {af : Array Edge} {a : Act} {w : World} {Q : Exit → Act → World → Prop}
    {t : TypeId} {cs old : Array Value} (hx : a.eval x = .pointer (some ⟨w.heap.size, 0, none⟩)) (hy : a.eval y = .agg cs) (ho : old.size = 3) (hl : cs.size = 3) (h1 : cs.all (·.oneCell') = true)
    (h : wpList Try.prog ops Q rest (a.put none undef) (w.alloc (.cells cs t))) : wpList Try.prog ops Q (⟨none, .store 83 x y, ty, pos, af, none⟩ :: rest) a (w.alloc (.cells old t)) :=
  pc_store hx hy (World.alloc_heap_new w _) ho hl h1 (by rw [World.setRow_alloc_new]; exact h)
theorem same_cons (x : Pc) (l : List Pc) (a : Int) (m : Bool) (b : List UInt8) : sameP (x :: l) ⟨a, m, b⟩ = (((x.off == a) && (x.more == m) && decide (x.b = b)) || sameP l ⟨a, m, b⟩) := by
  obtain ⟨x1, x2, x3⟩ := x
  rw [sameP, sameP, List.any_cons]
  congr 1
  rw [Bool.eq_iff_iff]
  simp [and_assoc]
theorem sharing_iff {x p : Pc} : sharing x p = true ↔ (0 < x.len ∧ 0 < p.len ∧ x.off < p.stop ∧ p.off < x.stop) ∨ (x.off = p.off ∧ x.len = 0 ∧ p.len = 0) := by
  simp only [sharing, Bool.or_eq_true, Bool.and_eq_true, decide_eq_true_eq, beq_iff_eq, and_assoc]
theorem shares_cons (x : Pc) (l : List Pc) (p : Pc) : sharesP (x :: l) p = (sharing x p || sharesP l p) := by simp [sharesP]
set_option maxRecDepth 100000 in
set_option maxHeartbeats 1000000 in
theorem r15same (A : Option Addr) (c : Nat) (l : List XP) (B g o : Nat) (a : Int) (m : Bool) (A' : Option Addr) (b : List UInt8) (c' : Nat) (w : World) (h : Ho w B g o A c l) (hB : B ≤ w.heap.size) (hA' : Rd w w.heap.size A' b) :
    Calls Try.prog 43 #[.pointer (some ⟨g, o, none⟩), .int .i64 a, .bool m, .slice A' b.length c'] w fun e w' => e = .returned (.bool (sameP (piE l) ⟨a, m, b⟩)) ∧ Below w.heap.size w w' := by
  obtain ⟨n, hn⟩ : ∃ n, n = l.length := ⟨_, rfl⟩
  have HN := Lib.hid hn
  obtain ⟨L, hL⟩ : ∃ L, L = piE l := ⟨_, rfl⟩
  have HL := Lib.hid hL
  have HO := Lib.hid h
  have k0 := h.cell
  have hgz : g < w.heap.size := cell_block k0
  have hn1 : n ≤ 100000 := by rw [hn]; exact h.n
  have hn2 : n ≤ c := by rw [hn]; exact h.cap
  rw [← hn] at k0
  rw [← hL]
  clear hn hL h
  go_enter Try.func43, Try.ntmps43
  go_wp2
  go_loopw [9] (fun i wr => ∃ (k : Nat), k ≤ n ∧ i = .int .i64 (k : Int) ∧ Hid (sameP L ⟨a, m, b⟩ = sameP (L.drop k) ⟨a, m, b⟩) ∧ Below w.heap.size w wr)
    (fun i _ => n - (intOf i).toNat)
  case atStart => exact ⟨0, Nat.zero_le _, rfl, Lib.hid rfl, Below.refl _ _⟩
  case round =>
    obtain ⟨k, hk, rfl, HE, hbel⟩ := hrel
    have kc := (hbel.cell (p := ⟨g, o, none⟩) hgz).trans k0
    by_cases hlt : k < n
    · skip
      obtain ⟨x, hx⟩ : ∃ x, l[k]? = some x := ⟨_, List.getElem?_eq_getElem (by rw [← HN.out]; exact hlt)⟩
      have hxm := List.mem_of_getElem? hx
      obtain ⟨ok1, ok2⟩ := HO.out.ok x hxm
      have ok3 : x.p.stop = x.p.off + (x.p.b.length : Int) := rfl
      obtain ⟨b1, o1, e1, hb1', hr1⟩ := HO.out.rd (by rw [← HN.out]; omega)
      obtain rfl := e1
      have hr := range_below (hr1 k x hx) hb1' (hbel.mono hB)
      have kx0 : wr.cell? ⟨b1, o1 + k * 3, none⟩ = some (.int .i64 x.p.off) := by simpa using hr 0 _ rfl
      have kx1 : wr.cell? ⟨b1, o1 + k * 3 + 1, none⟩ = some (.bool x.p.more) := hr 1 _ rfl
      have kx2 : wr.cell? ⟨b1, o1 + k * 3 + 2, none⟩ = some (.slice x.A x.p.b.length x.c) := hr 2 _ rfl
      have HXD : Hid (L.drop k = x.p :: L.drop (k + 1)) := Lib.hid (by
        have hl : k < L.length := by rw [HL.out, piE, List.length_map, ← HN.out]; exact hlt
        rw [List.drop_eq_getElem_cons hl]
        congr 1
        have h1 : L[k]? = some x.p := by rw [HL.out, piE, List.getElem?_map, hx]; rfl
        rw [List.getElem?_eq_getElem hl] at h1
        exact Option.some.inj h1)
      have hzr := hbel.size
      have hb1 : b1 < wr.heap.size := by omega
      have hgr : g < wr.heap.size := by omega
      clear hr1 hx
      have hX : Below wr.heap.size wr (wr.alloc (.cells (clP x).toArray 83)) := (Below.refl _ wr).alloc (Nat.le_refl _) _
      have hat := World.alloc_heap_new wr (.cells (clP x).toArray 83)
      go_upto_region 5 with (first
        | ((with_reducible show wpList _ _ _ (Oper.mk _ (Op.load 83 _) _ _ _ _ :: _) _ _); refine wpList_val (v := .agg (clP x).toArray) rfl (run_load_pc rfl rfl hr rfl) ?_)
        | ((with_reducible show wpList _ _ _ (Oper.mk _ (Op.store 83 _ _) _ _ _ _ :: _) _ _); refine pc_store_new (cs := (clP x).toArray) rfl rfl rfl rfl (clP_one x) ?_))
      obtain ⟨bx, hbx⟩ : ∃ b, b = wr.heap.size := ⟨_, rfl⟩
      rw [← hbx] at hat ⊢
      have hBX := hbel.trans (hX.mono hzr)
      clear hr hbx
      generalize wr.alloc (.cells (clP x).toArray 83) = X at *
      have j0 : X.cell? ⟨bx, 0, none⟩ = some (.int .i64 x.p.off) := by rw [cell_of_row _ _ _ _ _ _ hat]; rfl
      have j1 : X.cell? ⟨bx, 1, none⟩ = some (.bool x.p.more) := by rw [cell_of_row _ _ _ _ _ _ hat]; rfl
      have j2 : X.cell? ⟨bx, 2, none⟩ = some (.slice x.A x.p.b.length x.c) := by rw [cell_of_row _ _ _ _ _ _ hat]; rfl
      clear hX hat kx0 kx1 kx2 kc
      have c1 := conv_any x.A x.p.b x.c w.heap.size X (((HO.out.arg x hxm).below (hBX.mono hB)).more hB).rd
      have c2 := conv_any A' b c' w.heap.size X (hA'.below hBX)
      cases e1 : (x.p.off == a) with
      | false =>
        have hcv : ((x.p.off == a) && (x.p.more == m) && decide (x.p.b = b)) = false := by rw [e1]; rfl
        go_wp2
        go_roundw
        case rel => exact ⟨k + 1, by omega, by simp, Lib.hid (by rw [HE.out, HXD.out, same_cons, hcv]; rfl), hBX⟩
        case measure => simp [intOf]; omega
      | true =>
        cases e2 : (x.p.more == m) with
        | false =>
          have hcv : ((x.p.off == a) && (x.p.more == m) && decide (x.p.b = b)) = false := by rw [e1, e2]; rfl
          go_wp2
          go_roundw
          case rel => exact ⟨k + 1, by omega, by simp, Lib.hid (by rw [HE.out, HXD.out, same_cons, hcv]; rfl), hBX⟩
          case measure => simp [intOf]; omega
        | true =>
          cases e3 : decide (x.p.b = b) with
          | false =>
            have hcv : ((x.p.off == a) && (x.p.more == m) && decide (x.p.b = b)) = false := by rw [e1, e2, e3]; rfl
            have e4 : ((strB x.p.b).toList == (strB b).toList) = false := by rw [strB_eq]; exact e3
            go_wp2
            go_roundw
            case rel => exact ⟨k + 1, by omega, by simp, Lib.hid (by rw [HE.out, HXD.out, same_cons, hcv]; rfl), hBX⟩
            case measure => simp [intOf]; omega
          | true =>
            have e4 : ((strB x.p.b).toList == (strB b).toList) = true := by rw [strB_eq]; exact e3
            have hcv : ((x.p.off == a) && (x.p.more == m) && decide (x.p.b = b)) = true := by rw [e1, e2, e3]; rfl
            go_wp2
            go_ret
            exact ⟨by rw [HE.out, HXD.out, same_cons, hcv]; rfl, hBX⟩
    · obtain rfl : n = k := by omega
      go_wp2
      go_ret
      exact ⟨by rw [HE.out, List.drop_eq_nil_of_le (by rw [HL.out, piE, List.length_map, ← HN.out]; exact Nat.le_refl _)]; rfl, hbel⟩
set_option maxRecDepth 100000 in
set_option maxHeartbeats 1000000 in
theorem r15shares (A : Option Addr) (c : Nat) (l : List XP) (B g o : Nat) (a : Int) (m0 : Bool) (A' : Option Addr) (b : List UInt8) (c' : Nat) (w : World) (h : Ho w B g o A c l) (hB : B ≤ w.heap.size) (ha0 : 0 ≤ a) (ha1 : a + (b.length : Int) ≤ 65535) :
    Calls Try.prog 49 #[.pointer (some ⟨g, o, none⟩), .int .i64 a, .slice A' b.length c'] w fun e w' => e = .returned (.bool (sharesP (piE l) ⟨a, m0, b⟩)) ∧ Below w.heap.size w w' := by
  obtain ⟨n, hn⟩ : ∃ n, n = l.length := ⟨_, rfl⟩
  have HN := Lib.hid hn
  obtain ⟨L, hL⟩ : ∃ L, L = piE l := ⟨_, rfl⟩
  have HL := Lib.hid hL
  have HO := Lib.hid h
  have k0 := h.cell
  have hgz : g < w.heap.size := cell_block k0
  have hn1 : n ≤ 100000 := by rw [hn]; exact h.n
  have hn2 : n ≤ c := by rw [hn]; exact h.cap
  rw [← hn] at k0
  rw [← hL]
  clear hn hL h
  go_enter Try.func49, Try.ntmps49
  go_wp2
  go_loopw [7] (fun i wr => ∃ (k : Nat), k ≤ n ∧ i = .int .i64 (k : Int) ∧ Hid (sharesP L ⟨a, m0, b⟩ = sharesP (L.drop k) ⟨a, m0, b⟩) ∧ Below w.heap.size w wr)
    (fun i _ => n - (intOf i).toNat)
  case atStart => exact ⟨0, Nat.zero_le _, rfl, Lib.hid rfl, Below.refl _ _⟩
  case round =>
    obtain ⟨k, hk, rfl, HE, hbel⟩ := hrel
    have kc := (hbel.cell (p := ⟨g, o, none⟩) hgz).trans k0
    by_cases hlt : k < n
    · skip
      obtain ⟨x, hx⟩ : ∃ x, l[k]? = some x := ⟨_, List.getElem?_eq_getElem (by rw [← HN.out]; exact hlt)⟩
      have hxm := List.mem_of_getElem? hx
      obtain ⟨ok1, ok2⟩ := HO.out.ok x hxm
      have ok3 : x.p.stop = x.p.off + (x.p.b.length : Int) := rfl
      obtain ⟨b1, o1, e1, hb1', hr1⟩ := HO.out.rd (by rw [← HN.out]; omega)
      obtain rfl := e1
      have hr := range_below (hr1 k x hx) hb1' (hbel.mono hB)
      have kx0 : wr.cell? ⟨b1, o1 + k * 3, none⟩ = some (.int .i64 x.p.off) := by simpa using hr 0 _ rfl
      have kx1 : wr.cell? ⟨b1, o1 + k * 3 + 1, none⟩ = some (.bool x.p.more) := hr 1 _ rfl
      have kx2 : wr.cell? ⟨b1, o1 + k * 3 + 2, none⟩ = some (.slice x.A x.p.b.length x.c) := hr 2 _ rfl
      have HXD : Hid (L.drop k = x.p :: L.drop (k + 1)) := Lib.hid (by
        have hl : k < L.length := by rw [HL.out, piE, List.length_map, ← HN.out]; exact hlt
        rw [List.drop_eq_getElem_cons hl]
        congr 1
        have h1 : L[k]? = some x.p := by rw [HL.out, piE, List.getElem?_map, hx]; rfl
        rw [List.getElem?_eq_getElem hl] at h1
        exact Option.some.inj h1)
      have hzr := hbel.size
      have hb1 : b1 < wr.heap.size := by omega
      have hgr : g < wr.heap.size := by omega
      clear hr1 hx
      have hX : Below wr.heap.size wr (wr.alloc (.cells (clP x).toArray 83)) := (Below.refl _ wr).alloc (Nat.le_refl _) _
      have hat := World.alloc_heap_new wr (.cells (clP x).toArray 83)
      go_upto_region 5 with (first
        | ((with_reducible show wpList _ _ _ (Oper.mk _ (Op.load 83 _) _ _ _ _ :: _) _ _); refine wpList_val (v := .agg (clP x).toArray) rfl (run_load_pc rfl rfl hr rfl) ?_)
        | ((with_reducible show wpList _ _ _ (Oper.mk _ (Op.store 83 _ _) _ _ _ _ :: _) _ _); refine pc_store_new (cs := (clP x).toArray) rfl rfl rfl rfl (clP_one x) ?_))
      obtain ⟨bx, hbx⟩ : ∃ b, b = wr.heap.size := ⟨_, rfl⟩
      rw [← hbx] at hat ⊢
      have hBX := hbel.trans (hX.mono hzr)
      clear hr hbx
      generalize wr.alloc (.cells (clP x).toArray 83) = X at *
      have j0 : X.cell? ⟨bx, 0, none⟩ = some (.int .i64 x.p.off) := by rw [cell_of_row _ _ _ _ _ _ hat]; rfl
      have j1 : X.cell? ⟨bx, 1, none⟩ = some (.bool x.p.more) := by rw [cell_of_row _ _ _ _ _ _ hat]; rfl
      have j2 : X.cell? ⟨bx, 2, none⟩ = some (.slice x.A x.p.b.length x.c) := by rw [cell_of_row _ _ _ _ _ _ hat]; rfl
      clear hX hat kx0 kx1 kx2 kc
      have e8 : wrap64 (a + (b.length : Int)) = a + (b.length : Int) := by unfold wrap64; omega
      have e9 : wrap64 (x.p.off + (x.p.b.length : Int)) = x.p.off + (x.p.b.length : Int) := by unfold wrap64; omega
      clear j1 ok3
      by_cases h1 : 0 < x.p.b.length
      · skip
        have p1 : decide (0 < (x.p.b.length : Int)) = true := decide_eq_true (by omega)
        have p1' : decide (0 < x.p.b.length) = true := decide_eq_true (by omega)
        by_cases h2 : 0 < b.length
        · skip
          have p2 : decide (0 < (b.length : Int)) = true := decide_eq_true (by omega)
          have p2' : decide (0 < b.length) = true := decide_eq_true (by omega)
          by_cases h3 : x.p.off < a + (b.length : Int)
          · skip
            have p3 : decide (x.p.off < a + (b.length : Int)) = true := decide_eq_true (by omega)
            by_cases h4 : a < x.p.off + (x.p.b.length : Int)
            · skip
              have p4 : decide (a < x.p.off + (x.p.b.length : Int)) = true := decide_eq_true (by omega)
              have hcv : sharing x.p ⟨a, m0, b⟩ = true := sharing_iff.2 (by simp only [Pc.stop, Pc.len]; omega)
              clear h1 h2 h3 h4
              go_wp2
              go_ret
              exact ⟨by rw [HE.out, HXD.out, shares_cons, hcv]; rfl, hBX⟩
            · skip
              have p4 : decide (a < x.p.off + (x.p.b.length : Int)) = false := decide_eq_false (by omega)
              by_cases h5 : x.p.off = a
              · skip
                have hcv : sharing x.p ⟨a, m0, b⟩ = false := Bool.eq_false_iff.2 (fun h => by have h := sharing_iff.1 h; simp only [Pc.stop, Pc.len] at h; omega)
                have p5 : (x.p.off == a) = true := beq_iff_eq.2 h5
                have p6 : ((x.p.b.length : Int) == 0) = false := beq_eq_false_iff_ne.2 (by omega)
                have p6' : (x.p.b.length == 0) = false := beq_eq_false_iff_ne.2 (by omega)
                clear h1 h2 h3 h4 h5
                go_wp2
                go_roundw
                case rel => exact ⟨k + 1, by omega, by simp, Lib.hid (by rw [HE.out, HXD.out, shares_cons, hcv]; rfl), hBX⟩
                case measure => simp [intOf]; omega
              · skip
                have hcv : sharing x.p ⟨a, m0, b⟩ = false := Bool.eq_false_iff.2 (fun h => by have h := sharing_iff.1 h; simp only [Pc.stop, Pc.len] at h; omega)
                have p5 : (x.p.off == a) = false := beq_eq_false_iff_ne.2 h5
                clear h1 h2 h3 h4 h5
                go_wp2
                go_roundw
                case rel => exact ⟨k + 1, by omega, by simp, Lib.hid (by rw [HE.out, HXD.out, shares_cons, hcv]; rfl), hBX⟩
                case measure => simp [intOf]; omega
          · skip
            have p3 : decide (x.p.off < a + (b.length : Int)) = false := decide_eq_false (by omega)
            by_cases h5 : x.p.off = a
            · skip
              have hcv : sharing x.p ⟨a, m0, b⟩ = false := Bool.eq_false_iff.2 (fun h => by have h := sharing_iff.1 h; simp only [Pc.stop, Pc.len] at h; omega)
              have p5 : (x.p.off == a) = true := beq_iff_eq.2 h5
              have p6 : ((x.p.b.length : Int) == 0) = false := beq_eq_false_iff_ne.2 (by omega)
              have p6' : (x.p.b.length == 0) = false := beq_eq_false_iff_ne.2 (by omega)
              clear h1 h2 h3 h5
              go_wp2
              go_roundw
              case rel => exact ⟨k + 1, by omega, by simp, Lib.hid (by rw [HE.out, HXD.out, shares_cons, hcv]; rfl), hBX⟩
              case measure => simp [intOf]; omega
            · skip
              have hcv : sharing x.p ⟨a, m0, b⟩ = false := Bool.eq_false_iff.2 (fun h => by have h := sharing_iff.1 h; simp only [Pc.stop, Pc.len] at h; omega)
              have p5 : (x.p.off == a) = false := beq_eq_false_iff_ne.2 h5
              clear h1 h2 h3 h5
              go_wp2
              go_roundw
              case rel => exact ⟨k + 1, by omega, by simp, Lib.hid (by rw [HE.out, HXD.out, shares_cons, hcv]; rfl), hBX⟩
              case measure => simp [intOf]; omega
        · skip
          have p2 : decide (0 < (b.length : Int)) = false := decide_eq_false (by omega)
          have p2' : decide (0 < b.length) = false := decide_eq_false (by omega)
          by_cases h5 : x.p.off = a
          · skip
            have hcv : sharing x.p ⟨a, m0, b⟩ = false := Bool.eq_false_iff.2 (fun h => by have h := sharing_iff.1 h; simp only [Pc.stop, Pc.len] at h; omega)
            have p5 : (x.p.off == a) = true := beq_iff_eq.2 h5
            have p6 : ((x.p.b.length : Int) == 0) = false := beq_eq_false_iff_ne.2 (by omega)
            have p6' : (x.p.b.length == 0) = false := beq_eq_false_iff_ne.2 (by omega)
            clear h1 h2 h5
            go_wp2
            go_roundw
            case rel => exact ⟨k + 1, by omega, by simp, Lib.hid (by rw [HE.out, HXD.out, shares_cons, hcv]; rfl), hBX⟩
            case measure => simp [intOf]; omega
          · skip
            have hcv : sharing x.p ⟨a, m0, b⟩ = false := Bool.eq_false_iff.2 (fun h => by have h := sharing_iff.1 h; simp only [Pc.stop, Pc.len] at h; omega)
            have p5 : (x.p.off == a) = false := beq_eq_false_iff_ne.2 h5
            clear h1 h2 h5
            go_wp2
            go_roundw
            case rel => exact ⟨k + 1, by omega, by simp, Lib.hid (by rw [HE.out, HXD.out, shares_cons, hcv]; rfl), hBX⟩
            case measure => simp [intOf]; omega
      · skip
        have p1 : decide (0 < (x.p.b.length : Int)) = false := decide_eq_false (by omega)
        have p1' : decide (0 < x.p.b.length) = false := decide_eq_false (by omega)
        have p6 : ((x.p.b.length : Int) == 0) = true := beq_iff_eq.2 (by omega)
        have p6' : (x.p.b.length == 0) = true := beq_iff_eq.2 (by omega)
        by_cases h5 : x.p.off = a
        · skip
          have p5 : (x.p.off == a) = true := beq_iff_eq.2 h5
          by_cases h7 : b.length = 0
          · skip
            have hcv : sharing x.p ⟨a, m0, b⟩ = true := sharing_iff.2 (by simp only [Pc.stop, Pc.len]; omega)
            have p7 : ((b.length : Int) == 0) = true := beq_iff_eq.2 (by omega)
            have p7' : (b.length == 0) = true := beq_iff_eq.2 (by omega)
            clear h1 h5 h7
            go_wp2
            go_ret
            exact ⟨by rw [HE.out, HXD.out, shares_cons, hcv]; rfl, hBX⟩
          · skip
            have hcv : sharing x.p ⟨a, m0, b⟩ = false := Bool.eq_false_iff.2 (fun h => by have h := sharing_iff.1 h; simp only [Pc.stop, Pc.len] at h; omega)
            have p7 : ((b.length : Int) == 0) = false := beq_eq_false_iff_ne.2 (by omega)
            have p7' : (b.length == 0) = false := beq_eq_false_iff_ne.2 (by omega)
            clear h1 h5 h7
            go_wp2
            go_roundw
            case rel => exact ⟨k + 1, by omega, by simp, Lib.hid (by rw [HE.out, HXD.out, shares_cons, hcv]; rfl), hBX⟩
            case measure => simp [intOf]; omega
        · skip
          have hcv : sharing x.p ⟨a, m0, b⟩ = false := Bool.eq_false_iff.2 (fun h => by have h := sharing_iff.1 h; simp only [Pc.stop, Pc.len] at h; omega)
          have p5 : (x.p.off == a) = false := beq_eq_false_iff_ne.2 h5
          clear h1 h5
          go_wp2
          go_roundw
          case rel => exact ⟨k + 1, by omega, by simp, Lib.hid (by rw [HE.out, HXD.out, shares_cons, hcv]; rfl), hBX⟩
          case measure => simp [intOf]; omega
    · obtain rfl : n = k := by omega
      go_wp2
      go_ret
      exact ⟨by rw [HE.out, List.drop_eq_nil_of_le (by rw [HL.out, piE, List.length_map, ← HN.out]; exact Nat.le_refl _)]; rfl, hbel⟩
end Go.Proofs.Ytkncgjjflkbnfaa

/-
  Contracts of what the code of layer 15 asks of single parts. Conditions are each theorem's own.
-/
namespace Go.Proofs.Ytkncgjjflkbnfaa
open Go.RowKit Go.Shelf

theorem cells_at {w : World} {g i : Nat} {cs : Array Value} {ty : TypeId} {fr : Nat × Nat} {v : Value} (h : w.heap[g]? = some (.cells cs ty fr)) (hi : cs[i]? = some v) : w.cell? ⟨g, i, none⟩ = some v := by
  simp [World.cell?, h, hi]
set_option maxRecDepth 100000 in
theorem hcend (x : XP) (w : World) (h0 : 0 ≤ x.p.off) (h1 : x.p.stop ≤ 1000000) :
    Calls Try.prog 47 #[.agg (clP x).toArray] w fun e w' => e = .returned (.int .i64 x.p.stop) ∧ Below w.heap.size w w' := by
  have h2 : x.p.stop = x.p.off + (x.p.b.length : Int) := rfl
  rw [h2] at h1 ⊢
  have hB := Below.alloc (Below.refl w.heap.size w) (Nat.le_refl _) (.cells (clP x).toArray 76)
  unfold clP at hB ⊢
  go_enter Try.func47, Try.ntmps47
  go_wp2
  go_ret
  exact ⟨rfl, hB⟩
set_option maxRecDepth 100000 in
theorem hccheck (a n : Int) (m : Bool) (w : World) (h0 : 0 ≤ n) (h1 : n ≤ 1000000) (ha : -9223372036854775808 ≤ a ∧ a ≤ 9223372036854775807) :
    Calls Try.prog 44 #[.int .i64 a, .bool m, .int .i64 n] w fun e w' =>
      e = .returned (.int .i64 (if a < 0 ∨ (m = true ∧ (n = 0 ∨ n % 8 ≠ 0)) then 4 else if a > 65535 - n then 6 else 0)) ∧ w' = w := by
  generalize hR : (if a < 0 ∨ (m = true ∧ (n = 0 ∨ n % 8 ≠ 0)) then (4 : Int) else if a > 65535 - n then 6 else 0) = R
  have HR := Lib.hid hR
  clear hR
  go_enter Try.func44, Try.ntmps44
  by_cases c1 : a < 0
  · have d1 : decide (a < 0) = true := decide_eq_true c1
    cases m <;> (go_wp2; go_ret; exact ⟨by rw [← HR.out, if_pos (.inl c1)]; rfl, rfl⟩)
  · have d1 : decide (a < 0) = false := decide_eq_false c1
    cases m with
    | false =>
      by_cases c4 : a > 65535 - n
      · have d4 : decide (a > 65535 - n) = true := decide_eq_true c4
        have d4' : decide (65535 - n < a) = true := d4
        go_wp2
        go_ret
        exact ⟨by rw [← HR.out, if_neg (by rintro (h | ⟨h, _⟩); (first | exact c1 h | omega); cases h), if_pos c4]; rfl, rfl⟩
      · have d4 : decide (a > 65535 - n) = false := decide_eq_false c4
        have d4' : decide (65535 - n < a) = false := d4
        go_wp2
        go_ret
        exact ⟨by rw [← HR.out, if_neg (by rintro (h | ⟨h, _⟩); (first | exact c1 h | omega); cases h), if_neg (by omega)]; rfl, rfl⟩
    | true =>
      by_cases c2 : n = 0
      · have d2 : decide (n = 0) = true := decide_eq_true c2
        clear h0 h1
        subst c2
        go_wp2
        go_ret
        exact ⟨by rw [← HR.out, if_pos (.inr ⟨by trivial, .inl (by trivial)⟩)]; rfl, rfl⟩
      · have d2 : decide (n = 0) = false := decide_eq_false c2
        by_cases c3 : n % 8 = 0
        · have d3 : decide (n % 8 = 0) = true := decide_eq_true c3
          by_cases c4 : a > 65535 - n
          · have d4 : decide (a > 65535 - n) = true := decide_eq_true c4
            have d4' : decide (65535 - n < a) = true := d4
            go_wp2
            go_ret
            exact ⟨by rw [← HR.out, if_neg (by rintro (h | ⟨_, h | h⟩); (first | exact c1 h | omega); (first | exact c2 h | omega); exact h c3), if_pos c4]; rfl, rfl⟩
          · have d4 : decide (a > 65535 - n) = false := decide_eq_false c4
            have d4' : decide (65535 - n < a) = false := d4
            go_wp2
            go_ret
            exact ⟨by rw [← HR.out, if_neg (by rintro (h | ⟨_, h | h⟩); (first | exact c1 h | omega); (first | exact c2 h | omega); exact h c3), if_neg (by omega)]; rfl, rfl⟩
        · have d3 : decide (n % 8 = 0) = false := decide_eq_false c3
          go_wp2
          go_ret
          exact ⟨by rw [← HR.out, if_pos (.inr ⟨by trivial, .inr c3⟩)]; rfl, rfl⟩
set_option maxRecDepth 100000 in
theorem hcalike (p x : XP) (B B' : Nat) (w : World) (hp : Rd w B p.A p.p.b) (hx : Rd w B' x.A x.p.b) (hB : B ≤ w.heap.size) (hB' : B' ≤ w.heap.size) :
    Calls Try.prog 42 #[.agg (clP p).toArray, .agg (clP x).toArray] w fun e w' => e = .returned (.bool (alikeP p.p x.p)) ∧ Below w.heap.size w w' := by
  have hb0 := Below.alloc (Below.refl w.heap.size w) (Nat.le_refl _) (.cells (clP p).toArray 76)
  have hb := Below.alloc hb0 (by simp) (.cells (clP x).toArray 76)
  have hP := Lib.hid (hp.below (hb.mono hB))
  have hX := Lib.hid (hx.below (hb.mono hB'))
  clear hp hx
  rcases p with ⟨⟨a, m, b⟩, A, c⟩
  rcases x with ⟨⟨a', m', b'⟩, A', c'⟩
  by_cases c1 : a = a'
  · subst c1
    have hR : alikeP (Pc.mk a m b) (Pc.mk a m' b') = decide (b = b') := by simp [alikeP]
    rw [hR]
    clear hR
    simp only [clP] at hP hX hb0 hb ⊢
    go_enter Try.func42, Try.ntmps42
    go_wp2_with (go_at_call 22; refine (equal_any _ _ _ _ _ _ _ _ _ hP.out hX.out).mono ?_; rintro e w2 ⟨rfl, rfl⟩)
    go_ret
    exact ⟨rfl, hb⟩
  · have hR : alikeP (Pc.mk a m b) (Pc.mk a' m' b') = false := by simp [alikeP, c1]
    rw [hR]
    clear hR
    simp only [clP] at hP hX hb0 hb ⊢
    go_enter Try.func42, Try.ntmps42
    go_wp2
    go_ret
    exact ⟨rfl, hb⟩
theorem run_load_hp {o : Oper} {a : Act} {w : World} {x : Operand} {g i : Nat} {cs : List Value} (ho : o.op = .load 76 x) (hx : a.eval x = .pointer (some ⟨g, i, none⟩)) (hr : w.rangeAt g i cs) (hl : cs.length = 3) :
    (execOp a.eval o).run Try.prog w = .ok (.value (.agg cs.toArray)) w := by
  have h := run_loadVar_mid (P := Try.prog) w g i 76 cs _ hr Try.underlying76 rfl (by rw [hl]; kernel_rfl)
  unfold execOp
  simp only [ho, hx, Instr.loadAt, Instr.sureAddr, Sem.run_bind, Sem.run_pure, Result.andThen_ok, h]
set_option maxRecDepth 100000 in
theorem hcsame (p x : XP) (B B' : Nat) (w : World) (hp : Rd w B p.A p.p.b) (hx : Rd w B' x.A x.p.b) (hB : B ≤ w.heap.size) (hB' : B' ≤ w.heap.size) :
    Calls Try.prog 45 #[.agg (clP p).toArray, .agg (clP x).toArray] w fun e w' => e = .returned (.bool (decide (x.p = p.p))) ∧ Below w.heap.size w w' := by
  have hb0 := Below.alloc (Below.refl w.heap.size w) (Nat.le_refl _) (.cells (clP p).toArray 76)
  have hb := Below.alloc hb0 (by simp) (.cells (clP x).toArray 76)
  have hP := Lib.hid (hp.below (hb.mono hB))
  have hX := Lib.hid (hx.below (hb.mono hB'))
  have hz := hb.size
  clear hp hx
  rcases p with ⟨⟨a, m, b⟩, A, c⟩
  rcases x with ⟨⟨a', m', b'⟩, A', c'⟩
  by_cases c1 : m = m'
  · subst c1
    have hR : decide (Pc.mk a' m b' = Pc.mk a m b) = alikeP (Pc.mk a m b) (Pc.mk a' m b') := by
      rw [alikeP, Bool.eq_iff_iff]
      simp only [Bool.and_eq_true, decide_eq_true_eq, Pc.mk.injEq, beq_iff_eq]
      exact ⟨fun ⟨h1, _, h3⟩ => ⟨h1.symm, h3.symm⟩, fun ⟨h1, h3⟩ => ⟨h1.symm, by trivial, h3.symm⟩⟩
    rw [hR]
    clear hR
    have hcall := hcalike ⟨⟨a, m, b⟩, A, c⟩ ⟨⟨a', m, b'⟩, A', c'⟩ _ _ _ hP.out hX.out (by omega) (by omega)
    simp only [clP] at hcall hb0 hb ⊢
    go_enter Try.func45, Try.ntmps45
    go_wp2_with (go_at_call 42; refine hcall.mono ?_; rintro e w2 ⟨rfl, x2⟩)
    go_ret
    exact ⟨rfl, hb.trans (x2.mono hz)⟩
  · have hR : decide (Pc.mk a' m' b' = Pc.mk a m b) = false := by
      simp only [decide_eq_false_iff_not, Pc.mk.injEq]
      rintro ⟨_, h, _⟩
      exact c1 h.symm
    rw [hR]
    clear hR
    simp only [clP] at hP hX hb0 hb ⊢
    go_enter Try.func45, Try.ntmps45
    go_wp2
    go_ret
    exact ⟨rfl, hb⟩
end Go.Proofs.Ytkncgjjflkbnfaa
