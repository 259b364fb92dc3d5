/-
  Contracts and lemmas on which the proofs of this seat stand (several texts in one). Conditions are each theorem's own.
-/
import Derived.Test.YthdaclbgandmcaaHa6
import Derived.Test.YthdaclbgandmcaaHa2
import Derived.Laws.MakeOwn
import Derived.Test.YthdaclbgandmcaaHa5

/-
  Parts that the code keeps, as they lie in memory; contracts of isMade, place and near of layer 15. Conditions are each theorem's own.
-/
namespace Go.Proofs.Ythdaclbgandmcaa
open Go.RowKit Go.Shelf
/-- At block g lies what the code of layer 15 keeps. -/
structure Hv (w : World) (g : Nat) (A : Option Addr) (c : Nat) (L : List XP) : Prop where
  made : w.cell? ⟨g, 0, none⟩ = some (.bool true)
  parts : w.cell? ⟨g, 1, none⟩ = some (.slice A L.length c)
  bytes : w.cell? ⟨g, 2, none⟩ = some (.int .i64 (bytesP (piE L)))
  far : w.cell? ⟨g, 3, none⟩ = some (.int .i64 (farP (piE L)))
  ended : w.cell? ⟨g, 4, none⟩ = some (.bool (endedP (piE L)))
  rd : RdS clP 3 w w.heap.size A L
  arg : ∀ x ∈ L, Arg w w.heap.size x.A x.c x.p.b
  cap : L.length ≤ c
  none_ : A = none → c = 0
  ris : Ris (piE L)
  n : L.length ≤ 100000
theorem Hv.lt {w : World} {g : Nat} {A : Option Addr} {c : Nat} {L : List XP} (h : Hv w g A c L) : g < w.heap.size := cell_block h.made
theorem Hv.below {w w' : World} {g : Nat} {A : Option Addr} {c : Nat} {L : List XP} (h : Hv w g A c L) (hb : Below w.heap.size w w') : Hv w' g A c L :=
  ⟨(hb.cell (p := ⟨g, 0, none⟩) h.lt).trans h.made, (hb.cell (p := ⟨g, 1, none⟩) h.lt).trans h.parts, (hb.cell (p := ⟨g, 2, none⟩) h.lt).trans h.bytes, (hb.cell (p := ⟨g, 3, none⟩) h.lt).trans h.far,
   (hb.cell (p := ⟨g, 4, none⟩) h.lt).trans h.ended, (h.rd.below hb).more hb.size, fun x hx => ((h.arg x hx).below hb).more hb.size, h.cap, h.none_, h.ris, h.n⟩
theorem run_load_hptr {o : Oper} {a : Act} {w : World} {x : Operand} {p : Addr} {A : Option Addr} (ho : o.op = .load 91 x) (hx : a.eval x = .pointer (some p)) (hc : w.cell? p = some (.pointer A)) :
    (execOp a.eval o).run Try.prog w = .ok (.value (.pointer A)) w := by
  unfold execOp
  simp only [ho, hx, Instr.loadAt, Instr.sureAddr, Sem.run_bind, Sem.run_pure, Result.andThen_ok]
  go_simp
theorem run_load_hps {o : Oper} {a : Act} {w : World} {x : Operand} {p : Addr} {A : Option Addr} {n c : Nat} (ho : o.op = .load 156 x) (hx : a.eval x = .pointer (some p)) (hc : w.cell? p = some (.slice A n c)) :
    (execOp a.eval o).run Try.prog w = .ok (.value (.slice A n c)) w := by
  unfold execOp
  simp only [ho, hx, Instr.loadAt, Instr.sureAddr, Sem.run_bind, Sem.run_pure, Result.andThen_ok]
  go_simp
/-- Where a slice of a slice of parts begins. -/
def cutQ (A : Option Addr) (c lo : Nat) : Option Addr := if c = lo then A else A.map (·.add (lo * 3))
theorem slice_hparts : Try.prog.underlying 156 = some (.slice (Try.prog.elem 156)) := by kernel_rfl
theorem sizeOf_hpart (w : World) : (Go.sizeOf (Try.prog.elem 156)).run Try.prog w = .ok 3 w := by
  rw [show Try.prog.elem 156 = 158 by kernel_rfl]
  go_simp
theorem run_pcut_lh {o : Oper} {a : Act} {w : World} {x lo hi : Operand} {A : Option Addr} {n c m : Nat} {l h : Int} (ho : o.op = .slice 156 x (some lo) (some hi) none) (hx : a.eval x = .slice A n c) (hl : a.eval lo = .int .i64 l) (hh : a.eval hi = .int .i64 h)
    (h0 : 0 ≤ l) (h1 : l ≤ h) (h2 : h ≤ (c : Int)) (hm : m = h.toNat - l.toNat) :
    (execOp a.eval o).run Try.prog w = .ok (.value (.slice (cutQ A c l.toNat) m (c - l.toNat))) w := by
  subst hm
  have h1 := run_slice_lh (P := Try.prog) (w := w) 156 A n c slice_hparts .i64 .i64 l h h0 h1 h2
  unfold execOp
  simp only [ho, hx, hl, hh, Option.map, Sem.run_bind, run_sliceAt_slice _ _ _ _ _ _ slice_hparts, h1, sizeOf_hpart, Result.andThen_ok]
  rfl
theorem run_pcut_l {o : Oper} {a : Act} {w : World} {x lo : Operand} {A : Option Addr} {n c l m : Nat} (ho : o.op = .slice 156 x (some lo) none none) (hx : a.eval x = .slice A n c) (hl : a.eval lo = .int .i64 (l : Int)) (hn : l ≤ n) (hm : m = n - l) :
    (execOp a.eval o).run Try.prog w = .ok (.value (.slice (cutQ A c l) m (c - l))) w := by
  subst hm
  have h1 := run_slice_l (P := Try.prog) (w := w) 156 A n c slice_hparts .i64 (l : Int) (by omega) (by omega)
  unfold execOp
  simp only [ho, hx, hl, Option.map, Sem.run_bind, run_sliceAt_slice _ _ _ _ _ _ slice_hparts, h1, sizeOf_hpart, Result.andThen_ok]
  rfl
theorem run_pcut_h {o : Oper} {a : Act} {w : World} {x hi : Operand} {A : Option Addr} {n c m : Nat} {h : Int} (ho : o.op = .slice 156 x none (some hi) none) (hx : a.eval x = .slice A n c) (hh : a.eval hi = .int .i64 h)
    (h0 : 0 ≤ h) (h2 : h ≤ (c : Int)) (hm : m = h.toNat) :
    (execOp a.eval o).run Try.prog w = .ok (.value (.slice A m c)) w := by
  subst hm
  have h1 := run_slice_h (P := Try.prog) (w := w) 156 A n c slice_hparts .i64 h h0 h2
  unfold execOp
  simp only [ho, hx, hh, Option.map, Sem.run_bind, run_sliceAt_slice _ _ _ _ _ _ slice_hparts, h1, sizeOf_hpart, Result.andThen_ok]
  cases A <;> simp [sliced, Addr.add]
theorem RdS.cutQ {w : World} {B : Nat} {A : Option Addr} {c : Nat} {l : List XP} (h : RdS clP 3 w B A l) (hc : l.length ≤ c) (lo k : Nat) : RdS clP 3 w B (cutQ A c lo) ((l.drop lo).take k) := by
  intro hn
  have hlo : lo < l.length := by simp at hn; omega
  obtain ⟨b, o, rfl, hb, hr⟩ := h (by omega)
  refine ⟨b, o + lo * 3, by simp [Go.Proofs.Ythdaclbgandmcaa.cutQ, show ¬ c = lo by omega, add_off], hb, fun j x hx => ?_⟩
  rw [List.getElem?_take] at hx
  split at hx
  · rw [List.getElem?_drop] at hx
    have := hr (lo + j) x hx
    rwa [Nat.add_mul, ← Nat.add_assoc] at this
  · cases hx
theorem hcmade_nil (w : World) : Calls Try.prog 87 #[.pointer none] w fun e w' => e = .returned (.bool false) ∧ w' = w := by
  go_enter Try.func87, Try.ntmps87
  go_wp2
  go_ret
  exact ⟨rfl, rfl⟩
theorem hcmade (g : Nat) (w : World) (h : w.cell? ⟨g, 0, none⟩ = some (.bool true)) : Calls Try.prog 87 #[.pointer (some ⟨g, 0, none⟩)] w fun e w' => e = .returned (.bool true) ∧ w' = w := by
  go_enter Try.func87, Try.ntmps87
  go_wp2
  go_ret
  exact ⟨rfl, rfl⟩
set_option maxRecDepth 100000 in
theorem hcclo (i u v g B : Nat) (off : Int) (A : Option Addr) (n c : Nat) (L : List XP) (x : XP) (W : World) (ku : W.cell? ⟨u, 0, none⟩ = some (.pointer (some ⟨g, 0, none⟩))) (kv : W.cell? ⟨v, 0, none⟩ = some (.int .i64 off))
    (kg : W.cell? ⟨g, 1, none⟩ = some (.slice A n c)) (hr : RdS clP 3 W B A L) (hB : B ≤ W.heap.size) (hx : L[i]? = some x) (hi : i < n) :
    Calls Try.prog 145 #[.int .i64 i, .pointer (some ⟨u, 0, none⟩), .pointer (some ⟨v, 0, none⟩)] W fun e w' => e = .returned (.bool (decide (x.p.off ≥ off))) ∧ Below W.heap.size W w' := by
  have hu := cell_block ku
  have hv := cell_block kv
  have hg := cell_block kg
  obtain ⟨b1, o1, rfl, hb, hrow⟩ := row_of hr hx
  have hb1 : b1 < W.heap.size := Nat.lt_of_lt_of_le hb hB
  have kx0 : W.cell? ⟨b1, o1 + i * 3, none⟩ = some (.int .i64 x.p.off) := by simpa using hrow 0 _ rfl
  clear hr hx hrow hb hB
  go_enter Try.func145, Try.ntmps145
  go_upto_region 1 with fail
  refine wp_region_held_drew (S := fun w' => Below W.heap.size W w') (by kernel_rfl) (Below.refl _ W).drew (fun hS => ?_)
  refine held_pure (i := 0) (oi := ⟨some 5, _, _, _, _, _⟩) rfl (by kernel_rfl) (by kernel_rfl) (by kernel_rfl) (fun _ _ _ h => h) (by rfl) (fun w hSw => run_load_hptr rfl rfl ((hSw.cell (p := ⟨u, 0, none⟩) hu).trans ku)) hS (fun hS => ?_)
  try go_frame
  refine held_pure (i := 1) (oi := ⟨some 6, _, _, _, _, _⟩) rfl (by kernel_rfl) (by kernel_rfl) (by kernel_rfl) (fun _ _ _ h => h) (by rfl) (v := ?_) (fun w hSw => ?_) hS (fun hS => ?_)
  rotate_left
  · go_simp; try with_reducible rfl
  try go_frame
  refine held_pure (i := 2) (oi := ⟨some 7, _, _, _, _, _⟩) rfl (by kernel_rfl) (by kernel_rfl) (by kernel_rfl) (fun _ _ _ h => h) (by rfl) (v := ?_) (fun w hSw => ?_) hS (fun hS => ?_)
  rotate_left
  · go_simp; try with_reducible rfl
  try go_frame
  refine held_pure (i := 3) (oi := ⟨some 8, _, _, _, _, _⟩) rfl (by kernel_rfl) (by kernel_rfl) (by kernel_rfl) (fun _ _ _ h => h) (by rfl) (fun w hSw => run_load_hps rfl rfl ((hSw.cell (p := ⟨g, 1, none⟩) hg).trans kg)) hS (fun hS => ?_)
  try go_frame
  refine held_pure (i := 4) (oi := ⟨some 9, _, _, _, _, _⟩) rfl (by kernel_rfl) (by kernel_rfl) (by kernel_rfl) (fun _ _ _ h => h) (by rfl) (v := ?_) (fun w hSw => ?_) hS (fun hS => ?_)
  rotate_left
  · go_simp; try with_reducible rfl
  try go_frame
  refine held_pure (i := 5) (oi := ⟨some 10, _, _, _, _, _⟩) rfl (by kernel_rfl) (by kernel_rfl) (by kernel_rfl) (fun _ _ _ h => h) (by rfl) (v := Value.pointer (some ⟨b1, o1 + i * 3, none⟩)) (fun w hSw => by go_simp; try (exact fun h => absurd h (by omega))) hS (fun hS => ?_)
  try go_frame
  refine held_pure (i := 6) (oi := ⟨some 11, _, _, _, _, _⟩) rfl (by kernel_rfl) (by kernel_rfl) (by kernel_rfl) (fun _ _ _ h => h) (by rfl) (v := Value.pointer (some ⟨b1, o1 + i * 3, none⟩)) (fun w hSw => by go_simp) hS (fun hS => ?_)
  try go_frame
  refine held_pure (i := 7) (oi := ⟨some 12, _, _, _, _, _⟩) rfl (by kernel_rfl) (by kernel_rfl) (by kernel_rfl) (fun _ _ _ h => h) (by rfl) (fun w hSw => run_load_int rfl rfl ((hSw.cell (p := ⟨b1, o1 + i * 3, none⟩) hb1).trans kx0)) hS (fun hS => ?_)
  try go_frame
  refine held_pure (i := 8) (oi := ⟨some 13, _, _, _, _, _⟩) rfl (by kernel_rfl) (by kernel_rfl) (by kernel_rfl) (fun _ _ _ h => h) (by rfl) (fun w hSw => run_load_int rfl rfl ((hSw.cell (p := ⟨v, 0, none⟩) hv).trans kv)) hS (fun hS => ?_)
  try go_frame
  refine held_pure (i := 9) (oi := ⟨some 14, _, _, _, _, _⟩) rfl (by kernel_rfl) (by kernel_rfl) (by kernel_rfl) (fun _ _ _ h => h) (by rfl) (v := .bool (decide (x.p.off ≥ off))) (fun w hSw => by go_simp) hS (fun hS => ?_)
  try go_frame
  refine held_pure (i := 10) (oi := ⟨some 4, _, _, _, _, _⟩) rfl (by kernel_rfl) (by kernel_rfl) (by kernel_rfl) (fun _ _ _ h => h) (by rfl) (v := ?_) (fun w hSw => ?_) hS (fun hS => ?_)
  rotate_left
  · go_simp; try with_reducible rfl
  try go_frame
  refine wpAnyH_done (by kernel_rfl) ?_ _
  go_wp2_with fail
  go_ret
  exact ⟨rfl, hS⟩
theorem at_unique {L : List XP} (h : Ris (piE L)) (off : Int) {m : Nat} (hm : m ≤ L.length) (h1 : ∀ (t : Nat) (x : XP), t < m → L[t]? = some x → ¬ x.p.off ≥ off) (h2 : ∀ (t : Nat) (x : XP), m ≤ t → L[t]? = some x → x.p.off ≥ off) : m = atP (piE L) off := by
  have hl : (piE L).length = L.length := by simp [piE]
  have ha := atP_le (piE L) off
  have get : ∀ (t : Nat) (x : XP), L[t]? = some x → (piE L)[t]? = some x.p := fun t x hx => by rw [piE, List.getElem?_map, hx]; rfl
  rcases Nat.lt_trichotomy m (atP (piE L) off) with g | g | g
  · obtain ⟨x, hx⟩ : ∃ x, L[m]? = some x := ⟨_, List.getElem?_eq_getElem (by omega)⟩
    have := h2 m x (Nat.le_refl _) hx
    have := (at_lt h off (get m x hx)).1 g
    omega
  · exact g
  · obtain ⟨x, hx⟩ : ∃ x, L[atP (piE L) off]? = some x := ⟨_, List.getElem?_eq_getElem (by omega)⟩
    have := h1 _ x g hx
    have := (at_lt h off (get _ x hx)).2 (Nat.le_refl _)
    omega
set_option maxRecDepth 100000 in
theorem hcplace (g : Nat) (off : Int) (A : Option Addr) (c : Nat) (L : List XP) (w : World) (h : Hv w g A c L) :
    Calls Try.prog 123 #[.pointer (some ⟨g, 0, none⟩), .int .i64 off] w fun e w' => e = .returned (.int .i64 (atP (piE L) off : Nat)) ∧ Below w.heap.size w w' := by
  obtain ⟨W, hW⟩ : ∃ W, W = (w.alloc (.cells #[.pointer (some ⟨g, 0, none⟩)] 91)).alloc (.cells #[.int .i64 off] 3) := ⟨_, rfl⟩
  have hb : Below w.heap.size w W := by rw [hW]; exact ((Below.refl w.heap.size w).alloc (Nat.le_refl _) _).alloc (by simp) _
  have hH := h.below hb
  have ku : W.cell? ⟨w.heap.size, 0, none⟩ = some (.pointer (some ⟨g, 0, none⟩)) := by
    have e : Boxed W w.heap.size 91 (.pointer (some ⟨g, 0, none⟩)) := by
      rw [hW]
      exact (Below.heap_alloc _ _ w.heap.size (by simp)).trans (World.alloc_heap_new w _)
    exact e.cell
  have kv : W.cell? ⟨w.heap.size + 1, 0, none⟩ = some (.int .i64 off) := by
    have e : Boxed W (w.heap.size + 1) 3 (.int .i64 off) := by
      rw [hW]
      have := World.alloc_heap_new (w.alloc (.cells #[.pointer (some ⟨g, 0, none⟩)] 91)) (.cells #[.int .i64 off] 3)
      rwa [show (w.alloc (.cells #[.pointer (some ⟨g, 0, none⟩)] 91)).heap.size = w.heap.size + 1 by simp] at this
    exact e.cell
  have kg := hH.parts
  have kl : g < w.heap.size := h.lt
  have eg : ∀ args w, (callFunc 145 args).run Try.prog w = .ok (.enter 145 args) w := enters_of Try.func145 (by kernel_rfl) rfl
  have hsr := hcsearch 145 #[.pointer (some ⟨w.heap.size, 0, none⟩), .pointer (some ⟨w.heap.size + 1, 0, none⟩)] L.length (fun t => decide ((L[t]?.map fun x => x.p.off).getD 0 ≥ off)) W eg hH.n
    (fun V i hi hV => by
      obtain ⟨x, hx⟩ : ∃ x, L[i]? = some x := ⟨_, List.getElem?_eq_getElem hi⟩
      have := hcclo i w.heap.size (w.heap.size + 1) g W.heap.size off A L.length c L x V ((hV.cell (p := ⟨w.heap.size, 0, none⟩) (cell_block ku)).trans ku) ((hV.cell (p := ⟨w.heap.size + 1, 0, none⟩) (cell_block kv)).trans kv)
        ((hV.cell (p := ⟨g, 1, none⟩) hH.lt).trans kg) (hH.rd.below hV) hV.size hx hi
      rw [hx]
      exact this.mono fun e w' ⟨h1, h2⟩ => ⟨h1, hV.trans (h2.mono hV.size)⟩)
    (fun a b hab hb2 hpa => by
      obtain ⟨x, hx⟩ : ∃ x, L[a]? = some x := ⟨_, List.getElem?_eq_getElem (by omega)⟩
      obtain ⟨y, hy⟩ : ∃ y, L[b]? = some y := ⟨_, List.getElem?_eq_getElem (by omega)⟩
      rw [hx] at hpa
      rw [hy]
      simp only [Option.map_some, Option.getD_some, decide_eq_true_eq] at hpa ⊢
      rcases Nat.lt_or_ge a b with g1 | g1
      · have := (idx_rel hH.ris g1 (show (piE L)[a]? = some x.p by rw [piE, List.getElem?_map, hx]; rfl) (show (piE L)[b]? = some y.p by rw [piE, List.getElem?_map, hy]; rfl)).2.1
        omega
      · obtain rfl : a = b := by omega
        rw [hx] at hy
        rw [← Option.some.inj hy]; exact hpa)
  have HS := Lib.hid hsr
  have HH := Lib.hid hH
  clear hsr hH h
  generalize hN : atP (piE L) off = N
  have HN := Lib.hid hN
  clear hN
  obtain ⟨n, hn⟩ : ∃ n, n = L.length := ⟨_, rfl⟩
  rw [← hn] at kg HS
  have HNn := Lib.hid hn
  clear hn
  go_enter Try.func123, Try.ntmps123
  go_upto_region 1 with fail
  rw [← hW]
  clear hW
  go_wp2_with (go_at_call 144; refine HS.out.mono ?_; rintro e w' ⟨⟨m, rfl, m1, m2, m3⟩, hb'⟩; have M2 := Lib.hid m2; have M3 := Lib.hid m3; clear m2 m3)
  go_ret
  refine ⟨?_, hb.trans (hb'.mono hb.size)⟩
  rw [← HN.out, ← at_unique HH.out.ris off (m := m) (by rw [← HNn.out]; exact m1) (fun t x ht hx => by have := M2.out t ht; rw [hx] at this; simpa using this) (fun t x ht hx => by
    have := M3.out t ht (by rw [HNn.out]; exact (List.getElem?_eq_some_iff.1 hx).1)
    rw [hx] at this; simpa using this)]
  rfl
/-- The parts on both sides of a place, with where they lie. -/
def nearX (L : List XP) (off : Int) : List XP := (L.drop (atP (piE L) off - 1)).take (min (atP (piE L) off + 1) L.length - (atP (piE L) off - 1))
theorem nearX_p (L : List XP) (off : Int) : piE (nearX L off) = nearP (piE L) off := by
  simp only [nearX, nearP, piE, List.map_take, List.map_drop, List.length_map]
theorem nearX_sub {L : List XP} {off : Int} : ∀ x ∈ nearX L off, x ∈ L := fun _ hx => List.mem_of_mem_drop (List.mem_of_mem_take hx)
theorem nearX_len (L : List XP) (off : Int) : (nearX L off).length = min (atP (piE L) off + 1) L.length - (atP (piE L) off - 1) := by
  have := atP_le (piE L) off
  have hl : (piE L).length = L.length := by simp [piE]
  rw [nearX, List.length_take, List.length_drop]; omega
set_option maxRecDepth 100000 in
theorem hcnear (g : Nat) (off : Int) (A : Option Addr) (c : Nat) (L : List XP) (w : World) (h : Hv w g A c L) :
    Calls Try.prog 89 #[.pointer (some ⟨g, 0, none⟩), .int .i64 off] w fun e w' => (∃ A' c', e = .returned (.slice A' (nearX L off).length c') ∧ RdS clP 3 w' w.heap.size A' (nearX L off)) ∧ Below w.heap.size w w' := by
  have hp := Lib.hid (hcplace g off A c L w h)
  obtain ⟨n, hn⟩ : ∃ n, n = L.length := ⟨_, rfl⟩
  have hn1 : n ≤ 100000 := by rw [hn]; exact h.n
  have hn2 : n ≤ c := by rw [hn]; exact h.cap
  have HNn := Lib.hid hn
  have hlen := nearX_len L off
  have hle := atP_le (piE L) off
  have hl : (piE L).length = L.length := by simp [piE]
  rw [hl] at hle
  have hrd : RdS clP 3 w w.heap.size (cutQ A c (atP (piE L) off - 1)) (nearX L off) := h.rd.cutQ h.cap _ _
  obtain ⟨m, hm⟩ : ∃ m, m = atP (piE L) off := ⟨_, rfl⟩
  have HM := Lib.hid hm
  rw [← hm] at hp hlen hle hrd
  rw [← hn] at hlen hle
  have HH := Lib.hid h
  have HR := Lib.hid hrd
  have HLn := Lib.hid hlen
  have HW1 : Hid (IntKind.i64.wrap ((m : Int) - 1) = (m : Int) - 1) := Lib.hid (IntWalk.i64_in _ (by omega))
  have HW2 : Hid (IntKind.i64.wrap ((m : Int) + 1) = (m : Int) + 1) := Lib.hid (IntWalk.i64_in _ (by omega))
  clear hn h hlen hrd hm hl
  go_enter Try.func89, Try.ntmps89
  go_upto_region 2 with (go_at_call 123; refine hp.out.mono ?_; rintro e W ⟨rfl, hb⟩)
  have hg : g < W.heap.size := Nat.lt_of_lt_of_le HH.out.lt hb.size
  have kg : W.cell? ⟨g, 1, none⟩ = some (.slice A n c) := by rw [HNn.out]; exact (hb.cell (p := ⟨g, 1, none⟩) HH.out.lt).trans HH.out.parts
  refine wp_region_held_drew (S := fun w' => Below W.heap.size W w') (by kernel_rfl) (Below.refl _ W).drew (fun hS => ?_)
  refine held_pure (i := 0) (oi := ⟨some 9, _, _, _, _, _⟩) rfl (by kernel_rfl) (by kernel_rfl) (by kernel_rfl) (fun _ _ _ h => h) (by rfl) (v := ?_) (fun w hSw => ?_) hS (fun hS => ?_)
  rotate_left
  · go_simp; try with_reducible rfl
  try go_frame
  refine held_pure (i := 1) (oi := ⟨some 10, _, _, _, _, _⟩) rfl (by kernel_rfl) (by kernel_rfl) (by kernel_rfl) (fun _ _ _ h => h) (by rfl) (v := ?_) (fun w hSw => ?_) hS (fun hS => ?_)
  rotate_left
  · go_simp; try with_reducible rfl
  try go_frame
  refine held_pure (i := 2) (oi := ⟨some 11, _, _, _, _, _⟩) rfl (by kernel_rfl) (by kernel_rfl) (by kernel_rfl) (fun _ _ _ h => h) (by rfl) (v := ?_) (fun w hSw => ?_) hS (fun hS => ?_)
  rotate_left
  · go_simp; try with_reducible rfl
  try go_frame
  refine held_pure (i := 3) (oi := ⟨some 12, _, _, _, _, _⟩) rfl (by kernel_rfl) (by kernel_rfl) (by kernel_rfl) (fun _ _ _ h => h) (by rfl) (fun w hSw => run_load_hps rfl rfl ((hSw.cell (p := ⟨g, 1, none⟩) hg).trans kg)) hS (fun hS => ?_)
  try go_frame
  refine held_pure (i := 4) (oi := ⟨some 13, _, _, _, _, _⟩) rfl (by kernel_rfl) (by kernel_rfl) (by kernel_rfl) (fun _ _ _ h => h) (by rfl) (v := ?_) (fun w hSw => ?_) hS (fun hS => ?_)
  rotate_left
  · go_simp; try with_reducible rfl
  try go_frame
  refine held_pure (i := 5) (oi := ⟨some 14, _, _, _, _, _⟩) rfl (by kernel_rfl) (by kernel_rfl) (by kernel_rfl) (fun _ _ _ h => h) (by rfl) (v := .int .i64 ((m : Int) - 1)) (fun w hSw => by go_simp; try exact HW1.out) hS (fun hS => ?_)
  try go_frame
  refine held_pure (i := 6) (oi := ⟨some 15, _, _, _, _, _⟩) rfl (by kernel_rfl) (by kernel_rfl) (by kernel_rfl) (fun _ _ _ h => h) (by rfl) (v := .int .i64 (max ((m : Int) - 1) 0)) (fun w hSw => by go_simp) hS (fun hS => ?_)
  try go_frame
  refine held_pure (i := 7) (oi := ⟨some 16, _, _, _, _, _⟩) rfl (by kernel_rfl) (by kernel_rfl) (by kernel_rfl) (fun _ _ _ h => h) (by rfl) (v := ?_) (fun w hSw => ?_) hS (fun hS => ?_)
  rotate_left
  · go_simp; try with_reducible rfl
  try go_frame
  refine held_pure (i := 8) (oi := ⟨some 17, _, _, _, _, _⟩) rfl (by kernel_rfl) (by kernel_rfl) (by kernel_rfl) (fun _ _ _ h => h) (by rfl) (v := .int .i64 ((m : Int) + 1)) (fun w hSw => by go_simp; try exact HW2.out) hS (fun hS => ?_)
  try go_frame
  refine held_pure (i := 9) (oi := ⟨some 18, _, _, _, _, _⟩) rfl (by kernel_rfl) (by kernel_rfl) (by kernel_rfl) (fun _ _ _ h => h) (by rfl) (v := ?_) (fun w hSw => ?_) hS (fun hS => ?_)
  rotate_left
  · go_simp; try with_reducible rfl
  try go_frame
  refine held_pure (i := 10) (oi := ⟨some 19, _, _, _, _, _⟩) rfl (by kernel_rfl) (by kernel_rfl) (by kernel_rfl) (fun _ _ _ h => h) (by rfl) (v := ?_) (fun w hSw => ?_) hS (fun hS => ?_)
  rotate_left
  · go_simp; try with_reducible rfl
  try go_frame
  refine held_pure (i := 11) (oi := ⟨some 20, _, _, _, _, _⟩) rfl (by kernel_rfl) (by kernel_rfl) (by kernel_rfl) (fun _ _ _ h => h) (by rfl) (v := ?_) (fun w hSw => ?_) hS (fun hS => ?_)
  rotate_left
  · go_simp; try with_reducible rfl
  try go_frame
  refine held_pure (i := 12) (oi := ⟨some 21, _, _, _, _, _⟩) rfl (by kernel_rfl) (by kernel_rfl) (by kernel_rfl) (fun _ _ _ h => h) (by rfl) (fun w hSw => run_load_hps rfl rfl ((hSw.cell (p := ⟨g, 1, none⟩) hg).trans kg)) hS (fun hS => ?_)
  try go_frame
  refine held_pure (i := 13) (oi := ⟨some 22, _, _, _, _, _⟩) rfl (by kernel_rfl) (by kernel_rfl) (by kernel_rfl) (fun _ _ _ h => h) (by rfl) (v := ?_) (fun w hSw => ?_) hS (fun hS => ?_)
  rotate_left
  · go_simp; try with_reducible rfl
  try go_frame
  refine held_pure (i := 14) (oi := ⟨some 23, _, _, _, _, _⟩) rfl (by kernel_rfl) (by kernel_rfl) (by kernel_rfl) (fun _ _ _ h => h) (by rfl) (v := .int .i64 (min ((m : Int) + 1) (n : Int))) (fun w hSw => by go_simp; try exact min_if _ _) hS (fun hS => ?_)
  try go_frame
  refine held_pure (i := 15) (oi := ⟨some 24, _, _, _, _, _⟩) rfl (by kernel_rfl) (by kernel_rfl) (by kernel_rfl) (fun _ _ _ h => h) (by rfl) (fun w hSw => run_pcut_lh rfl rfl rfl rfl (by omega) (by omega) (by omega) rfl) hS (fun hS => ?_)
  try go_frame
  refine held_pure (i := 16) (oi := ⟨some 4, _, _, _, _, _⟩) rfl (by kernel_rfl) (by kernel_rfl) (by kernel_rfl) (fun _ _ _ h => h) (by rfl) (v := ?_) (fun w hSw => ?_) hS (fun hS => ?_)
  rotate_left
  · go_simp; try with_reducible rfl
  try go_frame
  refine wpAnyH_done (by kernel_rfl) ?_ _
  go_wp2_with fail
  go_ret
  have hbS := hb.trans (hS.mono hb.size)
  have E1 : (max ((m : Int) - 1) 0).toNat = m - 1 := by omega
  have E2 : (min ((m : Int) + 1) (n : Int)).toNat - (m - 1) = (nearX L off).length := by rw [HLn.out]; omega
  refine ⟨⟨cutQ A c (m - 1), c - (m - 1), ?_, HR.out.below hbS⟩, hbS⟩
  show Ending.returned (Value.slice (cutQ A c (max ((m : Int) - 1) 0).toNat) ((min ((m : Int) + 1) (n : Int)).toNat - (max ((m : Int) - 1) 0).toNat) (c - (max ((m : Int) - 1) 0).toNat)) = _
  rw [E1, E2]
end Go.Proofs.Ythdaclbgandmcaa

/-
  What layer 18's code keeps: a table, its array of places; New, places and the iterator over them. Conditions are each theorem's own.
-/
namespace Go.Proofs.Ythdaclbgandmcaa
open Go.RowKit Go.Shelf
attribute [local go_sem] Oper.semAt_some

theorem run_load_hstp {o : Oper} {a : Act} {w : World} {x : Operand} {p : Addr} {A : Option Addr} (ho : o.op = .load 61 x) (hx : a.eval x = .pointer (some p)) (hc : w.cell? p = some (.pointer A)) :
    (execOp a.eval o).run Try.prog w = .ok (.value (.pointer A)) w := by
  unfold execOp
  simp only [ho, hx, Instr.loadAt, Instr.sureAddr, Sem.run_bind, Sem.run_pure, Result.andThen_ok]
  go_simp
theorem run_load_hsar {o : Oper} {a : Act} {w : World} {x : Operand} {p : Addr} {A : Option Addr} {n c : Nat} (ho : o.op = .load 79 x) (hx : a.eval x = .pointer (some p)) (hc : w.cell? p = some (.slice A n c)) :
    (execOp a.eval o).run Try.prog w = .ok (.value (.slice A n c)) w := by
  unfold execOp
  simp only [ho, hx, Instr.loadAt, Instr.sureAddr, Sem.run_bind, Sem.run_pure, Result.andThen_ok]
  go_simp
theorem run_load_u64 {o : Oper} {a : Act} {w : World} {x : Operand} {p : Addr} {n : Int} (ho : o.op = .load 139 x) (hx : a.eval x = .pointer (some p)) (hc : w.cell? p = some (.int .u64 n)) :
    (execOp a.eval o).run Try.prog w = .ok (.value (.int .u64 n)) w := by
  unfold execOp
  simp only [ho, hx, Instr.loadAt, Instr.sureAddr, Sem.run_bind, Sem.run_pure, Result.andThen_ok]
  go_simp
theorem run_load_hsp {o : Oper} {a : Act} {w : World} {x : Operand} {g i : Nat} {cs : List Value} (ho : o.op = .load 143 x) (hx : a.eval x = .pointer (some ⟨g, i, none⟩)) (hr : w.rangeAt g i cs) (hl : cs.length = 4) :
    (execOp a.eval o).run Try.prog w = .ok (.value (.agg cs.toArray)) w := by
  have h := run_loadVar_mid (P := Try.prog) w g i 143 cs _ hr Try.underlying143 rfl (by rw [hl]; kernel_rfl)
  unfold execOp
  simp only [ho, hx, Instr.loadAt, Instr.sureAddr, Sem.run_bind, Sem.run_pure, Result.andThen_ok, h]

/-- A place's cells. -/
def clE : Option Ent → List Value
  | none => [.bool false, .int .u64 0, .string ByteArray.empty, .int .i64 0]
  | some e => [.bool true, .int .u64 (mkOf e.key), .string (strB e.key), .int .i64 e.n]
theorem clE_len (o : Option Ent) : (clE o).length = 4 := by cases o <;> rfl
theorem clE_one (o : Option Ent) : (clE o).toArray.all (·.oneCell') = true := by cases o <;> simp [clE, Value.oneCell']
/-- An array of places at b. -/
structure ArrH (w : World) (b : Nat) (L : List (Option Ent)) : Prop where
  obj : ∃ cur, w.heap[b]? = some (.cells cur 143 (0, 0)) ∧ cur.size = L.length * 4
  row : ∀ i o, L[i]? = some o → w.rangeAt b (i * 4) (clE o)
/-- A table at t, its array at b. -/
structure Hs (w : World) (t b : Nat) (cnt most : Int) (L : List (Option Ent)) : Prop where
  tab : w.heap[t]? = some (.cells #[.slice (some ⟨b, 0, none⟩) L.length L.length, .int .i64 cnt, .int .i64 most] 81 (0, 0))
  arr : ArrH w b L
theorem ArrH.new (w : World) (L : List (Option Ent)) : ArrH (w.alloc (.cells (L.flatMap clE).toArray 143)) w.heap.size L := by
  have h := World.alloc_heap_new w (.cells (L.flatMap clE).toArray 143)
  refine ⟨⟨_, h, by rw [List.size_toArray, flat_len L (fun x _ => clE_len x)]⟩, fun i o hi j v hv => ?_⟩
  rw [cell_of_row _ _ (i * 4 + j) _ _ _ h, List.getElem?_toArray]
  exact flat_at L (fun x _ => clE_len x) i o hi j v hv
theorem ArrH.keep {w w' : World} {b : Nat} {L : List (Option Ent)} (h : ArrH w b L) (hb : w'.heap[b]? = w.heap[b]?) : ArrH w' b L := by
  obtain ⟨cur, h1, h2⟩ := h.obj
  exact ⟨⟨cur, hb.trans h1, h2⟩, fun i o hi j v hv => (World.cell?_of_block hb).trans (h.row i o hi j v hv)⟩
theorem ArrH.lt {w : World} {b : Nat} {L : List (Option Ent)} (h : ArrH w b L) : b < w.heap.size := by
  obtain ⟨cur, h1, _⟩ := h.obj
  exact heap_lt h1
theorem heap_setCells {T : TypeId} (b : Nat) : ∀ (vs : List Value) (o : Nat) (w : World) (cur : Array Value), w.heap[b]? = some (.cells cur T (0, 0)) → ∃ cur', (w.setCells b o vs).heap[b]? = some (.cells cur' T (0, 0)) ∧ cur'.size = cur.size
  | [], _, _, cur, h => ⟨cur, h, rfl⟩
  | v :: vs, o, w, cur, h => by
    obtain ⟨cur', h1, h2⟩ := heap_setCells b vs (o + 1) (w.setCell ⟨b, o, none⟩ v) _ (heap_setCell_same w b o cur T v h)
    exact ⟨cur', h1, by rw [h2, Array.size_setIfInBounds]⟩
theorem ArrH.there {w : World} {b : Nat} {L : List (Option Ent)} (h : ArrH w b L) {i : Nat} (hi : i < L.length) : w.there b (i * 4) 4 := fun j hj => by
  obtain ⟨cur, h1, h2⟩ := h.obj
  refine ⟨?_, heap_frozen h1 _⟩
  rw [cell_of_row _ _ _ _ _ _ h1, Array.getElem?_eq_getElem (by rw [h2]; omega)]; rfl
theorem ArrH.set {w : World} {b : Nat} {L : List (Option Ent)} (h : ArrH w b L) {i : Nat} (hi : i < L.length) (o : Option Ent) : ArrH (w.setCells b (i * 4) (clE o)) b (L.set i o) := by
  obtain ⟨cur, h1, h2⟩ := h.obj
  obtain ⟨cur', h3, h4⟩ := heap_setCells b (clE o) (i * 4) w cur h1
  refine ⟨⟨cur', h3, by rw [h4, h2, List.length_set]⟩, fun j x hx => ?_⟩
  rw [List.getElem?_set] at hx
  split at hx
  · rename_i e
    subst e
    have hx : some o = some x := by simpa [hi] using hx
    obtain rfl := Option.some.inj hx
    exact World.rangeAt_setCells_same w b (i * 4) (clE o) (by rw [clE_len]; exact h.there hi)
  · exact World.rangeAt_setCells_apart (h.row j x hx) b (i * 4) (clE o) (.inr (by rw [clE_len, clE_len]; omega))
section
variable {w w' : World} {t b : Nat} {cnt most : Int} {L : List (Option Ent)}
theorem Hs.ne (h : Hs w t b cnt most L) : t ≠ b := fun e => by
  have h1 := h.tab
  obtain ⟨cur, h3, _⟩ := h.arr.obj
  rw [e, h3] at h1
  injection h1 with h1
  injection h1 with _ h2 _
  exact absurd h2 (nat_ne (by kernel_rfl))
theorem Hs.c0 (h : Hs w t b cnt most L) : w.cell? ⟨t, 0, none⟩ = some (.slice (some ⟨b, 0, none⟩) L.length L.length) := cells_at h.tab rfl
theorem Hs.c1 (h : Hs w t b cnt most L) : w.cell? ⟨t, 1, none⟩ = some (.int .i64 cnt) := cells_at h.tab rfl
theorem Hs.c2 (h : Hs w t b cnt most L) : w.cell? ⟨t, 2, none⟩ = some (.int .i64 most) := cells_at h.tab rfl
theorem Hs.keep (h : Hs w t b cnt most L) (h1 : w'.heap[t]? = w.heap[t]?) (h2 : w'.heap[b]? = w.heap[b]?) : Hs w' t b cnt most L := ⟨h1.trans h.tab, h.arr.keep h2⟩
theorem Hs.below (h : Hs w t b cnt most L) (hb : Below w.heap.size w w') : Hs w' t b cnt most L := h.keep (hb.block t (heap_lt h.tab)) (hb.block b h.arr.lt)
theorem Hs.at_ (h : Hs w t b cnt most L) {i : Nat} {o : Option Ent} (hi : L[i]? = some o) : w.rangeAt b (i * 4) (clE o) := h.arr.row i o hi
end
theorem plH_get {L : List (Option Ent)} {i : Nat} (hi : i < L.length) : L[i]? = some (plH L i) := by
  unfold plH
  rw [List.getElem?_eq_getElem hi]; rfl
theorem info_hsp : (Try.prog.info? 143).map (fun i => (i.zero, i.size, i.bytes)) = some (some (.agg (clE none).toArray), 4, 40) := by kernel_rfl
theorem made_flat (n : Nat) : madeCells (clE none).toArray (n * 4) = ((List.replicate n (none : Option Ent)).flatMap clE).toArray := by
  have hl := flat_len (cl := clE) (sz := 4) (List.replicate n none) (fun x _ => clE_len x)
  rw [List.length_replicate] at hl
  apply Array.ext
  · rw [size_madeCells, List.size_toArray, hl]
  · intro i h1 h2
    rw [size_madeCells] at h1
    have h3 : (List.replicate n (none : Option Ent))[i / 4]? = some none := by rw [List.getElem?_replicate, if_pos (by omega)]
    have h4 : i % 4 < (clE none).length := by rw [clE_len]; omega
    have h5 := flat_at (List.replicate n (none : Option Ent)) (fun x _ => clE_len x) (i / 4) none h3 (i % 4) _ (List.getElem?_eq_getElem h4)
    rw [show i / 4 * 4 + i % 4 = i from by omega] at h5
    rw [List.getElem?_eq_getElem (by rw [hl]; exact h1)] at h5
    refine Eq.trans ?_ (Option.some.inj h5).symm
    have hz : (clE none).toArray.size = 4 := rfl
    simp only [madeCells, Array.getElem_map, Array.getElem_range]
    show (clE none).toArray[i % 4]! = _
    rw [getElem!_pos _ _ (by rw [hz]; omega)]
    rfl
theorem run_mk_places (n : Nat) (w : World) (hn : n ≤ 1000000) : (Instr.makeSlice 79 (.int .i64 (n : Int)) (.int .i64 (n : Int))).run Try.prog w =
    .ok (.slice (some ⟨w.heap.size, 0, none⟩) n n) (w.alloc (.cells ((List.replicate n (none : Option Ent)).flatMap clE).toArray 143)) := by
  obtain ⟨i0, hi, hz0, hz1, hz2⟩ := info_parts info_hsp
  have h := run_make (P := Try.prog) w 79 143 i0 _ Try.underlying79 hi hz0 .i64 .i64 n n (by omega) (Int.le_refl _) (by rw [hz2]; omega) (by omega)
  rw [Int.toNat_natCast, hz1] at h
  rw [h, ← made_flat]; rfl
set_option maxRecDepth 100000 in
theorem hsnew_ok (most : Int) (w : World) (h0 : 0 ≤ most) (h1 : most ≤ 65536) : Calls Try.prog 32 #[.int .i64 most] w fun e w' =>
    e = .returned (.tuple #[.pointer (some ⟨w.heap.size + 1, 0, none⟩), .int .i64 0]) ∧ Hs w' (w.heap.size + 1) w.heap.size 0 most (List.replicate 8 none) ∧ Below w.heap.size w w' := by
  have d1 : decide (most < 0) = false := decide_eq_false (by omega)
  have d2 : decide (most > 65536) = false := decide_eq_false (by omega)
  have d3 : decide (65536 < most) = false := d2
  go_enter Try.func32, Try.ntmps32
  have hmk : ∀ w, (Instr.makeSlice 79 (.int .i64 8) (.int .i64 8)).run Try.prog w = .ok (.slice (some ⟨w.heap.size, 0, none⟩) 8 8) (w.alloc (.cells ((List.replicate 8 (none : Option Ent)).flatMap clE).toArray 143)) := fun w => run_mk_places 8 w (by decide)
  generalize hR : ((List.replicate 8 (none : Option Ent)).flatMap clE).toArray = R8 at hmk
  go_wp2
  refine bodyPost_ret (results_tmp2 rfl _ _ _) rfl ⟨rfl, ⟨?_, ?_⟩, ((Below.refl _ w).alloc (Nat.le_refl _) _).alloc (by simp) _⟩
  · have := World.alloc_heap_new (w.alloc (.cells R8 143)) (.cells #[.slice (some ⟨w.heap.size, 0, none⟩) 8 8, .int .i64 0, .int .i64 most] 81)
    rw [World.size_alloc] at this
    exact this
  · rw [← hR]
    exact (ArrH.new w _).keep (Below.heap_alloc _ _ _ (by simp))
theorem hsnew_bad (most : Int) (w : World) (h : most < 0 ∨ most > 65536) : Calls Try.prog 32 #[.int .i64 most] w fun e w' => e = .returned (.tuple #[.pointer none, .int .i64 1]) ∧ w = w' := by
  by_cases h1 : most < 0
  · have d1 : decide (most < 0) = true := decide_eq_true h1
    clear h
    go_enter Try.func32, Try.ntmps32
    go_wp2
    exact bodyPost_ret (results_tmp2 rfl _ _ _) rfl ⟨rfl, rfl⟩
  · have d1 : decide (most < 0) = false := decide_eq_false h1
    have d2 : decide (most > 65536) = true := decide_eq_true (by omega)
    have d3 : decide (65536 < most) = true := d2
    clear h
    go_enter Try.func32, Try.ntmps32
    go_wp2
    exact bodyPost_ret (results_tmp2 rfl _ _ _) rfl ⟨rfl, rfl⟩
/-- What the iterator over places reads. -/
def Cel3 (g1 g2 t b N fr : Nat) (w : World) : Prop :=
  w.cell? ⟨g1, 0, none⟩ = some (.pointer (some ⟨t, 0, none⟩)) ∧ w.cell? ⟨g2, 0, none⟩ = some (.int .i64 (fr : Int)) ∧ w.cell? ⟨t, 0, none⟩ = some (.slice (some ⟨b, 0, none⟩) N N)
def ps3 (g1 g2 t : Nat) : List Addr := [⟨g1, 0, none⟩, ⟨g2, 0, none⟩, ⟨t, 0, none⟩]
theorem Cel3.keep {g1 g2 t b N fr : Nat} {X Y : World} (h : Cel3 g1 g2 t b N fr X) (k : KeepC (ps3 g1 g2 t) X Y) : Cel3 g1 g2 t b N fr Y :=
  ⟨(k _ (by simp [ps3])).trans h.1, (k _ (by simp [ps3])).trans h.2.1, (k _ (by simp [ps3])).trans h.2.2⟩
def encP (x : Nat) : Array Value := #[.int .i64 (x : Int)]
/-- What is known of a place when it comes. -/
def GP (N fr : Nat) (pre : List Nat) (x : Nat) (_ : World) : Prop := x = rnd N fr pre.length ∧ pre.length < N
theorem hsplaces (t fr : Nat) (w : World) : Calls Try.prog 105 #[.pointer (some ⟨t, 0, none⟩), .int .i64 (fr : Int)] w fun e w' =>
    e = .returned (.func (.func 130) #[] #[.pointer (some ⟨w.heap.size, 0, none⟩), .pointer (some ⟨w.heap.size + 1, 0, none⟩)]) ∧ w' = (w.alloc (.cells #[.pointer (some ⟨t, 0, none⟩)] 61)).alloc (.cells #[.int .i64 (fr : Int)] 3) := by
  go_enter Try.func105, Try.ntmps105
  go_wp2
  go_ret
  exact ⟨rfl, rfl⟩
theorem frm_mod {N fr k : Nat} (hf : fr ≤ N) (hk : k < N) : ((fr : Int) + (k : Int)) % (N : Int) = ((rnd N fr k : Nat) : Int) := by
  rw [← rnd_mod hf hk]; simp
set_option maxRecDepth 100000 in
set_option maxHeartbeats 4000000 in
theorem places1_in (m : Nat) (l g1 g2 t b N fr : Nat) (J Jx : List Nat → World → Prop) (W : World) (hJA0 : AbidesFrom W.heap.size J) (hJxS : ∀ pre Y, Jx pre Y → Cel3 g1 g2 t b N fr Y)
    (hY : ∀ pre x X, J pre X → GP N fr pre x X → YieldAt Fence.wide (m - 1) Try.prog l (encP x) X fun e Y =>
      (e = .returned (.bool true) ∧ J (pre ++ [x]) Y ∧ KeepC (ps3 g1 g2 t) X Y) ∨ (e = .returned (.bool false) ∧ Jx (pre ++ [x]) Y))
    (hC : Cel3 g1 g2 t b N fr W) (hN : N ≤ 1000000) (hfr : fr ≤ N) (hJ : J [] W) :
    CallsIn Fence.wide m Try.prog 130 #[.func (.yield l) #[] #[], .pointer (some ⟨g1, 0, none⟩), .pointer (some ⟨g2, 0, none⟩)] W fun e W' => (∃ v, e = .returned v) ∧
      ((∃ xs, xs = (List.range N).map (rnd N fr) ∧ J xs W') ∨ (∃ pre : List Nat, True ∧ Jx pre W')) := by
  have hJA := hJA0
  have hC1 := hC.1
  have hC3 := hC.2.2
  clear hJA0
  refine callsIn_of_wp Try.func130 rfl trivial ?_ rfl
  simp only [Try.ntmps130, List.size_toArray, List.length_cons, List.length_nil, Nat.reduceAdd, Nat.reduceSub, Array.replicate_succ, Array.replicate_zero, List.push_toArray, List.append_toArray, List.nil_append, List.cons_append]
  gi_wp2_with (first
    | ((with_reducible show wpListIn _ _ _ _ _ (Oper.mkOf _ (Op.load 61 _) _ _ _ _ :: _) _ _); refine listW_val rfl (fun c h => by cases h) (run_load_hstp rfl rfl hC1) ?_)
    | ((with_reducible show wpListIn _ _ _ _ _ (Oper.mkOf _ (Op.load 79 _) _ _ _ _ :: _) _ _); refine listW_val rfl (fun c h => by cases h) (run_load_hsar rfl rfl hC3) ?_))
  gi_loopw [10] (fun i wr => ∃ (k : Nat) (pre : List Nat), k ≤ N ∧ i = .int .i64 (k : Int) ∧ Hid (pre.length = k) ∧ Hid (pre = (List.range k).map (rnd N fr)) ∧ J pre wr ∧ Cel3 g1 g2 t b N fr wr)
    (fun i _ => N - (intOf i).toNat)
  case atStart => exact ⟨0, [], Nat.zero_le _, rfl, Lib.hid rfl, Lib.hid rfl, hJ, hC⟩
  case round =>
    obtain ⟨k, pre, hk, rfl, HPL, HPR, hJs, hSc⟩ := hrel
    by_cases hlt : k < N
    · have HAD : Hid (IntKind.i64.wrap ((fr : Int) + (k : Int)) = (fr : Int) + (k : Int)) := Lib.hid (IntWalk.i64_in _ (by omega))
      have HMD := Lib.hid (frm_mod hfr hlt)
      have hJA' := (fun pre A B r h1 h2 h3 => hJA pre A B r h1 h2 h3 : AbidesFrom W.heap.size J)
      clear hC hC1 hC3
      gi_upto_region 3 with fail
      refine regionI (S := Cel3 g1 g2 t b N fr) (by kernel_rfl) hSc (fun hS => ?_)
      refine pureI (i := 0) (oi := ⟨some 13, _, _, _, _, _⟩) rfl (by kernel_rfl) (by kernel_rfl) (by kernel_rfl) (fun _ _ _ h => h) (by rfl) (v := ?_) (fun w hSw => ?_) hS (fun hS => ?_)
      rotate_left
      · go_simp; try with_reducible rfl
      try go_frame
      refine pureI (i := 1) (oi := ⟨some 14, _, _, _, _, _⟩) rfl (by kernel_rfl) (by kernel_rfl) (by kernel_rfl) (fun _ _ _ h => h) (by rfl) (fun w hSw => run_load_int rfl rfl hSw.2.1) hS (fun hS => ?_)
      try go_frame
      refine pureI (i := 2) (oi := ⟨some 15, _, _, _, _, _⟩) rfl (by kernel_rfl) (by kernel_rfl) (by kernel_rfl) (fun _ _ _ h => h) (by rfl) (v := ?_) (fun w hSw => ?_) hS (fun hS => ?_)
      rotate_left
      · go_simp; try with_reducible rfl
      try go_frame
      refine pureI (i := 3) (oi := ⟨some 16, _, _, _, _, _⟩) rfl (by kernel_rfl) (by kernel_rfl) (by kernel_rfl) (fun _ _ _ h => h) (by rfl) (v := .int .i64 ((fr : Int) + (k : Int))) (fun w hSw => by go_simp; try exact HAD.out) hS (fun hS => ?_)
      try go_frame
      refine pureI (i := 4) (oi := ⟨some 17, _, _, _, _, _⟩) rfl (by kernel_rfl) (by kernel_rfl) (by kernel_rfl) (fun _ _ _ h => h) (by rfl) (fun w hSw => run_load_hstp rfl rfl hSw.1) hS (fun hS => ?_)
      try go_frame
      refine pureI (i := 5) (oi := ⟨some 18, _, _, _, _, _⟩) rfl (by kernel_rfl) (by kernel_rfl) (by kernel_rfl) (fun _ _ _ h => h) (by rfl) (v := ?_) (fun w hSw => ?_) hS (fun hS => ?_)
      rotate_left
      · go_simp; try with_reducible rfl
      try go_frame
      refine pureI (i := 6) (oi := ⟨some 19, _, _, _, _, _⟩) rfl (by kernel_rfl) (by kernel_rfl) (by kernel_rfl) (fun _ _ _ h => h) (by rfl) (v := ?_) (fun w hSw => ?_) hS (fun hS => ?_)
      rotate_left
      · go_simp; try with_reducible rfl
      try go_frame
      refine pureI (i := 7) (oi := ⟨some 20, _, _, _, _, _⟩) rfl (by kernel_rfl) (by kernel_rfl) (by kernel_rfl) (fun _ _ _ h => h) (by rfl) (fun w hSw => run_load_hsar rfl rfl hSw.2.2) hS (fun hS => ?_)
      try go_frame
      refine pureI (i := 8) (oi := ⟨some 21, _, _, _, _, _⟩) rfl (by kernel_rfl) (by kernel_rfl) (by kernel_rfl) (fun _ _ _ h => h) (by rfl) (v := ?_) (fun w hSw => ?_) hS (fun hS => ?_)
      rotate_left
      · go_simp; try with_reducible rfl
      try go_frame
      refine pureI (i := 9) (oi := ⟨some 22, _, _, _, _, _⟩) rfl (by kernel_rfl) (by kernel_rfl) (by kernel_rfl) (fun _ _ _ h => h) (by rfl) (v := .int .i64 ((rnd N fr k : Nat) : Int)) (fun w hSw => by go_simp; rw [if_neg (by omega), Int.tmod_eq_emod_of_nonneg (by omega), HMD.out]) hS (fun hS => ?_)
      try go_frame
      refine oneI (i := 10) (oi := ⟨some 23, _, _, _, _, _⟩) (by kernel_rfl) rfl (by rfl) (fun K hK => ?_)
      refine yieldI (l := l) (args := encP (rnd N fr k)) (by go_simp; try rfl) (hY pre (rnd N fr k) _ (hJA' pre _ _ none hJs (grown_none (Below.refl _ wr).drew) (fun _ e => by cases e)) ⟨by rw [HPL.out], by rw [HPL.out]; exact hlt⟩) ?_
      rintro e W3 (⟨rfl, hJ3, hk3⟩ | ⟨rfl, hJx3⟩)
      · have hS3 : Cel3 g1 g2 t b N fr W3 := hSc.keep hk3
        refine ⟨_, rfl, hK _ _ hS3 (fun hS => ?_)⟩
        clear hK K
        try go_frame
        refine pureI (i := 11) (oi := ⟨some 24, _, _, _, _, _⟩) rfl (by kernel_rfl) (by kernel_rfl) (by kernel_rfl) (fun _ _ _ h => h) (by rfl) (v := ?_) (fun w hSw => ?_) hS (fun hS => ?_)
        rotate_left
        · go_simp; try with_reducible rfl
        try go_frame
        refine doneI (by kernel_rfl) ?_ _
        gi_wp2
        go_roundw
        case rel => exact ⟨k + 1, pre ++ [rnd N fr k], by omega, by simp, Lib.hid (by rw [List.length_append, HPL.out]; rfl), Lib.hid (by rw [HPR.out, List.range_succ, List.map_append]; rfl), hJ3, hS3⟩
        case measure => simp [intOf]; omega
      · refine ⟨_, rfl, hK _ _ (hJxS _ _ hJx3) (fun hS => ?_)⟩
        clear hK K
        try go_frame
        refine pureI (i := 11) (oi := ⟨some 24, _, _, _, _, _⟩) rfl (by kernel_rfl) (by kernel_rfl) (by kernel_rfl) (fun _ _ _ h => h) (by rfl) (v := ?_) (fun w hSw => ?_) hS (fun hS => ?_)
        rotate_left
        · go_simp; try with_reducible rfl
        try go_frame
        refine doneI (by kernel_rfl) ?_ _
        gi_wp2
        refine bodyPost_ret (results_none rfl _ _ _) rfl ?_
        exact ⟨⟨_, rfl⟩, .inr ⟨_, trivial, hJx3⟩⟩
    · obtain rfl : N = k := by omega
      gi_wp2
      try rw [Exit.noGoto_normal]
      go_end0
      exact ⟨⟨_, rfl⟩, .inl ⟨_, HPR.out, hJs⟩⟩
end Go.Proofs.Ythdaclbgandmcaa

/-
  find of layer 18's code. Conditions are each theorem's own.
-/
namespace Go.Proofs.Ythdaclbgandmcaa
open Go.RowKit Go.Shelf
attribute [local go_sem] Oper.semAt_some

/-- Q, where nothing panics. -/
def noPanic (Q : Exit → Act → World → Prop) : Exit → Act → World → Prop
  | .panic _, _, _ => False
  | e, a, w => Q e a w
theorem noPanic_to {Q : Exit → Act → World → Prop} (e : Exit) (a : Act) (w : World) (h : noPanic Q e a w) : Q e a w := by
  cases e <;> first | exact h | exact h.elim
theorem noPanic_normal {Q : Exit → Act → World → Prop} {a : Act} {w : World} (h : Q .normal a w) : noPanic Q .normal a w := h
/-- Five blocks of find's own. -/
structure Fbx (W : World) (B t : Nat) (key : List UInt8) (r : Int) (f : Bool) : Prop where
  b0 : Boxed W B 61 (.pointer (some ⟨t, 0, none⟩))
  b1 : Boxed W (B + 1) 9 (.string (strB key))
  b2 : Boxed W (B + 1 + 1) 139 (.int .u64 (mkOf key))
  b3 : Boxed W (B + 1 + 1 + 1) 3 (.int .i64 r)
  b4 : Boxed W (B + 1 + 1 + 1 + 1) 4 (.bool f)
section
variable {W V : World} {B t n : Nat} {key : List UInt8} {r : Int} {f : Bool}
theorem Fbx.sz (h : Fbx W B t key r f) : B + 5 ≤ W.heap.size := by have := heap_lt (show W.heap[B + 1 + 1 + 1 + 1]? = _ from h.b4); omega
theorem Fbx.below (h : Fbx W B t key r f) (hb : Below n W V) (hn : B + 1 + 1 + 1 + 1 < n) : Fbx V B t key r f :=
  ⟨Boxed.below h.b0 hb (by omega), Boxed.below h.b1 hb (by omega), Boxed.below h.b2 hb (by omega), Boxed.below h.b3 hb (by omega), Boxed.below h.b4 hb hn⟩
theorem Fbx.kept {row : Option Nat} (h : Fbx W B t key r f) (hg : W.grownBy V row) (hr : ∀ k, row = some k → n ≤ k ∧ ∃ o : Obj, W.heap[k]? = some o ∧ o.isCells = false) : Fbx V B t key r f :=
  ⟨box_keep h.b0 hg hr, box_keep h.b1 hg hr, box_keep h.b2 hg hr, box_keep h.b3 hg hr, box_keep h.b4 hg hr⟩
theorem Fbx.set (h : Fbx W B t key r f) (r' : Int) (f' : Bool) : Fbx ((W.setCell ⟨B + 1 + 1 + 1, 0, none⟩ (.int .i64 r')).setCell ⟨B + 1 + 1 + 1 + 1, 0, none⟩ (.bool f')) B t key r' f' :=
  ⟨(h.b0.other (by omega) _).other (by omega) _, (h.b1.other (by omega) _).other (by omega) _, (h.b2.other (by omega) _).other (by omega) _, (Boxed.set _ h.b3).other (by omega) _, Boxed.set _ (h.b4.other (by omega) _)⟩
end
theorem Fbx.drew {W : World} {B t : Nat} {key : List UInt8} {r : Int} {f : Bool} (h : Fbx W B t key r f) : Fbx W.drew B t key r f := ⟨h.b0, h.b1, h.b2, h.b3, h.b4⟩
theorem Fbx.new (w : World) (t : Nat) (key : List UInt8) (W : World) (hW : W = ((((w.alloc (.cells #[.pointer (some ⟨t, 0, none⟩)] 61)).alloc (.cells #[.string (strB key)] 9)).alloc (.cells #[.int .u64 (mkOf key)] 139)).alloc (.cells #[.int .i64 0] 3)).alloc (.cells #[.bool false] 4)) :
    Fbx W w.heap.size t key 0 false ∧ Below w.heap.size w W := by
  have a1 : ∀ (V : World) (g : Nat) (T : TypeId) (v : Value), V.heap.size = g → Boxed (V.alloc (.cells #[v] T)) g T v := fun V g T v e => by subst e; exact Boxed.new V T v
  have hB : Below w.heap.size w W := by rw [hW]; exact (((((Below.refl w.heap.size w).alloc (Nat.le_refl _) _).alloc (by simp) _).alloc (by simp; omega) _).alloc (by simp; omega) _).alloc (by simp; omega) _
  refine ⟨?_, hB⟩
  rw [hW]
  exact ⟨((((a1 _ _ _ _ (by first | rfl | simp)).alloc _).alloc _).alloc _).alloc _, (((a1 _ _ _ _ (by first | rfl | simp)).alloc _).alloc _).alloc _, ((a1 _ _ _ _ (by first | rfl | simp)).alloc _).alloc _, (a1 _ _ _ _ (by first | rfl | simp)).alloc _, a1 _ _ _ _ (by first | rfl | simp)⟩
theorem places_below {w W : World} {t fr : Nat} (h : W = (w.alloc (.cells #[.pointer (some ⟨t, 0, none⟩)] 61)).alloc (.cells #[.int .i64 (fr : Int)] 3)) : Below w.heap.size w W := by
  rw [h]; exact ((Below.refl _ w).alloc (Nat.le_refl _) _).alloc (by simp) _
theorem places_cel {w W : World} {t b N fr : Nat} (h : W = (w.alloc (.cells #[.pointer (some ⟨t, 0, none⟩)] 61)).alloc (.cells #[.int .i64 (fr : Int)] 3)) (ht : w.cell? ⟨t, 0, none⟩ = some (.slice (some ⟨b, 0, none⟩) N N)) : Cel3 w.heap.size (w.heap.size + 1) t b N fr W := by
  have htl := cell_block ht
  refine ⟨?_, ?_, ((places_below h).cell (p := ⟨t, 0, none⟩) htl).trans ht⟩
  · rw [h]
    exact Boxed.cell ((Boxed.new w 61 (.pointer (some ⟨t, 0, none⟩))).alloc _)
  · rw [h]
    have := Boxed.new (w.alloc (.cells #[.pointer (some ⟨t, 0, none⟩)] 61)) 3 (.int .i64 (fr : Int))
    rw [World.size_alloc] at this
    exact Boxed.cell this
theorem Cel3.kept {g1 g2 t b N fr n : Nat} {W V : World} {row : Option Nat} (h : Cel3 g1 g2 t b N fr W) (hg : W.grownBy V row) (hr : ∀ k, row = some k → n ≤ k ∧ ∃ o : Obj, W.heap[k]? = some o ∧ o.isCells = false) : Cel3 g1 g2 t b N fr V :=
  ⟨cell_kept h.1 hg (fun k e => (hr k e).2), cell_kept h.2.1 hg (fun k e => (hr k e).2), cell_kept h.2.2 hg (fun k e => (hr k e).2)⟩
theorem Cel3.below {g1 g2 t b N fr n : Nat} {W V : World} (h : Cel3 g1 g2 t b N fr W) (hb : Below n W V) (h1 : g1 < n) (h2 : g2 < n) (h3 : t < n) : Cel3 g1 g2 t b N fr V :=
  h.keep (KeepC.of_below hb (fun p hp => by simp only [ps3, List.mem_cons, List.not_mem_nil, or_false] at hp; rcases hp with rfl | rfl | rfl <;> assumption))
theorem places_seq (w W : World) (t b N fr : Nat) (h : W = (w.alloc (.cells #[.pointer (some ⟨t, 0, none⟩)] 61)).alloc (.cells #[.int .i64 (fr : Int)] 3)) (ht : w.cell? ⟨t, 0, none⟩ = some (.slice (some ⟨b, 0, none⟩) N N)) (hN : N ≤ 1000000) (hf : fr ≤ N) (m : Nat) :
    SeqSafe m Try.prog 130 #[.pointer (some ⟨w.heap.size, 0, none⟩), .pointer (some ⟨w.heap.size + 1, 0, none⟩)] encP (GP N fr) (KeepC (ps3 w.heap.size (w.heap.size + 1) t)) (Cel3 w.heap.size (w.heap.size + 1) t b N fr) (fun xs => xs = (List.range N).map (rnd N fr)) (fun _ => True) W := by
  intro l J Jx V hV hJ _ hS hY h0
  have hc := places_cel h ht
  have hz : W.heap.size = w.heap.size + 2 := by rw [h]; simp
  have htl := cell_block ht
  exact places1_in m l _ _ t b N fr J Jx V hJ hS hY (hc.below hV (by omega) (by omega) (by simp at htl; omega)) hN hf h0
/-- What find answers. -/
def FindOut (L : List (Option Ent)) (key : List UInt8) (e : Ending) : Prop :=
  (∃ (i : Nat) (x : Ent), plH L i = some x ∧ x.key = key ∧ e = .returned (.tuple #[.int .i64 (i : Int), .bool true])) ∨ ((∀ i x, plH L i = some x → x.key ≠ key) ∧ e = .returned (.tuple #[.int .i64 0, .bool false]))
theorem cells2 {fn : Func} {p q : Tmp} {tmps : Array Value} {w : World} {g g' : Nat} {x y : Value} (h : fn.results = #[.cell p 3, .cell q 4])
    (hp : tmps.getD p undef = .pointer (some ⟨g, 0, none⟩)) (hq : tmps.getD q undef = .pointer (some ⟨g', 0, none⟩)) (h0 : Boxed w g 3 x) (h1 : Boxed w g' 4 y) :
    (results fn tmps).run Try.prog w = .ok (.tuple #[x, y]) w := by
  have hp' : tmps[p]?.getD undef = .pointer (some ⟨g, 0, none⟩) := by simpa using hp
  have hq' : tmps[q]?.getD undef = .pointer (some ⟨g', 0, none⟩) := by simpa using hq
  simp [results, h, hp', hq', asAddr, loadv_int h0, loadv_bool h1]
theorem run_load_stH {o : Oper} {a : Act} {w : World} {x : Operand} {p : Addr} {s : ByteArray} (ho : o.op = .load 9 x) (hx : a.eval x = .pointer (some p)) (hc : w.cell? p = some (.string s)) :
    (execOp a.eval o).run Try.prog w = .ok (.value (.string s)) w := by
  unfold execOp
  simp only [ho, hx, Instr.loadAt, Instr.sureAddr, Sem.run_bind, Sem.run_pure, Result.andThen_ok]
  go_simp
section
variable {w : World} {t b : Nat} {cnt most : Int} {L : List (Option Ent)}
set_option maxRecDepth 100000 in
set_option maxHeartbeats 4000000 in
theorem hsfind (h : Hs w t b cnt most L) (hP : Prb (hmN L.length) L) (hN : L.length ≤ 1000000) (key : List UInt8) :
    Calls Try.prog 74 #[.pointer (some ⟨t, 0, none⟩), .string (strB key), .int .u64 (mkOf key)] w fun e w' => FindOut L key e ∧ Below w.heap.size w w' := by
  have HH := Lib.hid h
  have HP := Lib.hid hP
  have hh := hP.home key
  have hN0 : 0 < L.length := by omega
  have htl := heap_lt h.tab
  clear h hP
  refine (callsIn_wide (n := 4)).1 ?_
  refine callsIn_of_wp_marks Try.func74 rfl trivial ?_ rfl
  simp only [Try.ntmps74, List.size_toArray, List.length_cons, List.length_nil, Nat.reduceAdd, Nat.reduceSub, Array.replicate_succ, Array.replicate_zero, List.push_toArray, List.append_toArray, List.nil_append, List.cons_append]
  gi_wp2
  refine wpIn_wide.2 (wp_scope_straight ((wpIn_wide (n := 4)).1 ?_))
  gi_wp2
  refine wpIn_wide.2 (wp_label ?_)
  gi_upto_region 1 with fail
  obtain ⟨W, hW⟩ : ∃ W, W = ((((w.alloc (.cells #[.pointer (some ⟨t, 0, none⟩)] 61)).alloc (.cells #[.string (strB key)] 9)).alloc (.cells #[.int .u64 (mkOf key)] 139)).alloc (.cells #[.int .i64 0] 3)).alloc (.cells #[.bool false] 4) := ⟨_, rfl⟩
  obtain ⟨hF, hBW⟩ := Fbx.new w t key W hW
  rw [← hW]
  clear hW
  refine wpIn_mono (Q := noPanic _) ?_ noPanic_to
  refine regionI (S := fun V => Fbx V w.heap.size t key 0 false ∧ Below w.heap.size w V) (by kernel_rfl) ⟨hF.below (Below.refl W.heap.size W).drew (by have := hF.sz; omega), hBW.drew⟩ (fun hS => ?_)
  clear hF hBW
  refine pureI (i := 0) (oi := ⟨some 10, _, _, _, _, _⟩) rfl (by kernel_rfl) (by kernel_rfl) (by kernel_rfl) (fun _ _ _ h => h) (by rfl) (fun w hSw => run_load_hstp rfl rfl (Boxed.cell hSw.1.b0)) hS (fun hS => ?_)
  try go_frame
  refine pureI (i := 1) (oi := ⟨some 11, _, _, _, _, _⟩) rfl (by kernel_rfl) (by kernel_rfl) (by kernel_rfl) (fun _ _ _ h => h) (by rfl) (fun w hSw => run_load_hstp rfl rfl (Boxed.cell hSw.1.b0)) hS (fun hS => ?_)
  try go_frame
  refine pureI (i := 2) (oi := ⟨some 12, _, _, _, _, _⟩) rfl (by kernel_rfl) (by kernel_rfl) (by kernel_rfl) (fun _ _ _ h => h) (by rfl) (fun w hSw => run_load_u64 rfl rfl (Boxed.cell hSw.1.b2)) hS (fun hS => ?_)
  try go_frame
  refine oneI (i := 3) (oi := ⟨some 13, _, _, _, _, _⟩) (by kernel_rfl) rfl (by rfl) (fun K hK => ?_)
  refine callI (f := 106) (args := #[.pointer (some ⟨t, 0, none⟩), .int .u64 (mkOf key)]) (by go_simp; try rfl) ?_
  refine (hshome t b L.length L.length key _ (hS.2.cell (p := ⟨t, 0, none⟩) (heap_lt HH.out.tab) |>.trans HH.out.c0) hN0 hN).mono ?_
  rintro e w6 ⟨rfl, rfl⟩
  refine ⟨_, rfl, hK _ _ hS (fun hS => ?_)⟩
  clear hK K
  try go_frame
  refine oneI (i := 4) (oi := ⟨some 14, _, _, _, _, _⟩) (by kernel_rfl) rfl (by rfl) (fun K hK => ?_)
  refine callI (f := 105) (args := #[.pointer (some ⟨t, 0, none⟩), .int .i64 ((hmN L.length key : Nat) : Int)]) (by go_simp; try rfl) ?_
  refine (hsplaces t (hmN L.length key) _).mono ?_
  rintro e w7 ⟨rfl, hw7⟩
  have hb7 := places_below hw7
  have hct := (hS.2.cell (p := ⟨t, 0, none⟩) htl).trans HH.out.c0
  have hsW := hS.1.sz
  refine ⟨_, rfl, hK _ _ ⟨hS.1.below hb7 (by have := hS.1.sz; omega), hS.2.trans (hb7.mono hS.2.size)⟩ (fun hS => ?_)⟩
  clear hK K
  try go_frame
  refine doneI (by kernel_rfl) ?_ _
  refine noPanic_normal ?_
  have hseq := places_seq _ _ t b L.length (hmN L.length key) hw7 hct hN (Nat.le_of_lt hh) (4 - 1)
  have hC7 := places_cel hw7 hct
  have hz7 : w7.heap.size = W.drew.heap.size + 2 := by rw [hw7]; simp
  clear hw7 hb7 hct
  generalize W.drew.heap.size = g1 at *
  gi_wp2
  refine range_safe (by omega) (gf := 130) (lb := #[.pointer (some ⟨g1, 0, none⟩), .pointer (some ⟨g1 + 1, 0, none⟩)]) rfl (enters_of Try.func130 (by kernel_rfl) rfl)
    hseq KeepC.trans (fun V l r r' hl hr => KeepC.loop hr) (Below.refl _ _) (fun _ => rfl)
    (fun pre x V l r r' h _ hl => h)
    (fun pre X => Seen L key (hmN L.length key) pre.length ∧ Cel3 g1 (g1 + 1) t b L.length (hmN L.length key) X ∧ Fbx X w.heap.size t key 0 false ∧ Below w.heap.size w X)
    (fun cd _ X => Cel3 g1 (g1 + 1) t b L.length (hmN L.length key) X ∧ Below w.heap.size w X ∧ ((cd = .exit 0 ∧ (∀ i x, plH L i = some x → x.key ≠ key) ∧ Fbx X w.heap.size t key 0 false) ∨ (cd = .ret ∧ ∃ (i : Nat) (x : Ent), plH L i = some x ∧ x.key = key ∧ Fbx X w.heap.size t key (i : Int) true)))
    (fun pre X Y r hs hg hr => ⟨hs.1, hs.2.1.kept hg hr, hs.2.2.1.kept hg hr, below_keep hs.2.2.2 hg hr (by omega) (Nat.le_refl _)⟩)
    (fun cd pre X Y r hs hg hr => ⟨hs.1.kept hg hr, below_keep hs.2.1 hg hr (by omega) (Nat.le_refl _), hs.2.2.imp (fun h => ⟨h.1, h.2.1, h.2.2.kept hg hr⟩) (fun h => by obtain ⟨h1, i, x, h2, h3, h4⟩ := h; exact ⟨h1, i, x, h2, h3, h4.kept hg hr⟩)⟩)
    (fun cd pre X h => h.1)
    ⟨fun d hd => absurd hd (Nat.not_lt_zero _), hC7, hS.1, hS.2⟩
    (fun x => { tmps := #[.pointer (some ⟨t, 0, none⟩), .string (strB key), .int .u64 (mkOf key), .pointer (some ⟨w.heap.size, 0, none⟩), .pointer (some ⟨w.heap.size + 1, 0, none⟩), .pointer (some ⟨w.heap.size + 1 + 1, 0, none⟩), .pointer (some ⟨w.heap.size + 1 + 1 + 1, 0, none⟩), .pointer (some ⟨w.heap.size + 1 + 1 + 1 + 1, 0, none⟩), .int .i64 (x : Int), undef, .pointer (some ⟨t, 0, none⟩), .pointer (some ⟨t, 0, none⟩), .int .u64 (mkOf key), .int .i64 ((hmN L.length key : Nat) : Int), .func (.func 130) #[] #[.pointer (some ⟨g1, 0, none⟩), .pointer (some ⟨g1 + 1, 0, none⟩)], .int .i64 (x : Int), undef, undef, undef, undef, undef, undef, undef, undef, undef, undef, undef, undef, undef, undef, undef, undef, undef, undef, undef, undef, undef, undef, undef, undef, undef, undef, undef, undef], defers := [] }) ?assign ?body ?done ?stop
  case assign =>
    intro l x X K hK
    dsimp only [encP]
    gi_wp2
    exact hK
  case body =>
    rintro l pre x X ⟨hseen, hcel, hF, hB⟩ ⟨hx, hpl⟩
    have hxl : x < L.length := by rw [hx]; exact rnd_lt hh hpl
    have hrow := (HH.out.below hB).at_ (plH_get hxl)
    have HX := Lib.hid hx
    have HSN := Lib.hid hseen
    clear hx hseen
    have kb0 := Boxed.cell hF.b0
    have kb1 := Boxed.cell hF.b1
    have kb2 := Boxed.cell hF.b2
    have kb3 := Boxed.cell hF.b3
    have kb4 := Boxed.cell hF.b4
    have kf3 := Boxed.frozen hF.b3
    have kf4 := Boxed.frozen hF.b4
    have kt := hcel.2.2
    have hne3 : ∀ p ∈ ps3 g1 (g1 + 1) t, p.block ≠ w.heap.size + 1 + 1 + 1 := fun p hp => by simp only [ps3, List.mem_cons, List.not_mem_nil, or_false] at hp; rcases hp with rfl | rfl | rfl <;> simp <;> omega
    have hne4 : ∀ p ∈ ps3 g1 (g1 + 1) t, p.block ≠ w.heap.size + 1 + 1 + 1 + 1 := fun p hp => by simp only [ps3, List.mem_cons, List.not_mem_nil, or_false] at hp; rcases hp with rfl | rfl | rfl <;> simp <;> omega
    cases hp : plH L x with
    | none =>
      rw [hp] at hrow
      have k0 : X.cell? ⟨b, x * 4, none⟩ = some (.bool false) := hrow 0 _ rfl
      have HN := Lib.hid (HP.out.absent hpl HSN.out (HX.out ▸ hp))
      clear hrow hp
      gi_wp2
      exact ⟨(KeepsOthers.refl _).from _, hcel, hB, .inl ⟨rfl, HN.out, hF⟩⟩
    | some y =>
      rw [hp] at hrow
      have k0 : X.cell? ⟨b, x * 4, none⟩ = some (.bool true) := hrow 0 _ rfl
      have k1 : X.cell? ⟨b, x * 4 + 1, none⟩ = some (.int .u64 (mkOf y.key)) := hrow 1 _ rfl
      have k2 : X.cell? ⟨b, x * 4 + 2, none⟩ = some (.string (strB y.key)) := hrow 2 _ rfl
      have HPL := Lib.hid hp
      clear hrow hp
      by_cases hy : y.key = key
      · have dm : (mkOf y.key == mkOf key) = true := by rw [hy]; simp
        have dk : ((strB y.key).toList == (strB key).toList) = true := by rw [hy]; simp
        gi_upto_region 5 with fail
        refine region_roundH (S := fun V => V = X.drew) (by kernel_rfl) (by kernel_rfl) (fun h => by obtain ⟨_, _, h⟩ := h; exact h) rfl (fun hS => ?_)
        refine held_pure (i := 0) (oi := ⟨some 29, _, _, _, _, _⟩) rfl (by kernel_rfl) (by kernel_rfl) (by kernel_rfl) (fun _ _ _ h => h) (by rfl) (v := ?_) (fun w hSw => ?_) hS (fun hS => ?_)
        rotate_left
        · go_simp; try with_reducible rfl
        try go_frame
        refine held_pure (i := 1) (oi := ⟨some 30, _, _, _, _, _⟩) rfl (by kernel_rfl) (by kernel_rfl) (by kernel_rfl) (fun _ _ _ h => h) (by rfl) (v := ?_) (fun w hSw => ?_) hS (fun hS => ?_)
        rotate_left
        · go_simp; try with_reducible rfl
        try go_frame
        refine held_pure (i := 2) (oi := ⟨some 31, _, _, _, _, _⟩) rfl (by kernel_rfl) (by kernel_rfl) (by kernel_rfl) (fun _ _ _ h => h) (by rfl) (v := ?_) (fun w hSw => ?_) hS (fun hS => ?_)
        rotate_left
        · go_simp; try with_reducible rfl
        try go_frame
        refine held_pure (i := 3) (oi := ⟨some 32, _, _, _, _, _⟩) rfl (by kernel_rfl) (by kernel_rfl) (by kernel_rfl) (fun _ _ _ h => h) (by rfl) (fun w hSw => run_load_u64 rfl rfl (by rw [hSw]; exact k1)) hS (fun hS => ?_)
        try go_frame
        refine held_pure (i := 4) (oi := ⟨some 33, _, _, _, _, _⟩) rfl (by kernel_rfl) (by kernel_rfl) (by kernel_rfl) (fun _ _ _ h => h) (by rfl) (fun w hSw => run_load_u64 rfl rfl (by rw [hSw]; exact kb2)) hS (fun hS => ?_)
        try go_frame
        refine held_pure (i := 5) (oi := ⟨some 34, _, _, _, _, _⟩) rfl (by kernel_rfl) (by kernel_rfl) (by kernel_rfl) (fun _ _ _ h => h) (by rfl) (v := .bool true) (fun w hSw => by go_simp; try exact dm) hS (fun hS => ?_)
        try go_frame
        refine held_pure (i := 6) (oi := ⟨some 35, _, _, _, _, _⟩) rfl (by kernel_rfl) (by kernel_rfl) (by kernel_rfl) (fun _ _ _ h => h) (by rfl) (v := ?_) (fun w hSw => ?_) hS (fun hS => ?_)
        rotate_left
        · go_simp; try with_reducible rfl
        try go_frame
        refine held_pure (i := 7) (oi := ⟨some 36, _, _, _, _, _⟩) rfl (by kernel_rfl) (by kernel_rfl) (by kernel_rfl) (fun _ _ _ h => h) (by rfl) (v := ?_) (fun w hSw => ?_) hS (fun hS => ?_)
        rotate_left
        · go_simp; try with_reducible rfl
        try go_frame
        refine held_pure (i := 8) (oi := ⟨some 37, _, _, _, _, _⟩) rfl (by kernel_rfl) (by kernel_rfl) (by kernel_rfl) (fun _ _ _ h => h) (by rfl) (v := ?_) (fun w hSw => ?_) hS (fun hS => ?_)
        rotate_left
        · go_simp; try with_reducible rfl
        try go_frame
        refine held_pure (i := 9) (oi := ⟨some 38, _, _, _, _, _⟩) rfl (by kernel_rfl) (by kernel_rfl) (by kernel_rfl) (fun _ _ _ h => h) (by rfl) (v := ?_) (fun w hSw => ?_) hS (fun hS => ?_)
        rotate_left
        · go_simp; try with_reducible rfl
        try go_frame
        refine held_pure (i := 10) (oi := ⟨some 39, _, _, _, _, _⟩) rfl (by kernel_rfl) (by kernel_rfl) (by kernel_rfl) (fun _ _ _ h => h) (by rfl) (fun w hSw => run_load_stH rfl rfl (by rw [hSw]; exact k2)) hS (fun hS => ?_)
        try go_frame
        refine held_pure (i := 11) (oi := ⟨some 40, _, _, _, _, _⟩) rfl (by kernel_rfl) (by kernel_rfl) (by kernel_rfl) (fun _ _ _ h => h) (by rfl) (fun w hSw => run_load_stH rfl rfl (by rw [hSw]; exact kb1)) hS (fun hS => ?_)
        try go_frame
        refine held_pure (i := 12) (oi := ⟨some 41, _, _, _, _, _⟩) rfl (by kernel_rfl) (by kernel_rfl) (by kernel_rfl) (fun _ _ _ h => h) (by rfl) (v := .bool true) (fun w hSw => by go_simp; try exact dk) hS (fun hS => ?_)
        try go_frame
        refine held_pure (i := 13) (oi := ⟨some 42, _, _, _, _, _⟩) rfl (by kernel_rfl) (by kernel_rfl) (by kernel_rfl) (fun _ _ _ h => h) (by rfl) (v := ?_) (fun w hSw => ?_) hS (fun hS => ?_)
        rotate_left
        · go_simp; try with_reducible rfl
        try go_frame
        refine held_pure (i := 14) (oi := ⟨some 28, _, _, _, _, _⟩) rfl (by kernel_rfl) (by kernel_rfl) (by kernel_rfl) (fun _ _ _ h => h) (by rfl) (v := ?_) (fun w hSw => ?_) hS (fun hS => ?_)
        rotate_left
        · go_simp; try with_reducible rfl
        try go_frame
        refine wpAnyH_done (by kernel_rfl) ?_ _
        gi_wp2
        all_goals exact ⟨(((KeepsOthers.drew _).trans (KeepsOthers.setCell _ _ _)).trans (KeepsOthers.setCell _ _ _)).from _, (hcel.keep (KeepC.cell (X := X) (a := ⟨w.heap.size + 1 + 1 + 1, 0, none⟩) (v := .int .i64 (x : Int)) hne3)).keep (KeepC.cell hne4), ((hB.drew).setCell (p := ⟨w.heap.size + 1 + 1 + 1, 0, none⟩) (by simp; omega) _).setCell (p := ⟨w.heap.size + 1 + 1 + 1 + 1, 0, none⟩) (by simp; omega) _, .inr ⟨rfl, x, y, HPL.out, hy, (Fbx.set hF _ _).drew⟩⟩
      · have dk : ((strB y.key).toList == (strB key).toList) = false := by rw [strB_eq]; exact decide_eq_false hy
        have hsn : Seen L key (hmN L.length key) (pre ++ [x]).length := fun d hd => by
          rw [List.length_append] at hd
          rcases Nat.lt_or_ge d pre.length with h | h
          · exact HSN.out d h
          · have hde : d = pre.length := by simp at hd; omega
            rw [hde, ← HX.out]
            exact ⟨y, HPL.out, hy⟩
        have HS2 := Lib.hid hsn
        clear hsn
        by_cases hm : mkOf y.key = mkOf key
        · have dm : (mkOf y.key == mkOf key) = true := by rw [hm]; simp
          clear hy hm
          gi_upto_region 5 with fail
          refine region_roundH (S := fun V => V = X.drew) (by kernel_rfl) (by kernel_rfl) (fun h => by obtain ⟨_, _, h⟩ := h; exact h) rfl (fun hS => ?_)
          refine held_pure (i := 0) (oi := ⟨some 29, _, _, _, _, _⟩) rfl (by kernel_rfl) (by kernel_rfl) (by kernel_rfl) (fun _ _ _ h => h) (by rfl) (v := ?_) (fun w hSw => ?_) hS (fun hS => ?_)
          rotate_left
          · go_simp; try with_reducible rfl
          try go_frame
          refine held_pure (i := 1) (oi := ⟨some 30, _, _, _, _, _⟩) rfl (by kernel_rfl) (by kernel_rfl) (by kernel_rfl) (fun _ _ _ h => h) (by rfl) (v := ?_) (fun w hSw => ?_) hS (fun hS => ?_)
          rotate_left
          · go_simp; try with_reducible rfl
          try go_frame
          refine held_pure (i := 2) (oi := ⟨some 31, _, _, _, _, _⟩) rfl (by kernel_rfl) (by kernel_rfl) (by kernel_rfl) (fun _ _ _ h => h) (by rfl) (v := ?_) (fun w hSw => ?_) hS (fun hS => ?_)
          rotate_left
          · go_simp; try with_reducible rfl
          try go_frame
          refine held_pure (i := 3) (oi := ⟨some 32, _, _, _, _, _⟩) rfl (by kernel_rfl) (by kernel_rfl) (by kernel_rfl) (fun _ _ _ h => h) (by rfl) (fun w hSw => run_load_u64 rfl rfl (by rw [hSw]; exact k1)) hS (fun hS => ?_)
          try go_frame
          refine held_pure (i := 4) (oi := ⟨some 33, _, _, _, _, _⟩) rfl (by kernel_rfl) (by kernel_rfl) (by kernel_rfl) (fun _ _ _ h => h) (by rfl) (fun w hSw => run_load_u64 rfl rfl (by rw [hSw]; exact kb2)) hS (fun hS => ?_)
          try go_frame
          refine held_pure (i := 5) (oi := ⟨some 34, _, _, _, _, _⟩) rfl (by kernel_rfl) (by kernel_rfl) (by kernel_rfl) (fun _ _ _ h => h) (by rfl) (v := .bool true) (fun w hSw => by go_simp; try exact dm) hS (fun hS => ?_)
          try go_frame
          refine held_pure (i := 6) (oi := ⟨some 35, _, _, _, _, _⟩) rfl (by kernel_rfl) (by kernel_rfl) (by kernel_rfl) (fun _ _ _ h => h) (by rfl) (v := ?_) (fun w hSw => ?_) hS (fun hS => ?_)
          rotate_left
          · go_simp; try with_reducible rfl
          try go_frame
          refine held_pure (i := 7) (oi := ⟨some 36, _, _, _, _, _⟩) rfl (by kernel_rfl) (by kernel_rfl) (by kernel_rfl) (fun _ _ _ h => h) (by rfl) (v := ?_) (fun w hSw => ?_) hS (fun hS => ?_)
          rotate_left
          · go_simp; try with_reducible rfl
          try go_frame
          refine held_pure (i := 8) (oi := ⟨some 37, _, _, _, _, _⟩) rfl (by kernel_rfl) (by kernel_rfl) (by kernel_rfl) (fun _ _ _ h => h) (by rfl) (v := ?_) (fun w hSw => ?_) hS (fun hS => ?_)
          rotate_left
          · go_simp; try with_reducible rfl
          try go_frame
          refine held_pure (i := 9) (oi := ⟨some 38, _, _, _, _, _⟩) rfl (by kernel_rfl) (by kernel_rfl) (by kernel_rfl) (fun _ _ _ h => h) (by rfl) (v := ?_) (fun w hSw => ?_) hS (fun hS => ?_)
          rotate_left
          · go_simp; try with_reducible rfl
          try go_frame
          refine held_pure (i := 10) (oi := ⟨some 39, _, _, _, _, _⟩) rfl (by kernel_rfl) (by kernel_rfl) (by kernel_rfl) (fun _ _ _ h => h) (by rfl) (fun w hSw => run_load_stH rfl rfl (by rw [hSw]; exact k2)) hS (fun hS => ?_)
          try go_frame
          refine held_pure (i := 11) (oi := ⟨some 40, _, _, _, _, _⟩) rfl (by kernel_rfl) (by kernel_rfl) (by kernel_rfl) (fun _ _ _ h => h) (by rfl) (fun w hSw => run_load_stH rfl rfl (by rw [hSw]; exact kb1)) hS (fun hS => ?_)
          try go_frame
          refine held_pure (i := 12) (oi := ⟨some 41, _, _, _, _, _⟩) rfl (by kernel_rfl) (by kernel_rfl) (by kernel_rfl) (fun _ _ _ h => h) (by rfl) (v := .bool false) (fun w hSw => by go_simp; try exact dk) hS (fun hS => ?_)
          try go_frame
          refine held_pure (i := 13) (oi := ⟨some 42, _, _, _, _, _⟩) rfl (by kernel_rfl) (by kernel_rfl) (by kernel_rfl) (fun _ _ _ h => h) (by rfl) (v := ?_) (fun w hSw => ?_) hS (fun hS => ?_)
          rotate_left
          · go_simp; try with_reducible rfl
          try go_frame
          refine held_pure (i := 14) (oi := ⟨some 28, _, _, _, _, _⟩) rfl (by kernel_rfl) (by kernel_rfl) (by kernel_rfl) (fun _ _ _ h => h) (by rfl) (v := ?_) (fun w hSw => ?_) hS (fun hS => ?_)
          rotate_left
          · go_simp; try with_reducible rfl
          try go_frame
          refine wpAnyH_done (by kernel_rfl) ?_ _
          gi_wp2
          all_goals exact ⟨(KeepsOthers.drew _).from _, KeepC.refl _ _, HS2.out, hcel, hF.drew, hB.drew⟩
        · have dm : (mkOf y.key == mkOf key) = false := by simpa using hm
          clear hy hm
          gi_upto_region 5 with fail
          refine region_roundH (S := fun V => V = X.drew) (by kernel_rfl) (by kernel_rfl) (fun h => by obtain ⟨_, _, h⟩ := h; exact h) rfl (fun hS => ?_)
          refine held_pure (i := 0) (oi := ⟨some 29, _, _, _, _, _⟩) rfl (by kernel_rfl) (by kernel_rfl) (by kernel_rfl) (fun _ _ _ h => h) (by rfl) (v := ?_) (fun w hSw => ?_) hS (fun hS => ?_)
          rotate_left
          · go_simp; try with_reducible rfl
          try go_frame
          refine held_pure (i := 1) (oi := ⟨some 30, _, _, _, _, _⟩) rfl (by kernel_rfl) (by kernel_rfl) (by kernel_rfl) (fun _ _ _ h => h) (by rfl) (v := ?_) (fun w hSw => ?_) hS (fun hS => ?_)
          rotate_left
          · go_simp; try with_reducible rfl
          try go_frame
          refine held_pure (i := 2) (oi := ⟨some 31, _, _, _, _, _⟩) rfl (by kernel_rfl) (by kernel_rfl) (by kernel_rfl) (fun _ _ _ h => h) (by rfl) (v := ?_) (fun w hSw => ?_) hS (fun hS => ?_)
          rotate_left
          · go_simp; try with_reducible rfl
          try go_frame
          refine held_pure (i := 3) (oi := ⟨some 32, _, _, _, _, _⟩) rfl (by kernel_rfl) (by kernel_rfl) (by kernel_rfl) (fun _ _ _ h => h) (by rfl) (fun w hSw => run_load_u64 rfl rfl (by rw [hSw]; exact k1)) hS (fun hS => ?_)
          try go_frame
          refine held_pure (i := 4) (oi := ⟨some 33, _, _, _, _, _⟩) rfl (by kernel_rfl) (by kernel_rfl) (by kernel_rfl) (fun _ _ _ h => h) (by rfl) (fun w hSw => run_load_u64 rfl rfl (by rw [hSw]; exact kb2)) hS (fun hS => ?_)
          try go_frame
          refine held_pure (i := 5) (oi := ⟨some 34, _, _, _, _, _⟩) rfl (by kernel_rfl) (by kernel_rfl) (by kernel_rfl) (fun _ _ _ h => h) (by rfl) (v := .bool false) (fun w hSw => by go_simp; try exact dm) hS (fun hS => ?_)
          try go_frame
          refine held_pure (i := 6) (oi := ⟨some 35, _, _, _, _, _⟩) rfl (by kernel_rfl) (by kernel_rfl) (by kernel_rfl) (fun _ _ _ h => h) (by rfl) (v := ?_) (fun w hSw => ?_) hS (fun hS => ?_)
          rotate_left
          · go_simp; try with_reducible rfl
          try go_frame
          refine held_skip (i := 7) (oi := ⟨some 36, _, _, _, _, _⟩) rfl (by kernel_rfl) (by kernel_rfl) (by kernel_rfl) (fun _ _ _ h => h) (by rfl) hS (fun hS => ?_)
          try go_frame
          refine held_skip (i := 8) (oi := ⟨some 37, _, _, _, _, _⟩) rfl (by kernel_rfl) (by kernel_rfl) (by kernel_rfl) (fun _ _ _ h => h) (by rfl) hS (fun hS => ?_)
          try go_frame
          refine held_skip (i := 9) (oi := ⟨some 38, _, _, _, _, _⟩) rfl (by kernel_rfl) (by kernel_rfl) (by kernel_rfl) (fun _ _ _ h => h) (by rfl) hS (fun hS => ?_)
          try go_frame
          refine held_skip (i := 10) (oi := ⟨some 39, _, _, _, _, _⟩) rfl (by kernel_rfl) (by kernel_rfl) (by kernel_rfl) (fun _ _ _ h => h) (by rfl) hS (fun hS => ?_)
          try go_frame
          refine held_skip (i := 11) (oi := ⟨some 40, _, _, _, _, _⟩) rfl (by kernel_rfl) (by kernel_rfl) (by kernel_rfl) (fun _ _ _ h => h) (by rfl) hS (fun hS => ?_)
          try go_frame
          refine held_skip (i := 12) (oi := ⟨some 41, _, _, _, _, _⟩) rfl (by kernel_rfl) (by kernel_rfl) (by kernel_rfl) (fun _ _ _ h => h) (by rfl) hS (fun hS => ?_)
          try go_frame
          refine held_pure (i := 13) (oi := ⟨some 42, _, _, _, _, _⟩) rfl (by kernel_rfl) (by kernel_rfl) (by kernel_rfl) (fun _ _ _ h => h) (by rfl) (v := ?_) (fun w hSw => ?_) hS (fun hS => ?_)
          rotate_left
          · go_simp; try with_reducible rfl
          try go_frame
          refine held_pure (i := 14) (oi := ⟨some 28, _, _, _, _, _⟩) rfl (by kernel_rfl) (by kernel_rfl) (by kernel_rfl) (fun _ _ _ h => h) (by rfl) (v := ?_) (fun w hSw => ?_) hS (fun hS => ?_)
          rotate_left
          · go_simp; try with_reducible rfl
          try go_frame
          refine wpAnyH_done (by kernel_rfl) ?_ _
          gi_wp2
          all_goals exact ⟨(KeepsOthers.drew _).from _, KeepC.refl _ _, HS2.out, hcel, hF.drew, hB.drew⟩
  case done =>
    rintro D xs X hD hS ⟨hseen, hcel, hF, hB⟩ hK
    rw [hS, List.length_map, List.length_range] at hseen
    have HA := Lib.hid (absent_all hh hseen)
    clear hseen hS hseq hC7
    have hm1 : Marks w7.heap.size X.heap.size [{ target := .collected D, args := #[] }] X := (Marks.push (hi := D) (ds := []) trivial (Nat.le_refl _) hD hK).more (heap_lt hK)
    have kb3 := Boxed.cell hF.b3
    have kb4 := Boxed.cell (Boxed.other hF.b4 (B' := w.heap.size + 1 + 1 + 1) (by omega) (.int .i64 0))
    have kf3 := Boxed.frozen hF.b3
    have kf4 := Boxed.frozen (Boxed.other hF.b4 (B' := w.heap.size + 1 + 1 + 1) (by omega) (.int .i64 0))
    gi_wp2
    refine leaves_marks w7.heap.size (fun Y => Fbx Y w.heap.size t key 0 false ∧ Below w.heap.size w Y) (fun Y D hY h1 h2 => ⟨hY.1.kept (n := w7.heap.size) (grownBy_putObj' Y D _) (fun k e => by cases e; exact ⟨h1, _, h2, rfl⟩), hY.2.trans (belowK_b (w := w) (Nat.le_refl _) Y D _ _ (by omega) h2 rfl rfl)⟩)
      (fun Y hY => ⟨_, cells2 rfl rfl rfl hY.1.b3 hY.1.b4, Or.inr ⟨HA.out, rfl⟩, hY.2⟩) _ _ _ (hm1.keep (fun k h1 _ => (Below.heap_setCell _ _ _ _ (by simp; omega)).trans (Below.heap_setCell _ _ _ _ (by simp; omega))))
      ⟨Fbx.set hF _ _, (hB.setCell (p := ⟨w.heap.size + 1 + 1 + 1, 0, none⟩) (by simp; omega) _).setCell (p := ⟨w.heap.size + 1 + 1 + 1 + 1, 0, none⟩) (by simp; omega) _⟩
  case stop =>
    rintro D cd pre X hD _ ⟨hcel, hB, h⟩ hK
    have hm1 : Marks w7.heap.size X.heap.size [{ target := .collected D, args := #[] }] X := (Marks.push (hi := D) (ds := []) trivial (Nat.le_refl _) hD hK).more (heap_lt hK)
    rcases h with ⟨rfl, hno, hF⟩ | ⟨rfl, i, x, hx, hk, hF⟩
    · have HA := Lib.hid hno
      clear hno
      have kb3 := Boxed.cell hF.b3
      have kb4 := Boxed.cell (Boxed.other hF.b4 (B' := w.heap.size + 1 + 1 + 1) (by omega) (.int .i64 0))
      have kf3 := Boxed.frozen hF.b3
      have kf4 := Boxed.frozen (Boxed.other hF.b4 (B' := w.heap.size + 1 + 1 + 1) (by omega) (.int .i64 0))
      gi_wp2
      refine leaves_marks w7.heap.size (fun Y => Fbx Y w.heap.size t key 0 false ∧ Below w.heap.size w Y) (fun Y D hY h1 h2 => ⟨hY.1.kept (n := w7.heap.size) (grownBy_putObj' Y D _) (fun k e => by cases e; exact ⟨h1, _, h2, rfl⟩), hY.2.trans (belowK_b (w := w) (Nat.le_refl _) Y D _ _ (by omega) h2 rfl rfl)⟩)
        (fun Y hY => ⟨_, cells2 rfl rfl rfl hY.1.b3 hY.1.b4, Or.inr ⟨HA.out, rfl⟩, hY.2⟩) _ _ _ (hm1.keep (fun k h1 _ => (Below.heap_setCell _ _ _ _ (by simp; omega)).trans (Below.heap_setCell _ _ _ _ (by simp; omega))))
        ⟨Fbx.set hF _ _, (hB.setCell (p := ⟨w.heap.size + 1 + 1 + 1, 0, none⟩) (by simp; omega) _).setCell (p := ⟨w.heap.size + 1 + 1 + 1 + 1, 0, none⟩) (by simp; omega) _⟩
    · gi_wp2
      refine leaves_marks w7.heap.size (fun Y => Fbx Y w.heap.size t key (i : Int) true ∧ Below w.heap.size w Y) (fun Y D hY h1 h2 => ⟨hY.1.kept (n := w7.heap.size) (grownBy_putObj' Y D _) (fun k e => by cases e; exact ⟨h1, _, h2, rfl⟩), hY.2.trans (belowK_b (w := w) (Nat.le_refl _) Y D _ _ (by omega) h2 rfl rfl)⟩)
        (fun Y hY => ⟨_, cells2 rfl rfl rfl hY.1.b3 hY.1.b4, Or.inl ⟨i, x, hx, hk, rfl⟩, hY.2⟩) _ _ _ hm1
        ⟨hF, hB⟩
end
end Go.Proofs.Ythdaclbgandmcaa
