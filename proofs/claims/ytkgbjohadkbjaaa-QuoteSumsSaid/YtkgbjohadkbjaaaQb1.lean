/-
  Contracts and lemmas on which the proofs of this seat stand (several texts in one). Conditions are each theorem's own.
-/
import Derived.Test.YtkgbjohadkbjaaaQa13
import Derived.Test.YtkgbjohadkbjaaaQa6
import Derived.Test.YtkgbjohadkbjaaaQa8
import Derived.Test.YtkgbjohadkbjaaaQa9

/-
  What layer 26's law of sums is told and tells: four numbers that came in, and a datagram's packet read again. Conditions are each theorem's own.
-/
namespace Go.Proofs.Ytkgbjohadkbjaaa
open Go.RowKit Go.ChangeShapes Go.WideShapes
section
variable {H : Type} {enc : TypeId × Value → H} {P : Program} {w : World} {base : Nat} {t e : TypeId} {v : Value} {d : DataW H} {p : List MemPlace}
theorem get_ends (ht : P.underlying t = some (.array 4 e)) (he : P.underlying e = some (.int .u16)) (hc : P.cellsOf e = 1) (hm : P.cellsOf t = 4) (hv : Value.okWide P w .any base t v) (h : DataW.Trod enc P w 0 (fun _ => true) true t v d p) :
    ∃ a b c d : Int, v = .agg #[.int .u16 a, .int .u16 b, .int .u16 c, .int .u16 d] ∧ (Lit.int .u16 a).wf = true ∧ (Lit.int .u16 b).wf = true ∧ (Lit.int .u16 c).wf = true ∧ (Lit.int .u16 d).wf = true := by
  obtain ⟨cs, rfl, _⟩ : ∃ cs, v = .agg cs ∧ True := by
    have := hv
    simp only [Value.okWide, ht] at this
    cases v <;> simp_all
  obtain ⟨fuel, hf⟩ := h
  obtain ⟨xs, k, _, _, hl, hxs, hall⟩ := DataW.trod_array ht hf
  rw [hm] at hl
  simp only [Value.cells] at hl hall
  have each : ∀ i, i < 4 → ∃ n : Int, cs.toList[i]? = some (.int .u16 n) ∧ (Lit.int .u16 n).wf = true := by
    intro i hi
    have h1 := hall i hi
    rw [hc, Nat.mul_one, List.getElem?_eq_getElem (by omega)] at h1
    obtain ⟨n, hn, _, hw⟩ := DataW.trod_int he h1
    have h0 := congrArg (·[0]?) hn
    simp only [List.getElem?_take, List.getElem?_drop, List.getElem?_cons_zero, Nat.zero_lt_one, if_true, Nat.add_zero] at h0
    exact ⟨n, h0, hw⟩
  obtain ⟨n0, e0, f0⟩ := each 0 (by decide)
  obtain ⟨n1, e1, f1⟩ := each 1 (by decide)
  obtain ⟨n2, e2, f2⟩ := each 2 (by decide)
  obtain ⟨n3, e3, f3⟩ := each 3 (by decide)
  clear hall hxs each hf hv
  refine ⟨n0, n1, n2, n3, ?_, f0, f1, f2, f3⟩
  obtain ⟨l⟩ := cs
  match l, hl with
  | [x0, x1, x2, x3], _ => simp at e0 e1 e2 e3; simp [e0, e1, e2, e3]
end
theorem u16_bdQ {a : Int} (h : (Lit.int .u16 a).wf = true) : 0 ≤ a ∧ a ≤ 65535 := by
  have := h
  simp [Lit.wf] at this
  have e1 : IntKind.u16.min = 0 := by decide
  have e2 : IntKind.u16.max = 65535 := by decide
  omega
theorem u32_bdQ {a : Int} (h : (Lit.int .u32 a).wf = true) : 0 ≤ a ∧ a < 4294967296 := by
  have := h
  simp [Lit.wf] at this
  have e1 : IntKind.u32.min = 0 := by decide
  have e2 : IntKind.u32.max = 4294967295 := by decide
  omega
section
variable {s d f t ttl : Int} {b : List UInt8}
/-- Read again: that packet, and a datagram with a right sum in it. -/
theorem dg_again (h : DgOk s d f t ttl b) : ∃ q, prsV (bld4 (dgQ s d f t ttl b)) false = q ∧ prsE (bld4 (dgQ s d f t ttl b)) false = 0 ∧ badU q.src q.dst q.dat = 0 ∧ q.dat.length = 8 + b.length ∧ (bld4 (dgQ s d f t ttl b)).length = 28 + b.length := by
  have hk := back_ok (more := []) (dg_chk h)
  rw [List.append_nil] at hk
  refine ⟨dgQ s d f t ttl b, hk.2, hk.1, (backU (src := s) (dst := d) (dg_uchk h)).1, dg_len s d f t ttl b, ?_⟩
  have l1 := bld4_len (dgQ s d f t ttl b)
  rw [dg_len] at l1
  have : (dgQ s d f t ttl b).opt.length = 0 := rfl
  omega
end
end Go.Proofs.Ytkgbjohadkbjaaa

/-
  Contracts of layer 26's Message, the program's and the document's. Conditions are each theorem's own.
-/
namespace Go.Proofs.Ytkgbjohadkbjaaa
open Go.RowKit
def msV (q : PI) (fr : Bool) (a n : Int) : PI := if frE q.dat a n = 0 then ⟨q.typ, q.code, q.rest, frV q.dat fr a n⟩ else isz
set_option maxRecDepth 100000 in
set_option maxHeartbeats 2000000 in
theorem cqmsg (q : PI) (A : Option Addr) (c : Nat) (fr : Bool) (a n : Int) (w : World) (B : Nat) (hD : Arg w B A c q.dat) (hB0 : B ≤ w.heap.size) (hl : q.dat.length ≤ 1000000) :
    Calls Try.prog 32 #[isv q A c, .bool fr, .int .i64 a, .int .i64 n] w fun e w' => ∃ P p, e = .returned (.tuple #[isv (msV q fr a n) P p, .int .i64 (frE q.dat a n)]) ∧ Made w w' (.slice P (msV q fr a n).dat.length p) (msV q fr a n).dat := by
  have hB : Below w.heap.size w ((w.alloc (.cells (isa q A c) 59)).alloc (.cells #[.int .i64 0, .int .i64 0, .int .i64 0, .slice none 0 0] 59)) := ((Below.refl w.heap.size w).alloc (Nat.le_refl _) _).alloc (by simp) _
  have hU0 : ((w.alloc (.cells (isa q A c) 59)).alloc (.cells #[.int .i64 0, .int .i64 0, .int .i64 0, .slice none 0 0] 59)).heap[w.heap.size]? = some (.cells (isa q A c) 59 (0, 0)) := (Below.heap_alloc (w.alloc (.cells (isa q A c) 59)) _ w.heap.size (by simp)).trans (World.alloc_heap_new w _)
  have hR0 : ((w.alloc (.cells (isa q A c) 59)).alloc (.cells #[.int .i64 0, .int .i64 0, .int .i64 0, .slice none 0 0] 59)).heap[w.heap.size + 1]? = some (.cells (isa isz none 0) 59 (0, 0)) := by
    have := World.alloc_heap_new (w.alloc (.cells (isa q A c) 59)) (.cells #[.int .i64 0, .int .i64 0, .int .i64 0, .slice none 0 0] 59)
    rwa [World.size_alloc] at this
  rw [isv_eq]
  obtain ⟨FE, hFE⟩ : ∃ x, x = frE q.dat a n := ⟨_, rfl⟩
  obtain ⟨FV, hFV⟩ : ∃ x, x = frV q.dat fr a n := ⟨_, rfl⟩
  obtain ⟨MV, hMV⟩ : ∃ x, x = msV q fr a n := ⟨_, rfl⟩
  have HMV := Lib.hid (show MV = if FE = 0 then ⟨q.typ, q.code, q.rest, FV⟩ else isz by rw [hMV, hFE, hFV]; rfl)
  rw [← hFE, ← hMV]
  have HFE := Lib.hid hFE
  have HFV := Lib.hid hFV
  clear hFE hFV hMV
  go_enter Try.func32, Try.ntmps32
  go_upto_region 1 with fail
  generalize (w.alloc (.cells (isa q A c) 59)).alloc (.cells #[.int .i64 0, .int .i64 0, .int .i64 0, .slice none 0 0] 59) = W at *
  have k3 : W.cell? ⟨w.heap.size, 3, none⟩ = some (.slice A q.dat.length c) := by { rw [cell_of_row _ _ _ _ _ _ hU0]; rfl }
  have hz := heap_lt hR0
  have hD1 := hD.below (hB.mono hB0)
  have hBW : B ≤ W.heap.size := Nat.le_trans hB0 hB.size
  go_upto_region 2 with (first
    | (go_at_call 58; refine (cqwith q.dat A c B fr a n W hD1 hBW hl).mono ?_; rintro e w3 ⟨P, p, rfl, m3⟩; rw [← HFV.out] at m3; rw [← HFE.out, ← HFV.out]))
  have x3 := m3.below
  have hU3 := (x3.block w.heap.size (by omega)).trans hU0
  have hR3 := (x3.block (w.heap.size + 1) hz).trans hR0
  have hB3 := hB.trans (x3.mono (by omega))
  clear k3 hU0 hR0
  by_cases hF : FE = 0
  · subst hF
    have HM := Lib.hid (show MV = ⟨q.typ, q.code, q.rest, FV⟩ by rw [HMV.out, if_pos rfl])
    have k4 : w3.cell? ⟨w.heap.size, 3, none⟩ = some (.slice A q.dat.length c) := by { rw [cell_of_row _ _ _ _ _ _ hU3]; rfl }
    have f4 := heap_frozen hU3 3
    go_upto_region 5 with fail
    have hU4 := heap_setCell_same w3 w.heap.size 3 _ _ (.slice P FV.length p) hU3
    have hU4 : (w3.setCell ⟨w.heap.size, 3, none⟩ (.slice P FV.length p)).heap[w.heap.size]? = some (.cells (isa ⟨q.typ, q.code, q.rest, FV⟩ P p) 59 (0, 0)) := hU4
    have hR4 := (heap_setCell_other w3 ⟨w.heap.size, 3, none⟩ (w.heap.size + 1) (.slice P FV.length p) (by show w.heap.size + 1 ≠ w.heap.size; omega)).trans hR3
    have hB4 := hB3.setCell (p := ⟨w.heap.size, 3, none⟩) (Nat.le_refl _) (.slice P FV.length p)
    have o4 := own_setRow (own_setCell (made_own m3) (p := ⟨w.heap.size, 3, none⟩) (u := .slice P FV.length p) (by show w.heap.size < _; omega)) (g := w.heap.size + 1) (cs := isa ⟨q.typ, q.code, q.rest, FV⟩ P p) hz
    have at4 := Atis.of_heap hU4
    clear k4 f4
    go_wp2_with (first
      | ((with_reducible show wpList _ _ _ (Oper.mk _ (Op.load 59 _) _ _ _ _ :: _) _ _); refine wpList_val rfl (run_load_is rfl rfl at4 rfl) ?_)
      | ((with_reducible show wpList _ _ _ (Oper.mk _ (Op.store 59 _ _) _ _ _ _ :: _) _ _); refine is_store (g := w.heap.size + 1) (cs := isa ⟨q.typ, q.code, q.rest, FV⟩ P p) rfl rfl hR4 rfl rfl (is_one _ _ _) ?_))
    exact bodyPost_ret (res2 rfl rfl (is_load_run (setRow_heap _ _ _ _ _ _ hR4) rfl)) rfl ⟨P, p, by rw [HM.out]; rfl, by rw [HM.out]; exact Made.of_own (own_base o4 (by omega)) (below_row hB4 (by omega))⟩
  · have HM := Lib.hid (show MV = isz by rw [HMV.out, if_neg hF])
    have dF : (FE != 0) = true := by simpa using hF
    clear hF
    go_wp2_with (first
      | ((with_reducible show wpList _ _ _ (Oper.mk _ (Op.store 59 _ _) _ _ _ _ :: _) _ _); refine is_store (g := w.heap.size + 1) (cs := isa isz none 0) rfl rfl hR3 rfl rfl (is_one _ _ _) ?_))
    exact bodyPost_ret (res2 rfl rfl (is_load_run (setRow_heap _ _ _ _ _ _ hR3) rfl)) rfl ⟨none, 0, by rw [HM.out]; rfl, by rw [HM.out]; exact Made.nil _ _ (below_row hB3 (by omega))⟩
set_option maxRecDepth 100000 in
set_option maxHeartbeats 2000000 in
theorem rqmsg_to (q : PI) (A : Option Addr) (c : Nat) (a n : Int) (w : World) (B : Nat) (hD : Arg w B A c q.dat) (hB0 : B ≤ w.heap.size) (hl : q.dat.length ≤ 1000000) :
    Calls Try.prog 33 #[isv q A c, .bool false, .int .i64 a, .int .i64 n] w fun e w' => ∃ P p, e = .returned (.tuple #[isv (msV q false a n) P p, .int .i64 (frE q.dat a n)]) ∧ Made w w' (.slice P (msV q false a n).dat.length p) (msV q false a n).dat := by
  have hB : Below w.heap.size w ((w.alloc (.cells (isa q A c) 59)).alloc (.cells #[.int .i64 0, .int .i64 0, .int .i64 0, .slice none 0 0] 59)) := ((Below.refl w.heap.size w).alloc (Nat.le_refl _) _).alloc (by simp) _
  have hU0 : ((w.alloc (.cells (isa q A c) 59)).alloc (.cells #[.int .i64 0, .int .i64 0, .int .i64 0, .slice none 0 0] 59)).heap[w.heap.size]? = some (.cells (isa q A c) 59 (0, 0)) := (Below.heap_alloc (w.alloc (.cells (isa q A c) 59)) _ w.heap.size (by simp)).trans (World.alloc_heap_new w _)
  have hR0 : ((w.alloc (.cells (isa q A c) 59)).alloc (.cells #[.int .i64 0, .int .i64 0, .int .i64 0, .slice none 0 0] 59)).heap[w.heap.size + 1]? = some (.cells (isa isz none 0) 59 (0, 0)) := by
    have := World.alloc_heap_new (w.alloc (.cells (isa q A c) 59)) (.cells #[.int .i64 0, .int .i64 0, .int .i64 0, .slice none 0 0] 59)
    rwa [World.size_alloc] at this
  rw [isv_eq]
  obtain ⟨FE, hFE⟩ : ∃ x, x = frE q.dat a n := ⟨_, rfl⟩
  obtain ⟨FV, hFV⟩ : ∃ x, x = frV q.dat false a n := ⟨_, rfl⟩
  obtain ⟨MV, hMV⟩ : ∃ x, x = msV q false a n := ⟨_, rfl⟩
  have HMV := Lib.hid (show MV = if FE = 0 then ⟨q.typ, q.code, q.rest, FV⟩ else isz by rw [hMV, hFE, hFV]; rfl)
  rw [← hFE, ← hMV]
  have HFE := Lib.hid hFE
  have HFV := Lib.hid hFV
  clear hFE hFV hMV
  go_enter Try.func33, Try.ntmps33
  go_upto_region 1 with fail
  generalize (w.alloc (.cells (isa q A c) 59)).alloc (.cells #[.int .i64 0, .int .i64 0, .int .i64 0, .slice none 0 0] 59) = W at *
  have k3 : W.cell? ⟨w.heap.size, 3, none⟩ = some (.slice A q.dat.length c) := by { rw [cell_of_row _ _ _ _ _ _ hU0]; rfl }
  have hz := heap_lt hR0
  have hD1 := hD.below (hB.mono hB0)
  have hBW : B ≤ W.heap.size := Nat.le_trans hB0 hB.size
  go_upto_region 4 with (first
    | (go_at_call 29; refine (rqto q.dat A c B a n W hD1 hBW hl).mono ?_; rintro e w3 ⟨P, p, rfl, m3⟩; rw [← HFV.out] at m3; rw [← HFE.out, ← HFV.out]))
  have x3 := m3.below
  have hU3 := (x3.block w.heap.size (by omega)).trans hU0
  have hR3 := (x3.block (w.heap.size + 1) hz).trans hR0
  have hB3 := hB.trans (x3.mono (by omega))
  clear k3 hU0 hR0
  by_cases hF : FE = 0
  · subst hF
    have HM := Lib.hid (show MV = ⟨q.typ, q.code, q.rest, FV⟩ by rw [HMV.out, if_pos rfl])
    have k4 : w3.cell? ⟨w.heap.size, 3, none⟩ = some (.slice A q.dat.length c) := by { rw [cell_of_row _ _ _ _ _ _ hU3]; rfl }
    have f4 := heap_frozen hU3 3
    go_upto_region 7 with fail
    have hU4 := heap_setCell_same w3 w.heap.size 3 _ _ (.slice P FV.length p) hU3
    have hU4 : (w3.setCell ⟨w.heap.size, 3, none⟩ (.slice P FV.length p)).heap[w.heap.size]? = some (.cells (isa ⟨q.typ, q.code, q.rest, FV⟩ P p) 59 (0, 0)) := hU4
    have hR4 := (heap_setCell_other w3 ⟨w.heap.size, 3, none⟩ (w.heap.size + 1) (.slice P FV.length p) (by show w.heap.size + 1 ≠ w.heap.size; omega)).trans hR3
    have hB4 := hB3.setCell (p := ⟨w.heap.size, 3, none⟩) (Nat.le_refl _) (.slice P FV.length p)
    have o4 := own_setRow (own_setCell (made_own m3) (p := ⟨w.heap.size, 3, none⟩) (u := .slice P FV.length p) (by show w.heap.size < _; omega)) (g := w.heap.size + 1) (cs := isa ⟨q.typ, q.code, q.rest, FV⟩ P p) hz
    have at4 := Atis.of_heap hU4
    clear k4 f4
    go_wp2_with (first
      | ((with_reducible show wpList _ _ _ (Oper.mk _ (Op.load 59 _) _ _ _ _ :: _) _ _); refine wpList_val rfl (run_load_is rfl rfl at4 rfl) ?_)
      | ((with_reducible show wpList _ _ _ (Oper.mk _ (Op.store 59 _ _) _ _ _ _ :: _) _ _); refine is_store (g := w.heap.size + 1) (cs := isa ⟨q.typ, q.code, q.rest, FV⟩ P p) rfl rfl hR4 rfl rfl (is_one _ _ _) ?_))
    exact bodyPost_ret (res2 rfl rfl (is_load_run (setRow_heap _ _ _ _ _ _ hR4) rfl)) rfl ⟨P, p, by rw [HM.out]; rfl, by rw [HM.out]; exact Made.of_own (own_base o4 (by omega)) (below_row hB4 (by omega))⟩
  · have HM := Lib.hid (show MV = isz by rw [HMV.out, if_neg hF])
    have dF : (FE != 0) = true := by simpa using hF
    clear hF
    go_wp2_with (first
      | ((with_reducible show wpList _ _ _ (Oper.mk _ (Op.store 59 _ _) _ _ _ _ :: _) _ _); refine is_store (g := w.heap.size + 1) (cs := isa isz none 0) rfl rfl hR3 rfl rfl (is_one _ _ _) ?_))
    exact bodyPost_ret (res2 rfl rfl (is_load_run (setRow_heap _ _ _ _ _ _ hR3) rfl)) rfl ⟨none, 0, by rw [HM.out]; rfl, by rw [HM.out]; exact Made.nil _ _ (below_row hB3 (by omega))⟩
set_option maxRecDepth 100000 in
set_option maxHeartbeats 2000000 in
theorem rqmsg_from (q : PI) (A : Option Addr) (c : Nat) (a n : Int) (w : World) (B : Nat) (hD : Arg w B A c q.dat) (hB0 : B ≤ w.heap.size) (hl : q.dat.length ≤ 1000000) :
    Calls Try.prog 33 #[isv q A c, .bool true, .int .i64 a, .int .i64 n] w fun e w' => ∃ P p, e = .returned (.tuple #[isv (msV q true a n) P p, .int .i64 (frE q.dat a n)]) ∧ Made w w' (.slice P (msV q true a n).dat.length p) (msV q true a n).dat := by
  have hB : Below w.heap.size w ((w.alloc (.cells (isa q A c) 59)).alloc (.cells #[.int .i64 0, .int .i64 0, .int .i64 0, .slice none 0 0] 59)) := ((Below.refl w.heap.size w).alloc (Nat.le_refl _) _).alloc (by simp) _
  have hU0 : ((w.alloc (.cells (isa q A c) 59)).alloc (.cells #[.int .i64 0, .int .i64 0, .int .i64 0, .slice none 0 0] 59)).heap[w.heap.size]? = some (.cells (isa q A c) 59 (0, 0)) := (Below.heap_alloc (w.alloc (.cells (isa q A c) 59)) _ w.heap.size (by simp)).trans (World.alloc_heap_new w _)
  have hR0 : ((w.alloc (.cells (isa q A c) 59)).alloc (.cells #[.int .i64 0, .int .i64 0, .int .i64 0, .slice none 0 0] 59)).heap[w.heap.size + 1]? = some (.cells (isa isz none 0) 59 (0, 0)) := by
    have := World.alloc_heap_new (w.alloc (.cells (isa q A c) 59)) (.cells #[.int .i64 0, .int .i64 0, .int .i64 0, .slice none 0 0] 59)
    rwa [World.size_alloc] at this
  rw [isv_eq]
  obtain ⟨FE, hFE⟩ : ∃ x, x = frE q.dat a n := ⟨_, rfl⟩
  obtain ⟨FV, hFV⟩ : ∃ x, x = frV q.dat true a n := ⟨_, rfl⟩
  obtain ⟨MV, hMV⟩ : ∃ x, x = msV q true a n := ⟨_, rfl⟩
  have HMV := Lib.hid (show MV = if FE = 0 then ⟨q.typ, q.code, q.rest, FV⟩ else isz by rw [hMV, hFE, hFV]; rfl)
  rw [← hFE, ← hMV]
  have HFE := Lib.hid hFE
  have HFV := Lib.hid hFV
  clear hFE hFV hMV
  go_enter Try.func33, Try.ntmps33
  go_upto_region 1 with fail
  generalize (w.alloc (.cells (isa q A c) 59)).alloc (.cells #[.int .i64 0, .int .i64 0, .int .i64 0, .slice none 0 0] 59) = W at *
  have k3 : W.cell? ⟨w.heap.size, 3, none⟩ = some (.slice A q.dat.length c) := by { rw [cell_of_row _ _ _ _ _ _ hU0]; rfl }
  have hz := heap_lt hR0
  have hD1 := hD.below (hB.mono hB0)
  have hBW : B ≤ W.heap.size := Nat.le_trans hB0 hB.size
  go_upto_region 4 with (first
    | (go_at_call 29; refine (rqto q.dat A c B a n W hD1 hBW hl).mono ?_; rintro e w2 ⟨P0, p0, rfl, m2⟩; have x2 := m2.below; rw [← HFE.out]; have k3b := (x2.cell (p := ⟨w.heap.size, 3, none⟩) (by show w.heap.size < _; omega)).trans k3; generalize frV q.dat false a n = TV at *)
    | (go_at_call 27; refine (rqfrom q.dat A c B a n w2 (hD1.below (x2.mono hBW)) (Nat.le_trans hBW x2.size) hl).mono ?_; rintro e w3 ⟨P, p, rfl, m3⟩; rw [← HFV.out] at m3; rw [← HFE.out, ← HFV.out]; have m3 := m3.after x2; clear k3b))
  have x3 := m3.below
  have hU3 := (x3.block w.heap.size (by omega)).trans hU0
  have hR3 := (x3.block (w.heap.size + 1) hz).trans hR0
  have hB3 := hB.trans (x3.mono (by omega))
  clear k3 hU0 hR0
  by_cases hF : FE = 0
  · subst hF
    have HM := Lib.hid (show MV = ⟨q.typ, q.code, q.rest, FV⟩ by rw [HMV.out, if_pos rfl])
    have k4 : w3.cell? ⟨w.heap.size, 3, none⟩ = some (.slice A q.dat.length c) := by { rw [cell_of_row _ _ _ _ _ _ hU3]; rfl }
    have f4 := heap_frozen hU3 3
    go_upto_region 7 with fail
    have hU4 := heap_setCell_same w3 w.heap.size 3 _ _ (.slice P FV.length p) hU3
    have hU4 : (w3.setCell ⟨w.heap.size, 3, none⟩ (.slice P FV.length p)).heap[w.heap.size]? = some (.cells (isa ⟨q.typ, q.code, q.rest, FV⟩ P p) 59 (0, 0)) := hU4
    have hR4 := (heap_setCell_other w3 ⟨w.heap.size, 3, none⟩ (w.heap.size + 1) (.slice P FV.length p) (by show w.heap.size + 1 ≠ w.heap.size; omega)).trans hR3
    have hB4 := hB3.setCell (p := ⟨w.heap.size, 3, none⟩) (Nat.le_refl _) (.slice P FV.length p)
    have o4 := own_setRow (own_setCell (made_own m3) (p := ⟨w.heap.size, 3, none⟩) (u := .slice P FV.length p) (by show w.heap.size < _; omega)) (g := w.heap.size + 1) (cs := isa ⟨q.typ, q.code, q.rest, FV⟩ P p) hz
    have at4 := Atis.of_heap hU4
    clear k4 f4
    go_wp2_with (first
      | ((with_reducible show wpList _ _ _ (Oper.mk _ (Op.load 59 _) _ _ _ _ :: _) _ _); refine wpList_val rfl (run_load_is rfl rfl at4 rfl) ?_)
      | ((with_reducible show wpList _ _ _ (Oper.mk _ (Op.store 59 _ _) _ _ _ _ :: _) _ _); refine is_store (g := w.heap.size + 1) (cs := isa ⟨q.typ, q.code, q.rest, FV⟩ P p) rfl rfl hR4 rfl rfl (is_one _ _ _) ?_))
    exact bodyPost_ret (res2 rfl rfl (is_load_run (setRow_heap _ _ _ _ _ _ hR4) rfl)) rfl ⟨P, p, by rw [HM.out]; rfl, by rw [HM.out]; exact Made.of_own (own_base o4 (by omega)) (below_row hB4 (by omega))⟩
  · have HM := Lib.hid (show MV = isz by rw [HMV.out, if_neg hF])
    have dF : (FE != 0) = true := by simpa using hF
    clear hF
    go_wp2_with (first
      | ((with_reducible show wpList _ _ _ (Oper.mk _ (Op.store 59 _ _) _ _ _ _ :: _) _ _); refine is_store (g := w.heap.size + 1) (cs := isa isz none 0) rfl rfl hR3 rfl rfl (is_one _ _ _) ?_))
    exact bodyPost_ret (res2 rfl rfl (is_load_run (setRow_heap _ _ _ _ _ _ hR3) rfl)) rfl ⟨none, 0, by rw [HM.out]; rfl, by rw [HM.out]; exact Made.nil _ _ (below_row hB3 (by omega))⟩
theorem rqmsg (q : PI) (A : Option Addr) (c : Nat) (fr : Bool) (a n : Int) (w : World) (B : Nat) (hD : Arg w B A c q.dat) (hB0 : B ≤ w.heap.size) (hl : q.dat.length ≤ 1000000) :
    Calls Try.prog 33 #[isv q A c, .bool fr, .int .i64 a, .int .i64 n] w fun e w' => ∃ P p, e = .returned (.tuple #[isv (msV q fr a n) P p, .int .i64 (frE q.dat a n)]) ∧ Made w w' (.slice P (msV q fr a n).dat.length p) (msV q fr a n).dat := by
  cases fr
  · exact rqmsg_to q A c a n w B hD hB0 hl
  · exact rqmsg_from q A c a n w B hD hB0 hl
end Go.Proofs.Ytkgbjohadkbjaaa
