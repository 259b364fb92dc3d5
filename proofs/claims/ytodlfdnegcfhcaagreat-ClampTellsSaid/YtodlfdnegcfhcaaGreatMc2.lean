/-
  Contracts and lemmas on which the proofs of this seat stand (several texts in one). Conditions are each theorem's own.
-/
import Derived.Test.YtodlfdnegcfhcaaGreatMc1
import Derived.Test.YtodlfdnegcfhcaaGreatMa3
import Derived.Test.YtodlfdnegcfhcaaGreatMa4

/-
  Contracts of layer 9's WithID, the program's and the document's. Conditions are each theorem's own.
-/
namespace Go.Proofs.YtodlfdnegcfhcaaGreat
open Go.RowKit

theorem made_own {w w' : World} {P : Option Addr} {p n : Nat} {bs : List UInt8} (h : Made w w' (.slice P n p) bs) : w'.ownsRow w.heap.size 5 1 (.slice P bs.length p) bs.length (row bs) := by
  obtain ⟨A, c, e, hl, hr, ho, hb⟩ := h
  cases e
  exact ho
set_option maxRecDepth 100000 in
set_option maxHeartbeats 1000000 in
theorem cIwith (q : PI) (A : Option Addr) (c : Nat) (id : Int) (w : World) (B : Nat) (hD : Arg w B A c q.dat) (hB0 : B ≤ w.heap.size) (hl : q.dat.length ≤ 1000000) :
    Calls Tryz.prog 161 #[isv q A c, .int .i64 id] w fun e w' => ∃ P p, e = .returned (isv (wdI q id) P p) ∧ Made w w' (.slice P q.dat.length p) q.dat := by
  have hB : Below w.heap.size w ((w.alloc (.cells (isa q A c) 93)).alloc (.cells #[.int .i64 0, .int .i64 0, .int .i64 0, .slice none 0 0] 93)) := ((Below.refl w.heap.size w).alloc (Nat.le_refl _) _).alloc (by simp) _
  have hU0 : ((w.alloc (.cells (isa q A c) 93)).alloc (.cells #[.int .i64 0, .int .i64 0, .int .i64 0, .slice none 0 0] 93)).heap[w.heap.size]? = some (.cells (isa q A c) 93 (0, 0)) := (Below.heap_alloc (w.alloc (.cells (isa q A c) 93)) _ w.heap.size (by simp)).trans (World.alloc_heap_new w _)
  have hR0 : ((w.alloc (.cells (isa q A c) 93)).alloc (.cells #[.int .i64 0, .int .i64 0, .int .i64 0, .slice none 0 0] 93)).heap[w.heap.size + 1]? = some (.cells (isa isz none 0) 93 (0, 0)) := by
    have := World.alloc_heap_new (w.alloc (.cells (isa q A c) 93)) (.cells #[.int .i64 0, .int .i64 0, .int .i64 0, .slice none 0 0] 93)
    rwa [World.size_alloc] at this
  rw [isv_eq]
  obtain ⟨M, hM⟩ : ∃ n, n = id % 65536 := ⟨_, rfl⟩
  obtain ⟨R, hR⟩ : ∃ n, n = q.rest % 65536 := ⟨_, rfl⟩
  have HW := Lib.hid (show wdI q id = ⟨q.typ, q.code, M * 65536 + R, q.dat⟩ by rw [wdI, ← hM, ← hR])
  have hm : 0 ≤ M ∧ M ≤ 65535 := by omega
  have hr : 0 ≤ R ∧ R ≤ 65535 := by omega
  have e1 : bits .and .i64 id 65535 = M := by rw [hM]; exact and_any 16 id (by decide)
  have e2 : bits .and .i64 q.rest 65535 = R := by rw [hR]; exact and_any 16 q.rest (by decide)
  have e3 : wrap64 (M * 65536) = M * 65536 := by unfold wrap64; omega
  have e4 : bits .or .i64 (M * 65536) R = M * 65536 + R := bits_join .i64 62 (by decide) wraps_i64 16 (M * 65536) R (by omega) (by omega) (by omega) hr.1 (by omega) (by omega)
  clear hM hR
  rw [HW.out]
  go_enter Tryz.func161, Tryz.ntmps161
  go_upto_region 1 with fail
  generalize (w.alloc (.cells (isa q A c) 93)).alloc (.cells #[.int .i64 0, .int .i64 0, .int .i64 0, .slice none 0 0] 93) = W at *
  have k2 : W.cell? ⟨w.heap.size, 2, none⟩ = some (.int .i64 q.rest) := by { rw [cell_of_row _ _ _ _ _ _ hU0]; rfl }
  have f2 := heap_frozen hU0 2
  go_upto_region 2 with fail
  have hU1 := heap_setCell_same W w.heap.size 2 _ _ (.int .i64 (M * 65536 + R)) hU0
  have hU1 : (W.setCell ⟨w.heap.size, 2, none⟩ (.int .i64 (M * 65536 + R))).heap[w.heap.size]? = some (.cells (isa ⟨q.typ, q.code, M * 65536 + R, q.dat⟩ A c) 93 (0, 0)) := hU1
  have hR1 := (heap_setCell_other W ⟨w.heap.size, 2, none⟩ (w.heap.size + 1) (.int .i64 (M * 65536 + R)) (by show w.heap.size + 1 ≠ w.heap.size; omega)).trans hR0
  have hB1 := hB.setCell (p := ⟨w.heap.size, 2, none⟩) (Nat.le_refl _) (.int .i64 (M * 65536 + R))
  clear k2 f2 hU0 hR0
  generalize W.setCell ⟨w.heap.size, 2, none⟩ (.int .i64 (M * 65536 + R)) = V at *
  have k3 : V.cell? ⟨w.heap.size, 3, none⟩ = some (.slice A q.dat.length c) := by { rw [cell_of_row _ _ _ _ _ _ hU1]; rfl }
  have hz := heap_lt hR1
  have hD1 := hD.below (hB1.mono hB0)
  go_upto_region 3 with ((go_at_call 116; refine (freshI_any A q.dat c B _ hD1 (by omega)).mono ?_; rintro e w3 ⟨v3, rfl, m3⟩; obtain ⟨P, p, rfl, g3, o3, y3⟩ := made_shape m3); have x3 := m3.below; have hU3 := (x3.block w.heap.size (by omega)).trans hU1; have hR3 := (x3.block (w.heap.size + 1) hz).trans hR1; have k4 : w3.cell? ⟨w.heap.size, 3, none⟩ = some (.slice A q.dat.length c) := by { rw [cell_of_row _ _ _ _ _ _ hU3]; rfl }; have f4 := heap_frozen hU3 3)
  have hU4 := heap_setCell_same w3 w.heap.size 3 _ _ (.slice P q.dat.length p) hU3
  have hU4 : (w3.setCell ⟨w.heap.size, 3, none⟩ (.slice P q.dat.length p)).heap[w.heap.size]? = some (.cells (isa ⟨q.typ, q.code, M * 65536 + R, q.dat⟩ P p) 93 (0, 0)) := hU4
  have hR4 := (heap_setCell_other w3 ⟨w.heap.size, 3, none⟩ (w.heap.size + 1) (.slice P q.dat.length p) (by show w.heap.size + 1 ≠ w.heap.size; omega)).trans hR3
  have hB4 := (hB1.trans (x3.mono (by omega))).setCell (p := ⟨w.heap.size, 3, none⟩) (Nat.le_refl _) (.slice P q.dat.length p)
  have o4 := own_setRow (own_setCell (made_own m3) (p := ⟨w.heap.size, 3, none⟩) (u := .slice P q.dat.length p) (by show w.heap.size < _; omega)) (g := w.heap.size + 1) (cs := isa ⟨q.typ, q.code, M * 65536 + R, q.dat⟩ P p) hz
  have at4 := Atis.of_heap hU4
  clear k3 k4 f4
  go_wp2_with (first
    | ((with_reducible show wpList _ _ _ (Oper.mk _ (Op.load 93 _) _ _ _ _ :: _) _ _); refine wpList_val rfl (run_load_is rfl rfl at4 rfl) ?_)
    | ((with_reducible show wpList _ _ _ (Oper.mk _ (Op.store 93 _ _) _ _ _ _ :: _) _ _); refine is_store (g := w.heap.size + 1) (cs := isa ⟨q.typ, q.code, M * 65536 + R, q.dat⟩ P p) rfl rfl hR4 rfl rfl (is_one _ _ _) ?_))
  exact bodyPost_ret (is_result rfl rfl (setRow_heap _ _ _ _ _ _ hR4) rfl) rfl ⟨P, p, rfl, Made.of_own (own_base o4 (by omega)) (below_row hB4 (by omega))⟩
set_option maxRecDepth 100000 in
set_option maxHeartbeats 1000000 in
theorem rIwith (q : PI) (A : Option Addr) (c : Nat) (id : Int) (w : World) (B : Nat) (hD : Arg w B A c q.dat) (hB0 : B ≤ w.heap.size) (hl : q.dat.length ≤ 1000000) :
    Calls Tryz.prog 66 #[isv q A c, .int .i64 id] w fun e w' => ∃ P p, e = .returned (isv (wdI q id) P p) ∧ Made w w' (.slice P q.dat.length p) q.dat := by
  have hB : Below w.heap.size w ((w.alloc (.cells (isa q A c) 93)).alloc (.cells #[.int .i64 0, .int .i64 0, .int .i64 0, .slice none 0 0] 93)) := ((Below.refl w.heap.size w).alloc (Nat.le_refl _) _).alloc (by simp) _
  have hU0 : ((w.alloc (.cells (isa q A c) 93)).alloc (.cells #[.int .i64 0, .int .i64 0, .int .i64 0, .slice none 0 0] 93)).heap[w.heap.size]? = some (.cells (isa q A c) 93 (0, 0)) := (Below.heap_alloc (w.alloc (.cells (isa q A c) 93)) _ w.heap.size (by simp)).trans (World.alloc_heap_new w _)
  have hR0 : ((w.alloc (.cells (isa q A c) 93)).alloc (.cells #[.int .i64 0, .int .i64 0, .int .i64 0, .slice none 0 0] 93)).heap[w.heap.size + 1]? = some (.cells (isa isz none 0) 93 (0, 0)) := by
    have := World.alloc_heap_new (w.alloc (.cells (isa q A c) 93)) (.cells #[.int .i64 0, .int .i64 0, .int .i64 0, .slice none 0 0] 93)
    rwa [World.size_alloc] at this
  rw [isv_eq]
  obtain ⟨M, hM⟩ : ∃ n, n = id % 65536 := ⟨_, rfl⟩
  obtain ⟨R, hR⟩ : ∃ n, n = q.rest % 65536 := ⟨_, rfl⟩
  have HW := Lib.hid (show wdI q id = ⟨q.typ, q.code, R + M * 65536, q.dat⟩ by rw [wdI, ← hM, ← hR, Int.add_comm])
  have hm : 0 ≤ M ∧ M ≤ 65535 := by omega
  have hr : 0 ≤ R ∧ R ≤ 65535 := by omega
  have e1 : (wrap64 (id.tmod 65536 + 65536)).tmod 65536 = M := by rw [hM]; exact mod_val id 65536 (by decide) (by decide)
  have e2 : bits .and .i64 q.rest 65535 = R := by rw [hR]; exact and_any 16 q.rest (by decide)
  have e3 : wrap64 (M * 65536) = M * 65536 := by unfold wrap64; omega
  have e4 : wrap64 (R + M * 65536) = R + M * 65536 := by unfold wrap64; omega
  clear hM hR
  rw [HW.out]
  go_enter Tryz.func66, Tryz.ntmps66
  go_upto_region 1 with fail
  generalize (w.alloc (.cells (isa q A c) 93)).alloc (.cells #[.int .i64 0, .int .i64 0, .int .i64 0, .slice none 0 0] 93) = W at *
  have k2 : W.cell? ⟨w.heap.size, 2, none⟩ = some (.int .i64 q.rest) := by { rw [cell_of_row _ _ _ _ _ _ hU0]; rfl }
  have f2 := heap_frozen hU0 2
  go_upto_region 2 with fail
  have hU1 := heap_setCell_same W w.heap.size 2 _ _ (.int .i64 (R + M * 65536)) hU0
  have hU1 : (W.setCell ⟨w.heap.size, 2, none⟩ (.int .i64 (R + M * 65536))).heap[w.heap.size]? = some (.cells (isa ⟨q.typ, q.code, R + M * 65536, q.dat⟩ A c) 93 (0, 0)) := hU1
  have hR1 := (heap_setCell_other W ⟨w.heap.size, 2, none⟩ (w.heap.size + 1) (.int .i64 (R + M * 65536)) (by show w.heap.size + 1 ≠ w.heap.size; omega)).trans hR0
  have hB1 := hB.setCell (p := ⟨w.heap.size, 2, none⟩) (Nat.le_refl _) (.int .i64 (R + M * 65536))
  clear k2 f2 hU0 hR0
  generalize W.setCell ⟨w.heap.size, 2, none⟩ (.int .i64 (R + M * 65536)) = V at *
  have k3 : V.cell? ⟨w.heap.size, 3, none⟩ = some (.slice A q.dat.length c) := by { rw [cell_of_row _ _ _ _ _ _ hU1]; rfl }
  have hz := heap_lt hR1
  have hD1 := hD.below (hB1.mono hB0)
  go_upto_region 3 with ((at_builtin; refine append_rd rfl _ _ rfl V.heap.size (.slice none 0 0) 0 [] rfl (World.ownsRow_nil _ _ _ _) B A c q.dat rfl hD.none_ hD1.rd (by omega) (Nat.le_refl _) ?_; intro v3 w3 own3 grow3; obtain ⟨P, p, rfl, owm3⟩ := own_made (bs := q.dat) own3 (by simp) (by simp); have m3 := Made.of_own owm3 ((Below.refl V.heap.size V).grown grow3 (Nat.le_refl _) (fun k hk => by cases hk))); have x3 := m3.below; have hU3 := (x3.block w.heap.size (by omega)).trans hU1; have hR3 := (x3.block (w.heap.size + 1) hz).trans hR1; have k4 : w3.cell? ⟨w.heap.size, 3, none⟩ = some (.slice A q.dat.length c) := by { rw [cell_of_row _ _ _ _ _ _ hU3]; rfl }; have f4 := heap_frozen hU3 3)
  have hU4 := heap_setCell_same w3 w.heap.size 3 _ _ (.slice P q.dat.length p) hU3
  have hU4 : (w3.setCell ⟨w.heap.size, 3, none⟩ (.slice P q.dat.length p)).heap[w.heap.size]? = some (.cells (isa ⟨q.typ, q.code, R + M * 65536, q.dat⟩ P p) 93 (0, 0)) := hU4
  have hR4 := (heap_setCell_other w3 ⟨w.heap.size, 3, none⟩ (w.heap.size + 1) (.slice P q.dat.length p) (by show w.heap.size + 1 ≠ w.heap.size; omega)).trans hR3
  have hB4 := (hB1.trans (x3.mono (by omega))).setCell (p := ⟨w.heap.size, 3, none⟩) (Nat.le_refl _) (.slice P q.dat.length p)
  have o4 := own_setRow (own_setCell (made_own m3) (p := ⟨w.heap.size, 3, none⟩) (u := .slice P q.dat.length p) (by show w.heap.size < _; omega)) (g := w.heap.size + 1) (cs := isa ⟨q.typ, q.code, R + M * 65536, q.dat⟩ P p) hz
  have at4 := Atis.of_heap hU4
  clear k3 k4 f4
  go_wp2_with (first
    | ((with_reducible show wpList _ _ _ (Oper.mk _ (Op.load 93 _) _ _ _ _ :: _) _ _); refine wpList_val rfl (run_load_is rfl rfl at4 rfl) ?_)
    | ((with_reducible show wpList _ _ _ (Oper.mk _ (Op.store 93 _ _) _ _ _ _ :: _) _ _); refine is_store (g := w.heap.size + 1) (cs := isa ⟨q.typ, q.code, R + M * 65536, q.dat⟩ P p) rfl rfl hR4 rfl rfl (is_one _ _ _) ?_))
  exact bodyPost_ret (is_result rfl rfl (setRow_heap _ _ _ _ _ _ hR4) rfl) rfl ⟨P, p, rfl, Made.of_own (own_base o4 (by omega)) (below_row hB4 (by omega))⟩
end Go.Proofs.YtodlfdnegcfhcaaGreat

/-
  What layer 9's laws call first: that an identifier is told. And what a built message is, or an error beside nothing. Conditions are each theorem's own.
-/
namespace Go.Proofs.YtodlfdnegcfhcaaGreat
open Go.RowKit

theorem resI_shape {p : List UInt8} {q : PI} {w w' : World} {v : Value} (h : (chkI q ≠ 0 → v = .slice none 0 0 ∧ Below w.heap.size w w') ∧ (chkI q = 0 → Made w w' v (bldI p q))) :
    ∃ A c, v = .slice A (resI p q).length c ∧ Rd w' w'.heap.size A (resI p q) ∧ Below w.heap.size w w' := by
  by_cases hc : chkI q = 0
  · obtain ⟨A, c, rfl, hl, hr, ho, hb⟩ := h.2 hc
    exact ⟨A, c, by rw [resI, if_pos hc], by rw [resI, if_pos hc]; exact hr, hb⟩
  · obtain ⟨rfl, hb⟩ := h.1 hc
    exact ⟨none, 0, by rw [resI, if_neg hc]; rfl, by rw [resI, if_neg hc]; exact Rd.nil, hb⟩
theorem made_arg {w w' : World} {P : Option Addr} {p n : Nat} {bs : List UInt8} (h : Made w w' (.slice P n p) bs) : Arg w' w'.heap.size P p bs := by
  obtain ⟨A, c, e, ha, _, _⟩ := made_shape h
  cases e
  exact ha
def qaI : PI := ⟨8, 0, 65538, []⟩
theorem buildI_awake (w : World) : Calls Tryz.prog 160 #[isv qaI none 0] w fun e w' => ∃ A c, e = .returned (.tuple #[.slice A 8 c, .int .i64 0]) ∧ Arg w' w'.heap.size A c (bldI [] qaI) ∧ Below w.heap.size w w' := by
  have hc : chkI qaI = 0 := by decide
  have hlen : (bldI [] qaI).length = 8 := bldI_len [] qaI
  refine (cIbuild qaI none 0 w 0 (Arg.nil _ 0) (Nat.zero_le _) (by decide)).mono ?_
  rintro e w' ⟨v, rfl, _, hm⟩
  obtain ⟨A, c, rfl, ha, ho, hb⟩ := made_shape (hm hc)
  exact ⟨A, c, by rw [hc, hlen], ha, hb⟩
theorem parseI_awake (A : Option Addr) (c B : Nat) (w : World) (h : Arg w B A c (bldI [] qaI)) (hB : B ≤ w.heap.size) :
    Calls Tryz.prog 92 #[.slice A 8 c] w fun e w' => ∃ P p, e = .returned (.tuple #[isv qaI P p, .int .i64 0]) ∧ Arg w' w'.heap.size P p [] ∧ Below w.heap.size w w' := by
  have hlen : (bldI [] qaI).length = 8 := bldI_len [] qaI
  have hk := backI (p := []) (q := qaI) (by decide)
  have := cIparse (bldI [] qaI) A c w B h hB (by rw [hlen]; decide)
  rw [hk.1, hk.2, hlen] at this
  refine this.mono ?_
  rintro e w' ⟨P, p, rfl, hm⟩
  have hb := hm.below
  obtain ⟨A, c, e, ha, ho, _⟩ := made_shape hm
  cases e
  exact ⟨P, p, rfl, ha, hb⟩
theorem idI_awake (P : Option Addr) (p : Nat) (w : World) : Calls Tryz.prog 162 #[isv qaI P p] w fun e w' => e = .returned (.int .i64 1) ∧ Below w.heap.size w w' := cIid qaI P p w
theorem withI_awake (P : Option Addr) (p B : Nat) (w : World) (h : Arg w B P p []) (hB : B ≤ w.heap.size) : Calls Tryz.prog 161 #[isv qaI P p, .int .i64 5] w fun e w' => ∃ R r, e = .returned (.agg #[.int .i64 8, .int .i64 0, .int .i64 327682, .slice R 0 r]) ∧ Below w.heap.size w w' := by
  refine (cIwith qaI P p 5 w B h hB (by decide)).mono ?_
  rintro e w' ⟨R, r, rfl, hm⟩
  exact ⟨R, r, rfl, hm.below⟩
end Go.Proofs.YtodlfdnegcfhcaaGreat

/-
  Ports of packets, and packets with others, in plain lists of bytes. No program. Conditions are each theorem's own.
-/
namespace Go.Proofs.YtodlfdnegcfhcaaGreat
open Go.RowKit

/-- What a packet has within, of each kind. -/
def inU (p : P4) : PU := prsU p.src p.dst p.dat
def inT (p : P4) : PT := prsT p.src p.dst p.dat
def inI (p : P4) : PI := prsI [] p.dat
/-- What is wrong with bytes that should be a query; nothing: 0. -/
def icE (b : List UInt8) : Int := if badI [] b ≠ 0 then badI [] b else if qryI (prsI [] b).typ = true then 0 else 8
/-- What is wrong with a packet's ports; nothing: 0. -/
def ofE (p : P4) : Int :=
  if chk4 p ≠ 0 then chk4 p else if whole4 p = false then 4
  else if p.proto = 17 then badU p.src p.dst p.dat
  else if p.proto = 6 then badT p.src p.dst p.dat
  else if p.proto = 1 then icE p.dat else 8
def ptS (p : P4) : Int := if p.proto = 17 then (inU p).src else if p.proto = 6 then (inT p).src else idI (inI p)
def ptD (p : P4) : Int := if p.proto = 17 then (inU p).dst else if p.proto = 6 then (inT p).dst else idI (inI p)
def flg (p : P4) : Int := if ofE p = 0 ∧ p.proto = 6 then (inT p).flags else 0
/-- What is wrong with a packet, an address and a port. -/
def isAd (a : Int) : Prop := 0 ≤ a ∧ a < 4294967296
def isPt (n : Int) : Prop := 0 ≤ n ∧ n ≤ 65535
instance (a : Int) : Decidable (isAd a) := by unfold isAd; infer_instance
instance (n : Int) : Decidable (isPt n) := by unfold isPt; infer_instance
def mayE (p : P4) (addr port : Int) : Int := if ofE p ≠ 0 then ofE p else if isAd addr ∧ isPt port then 0 else 1
/-- A packet whose data are built anew. -/
def nwD (k : Int) (s d : Int) (u : PU) (t : PT) (i : PI) : List UInt8 := if k = 17 then bldU s d u else if k = 6 then bldT s d t else bldI [] i
def nwP (p : P4) (s d : Int) (u : PU) (t : PT) (i : PI) : P4 := ⟨p.tos, p.id, p.off, p.ttl, p.proto, s, d, p.df, p.mf, p.opt, nwD p.proto s d u t i⟩
def srcU (u : PU) (n : Int) : PU := ⟨n, u.dst, u.nosum, u.dat⟩
def dstU (u : PU) (n : Int) : PU := ⟨u.src, n, u.nosum, u.dat⟩
def srcT (t : PT) (n : Int) : PT := ⟨n, t.dst, t.seq, t.ack, t.res, t.flags, t.win, t.urg, t.opt, t.dat⟩
def dstT (t : PT) (n : Int) : PT := ⟨t.src, n, t.seq, t.ack, t.res, t.flags, t.win, t.urg, t.opt, t.dat⟩
def frP (p : P4) (a n : Int) : P4 := nwP p a p.dst (srcU (inU p) n) (srcT (inT p) n) (wdI (inI p) n)
def toP (p : P4) (a n : Int) : P4 := nwP p p.src a (dstU (inU p) n) (dstT (inT p) n) (wdI (inI p) n)
def frV (p : P4) (a n : Int) : P4 := if mayE p a n = 0 then frP p a n else p4z
def toV (p : P4) (a n : Int) : P4 := if mayE p a n = 0 then toP p a n else p4z

theorem badU_ok {s d : Int} {b : List UInt8} (h : badU s d b = 0) : prsU s d b = rawU b ∧ 8 ≤ b.length := by
  refine ⟨by rw [prsU, if_pos h], ?_⟩
  unfold badU at h
  split at h
  · cases h
  · omega
theorem badT_ok {s d : Int} {b : List UInt8} (h : badT s d b = 0) : prsT s d b = rawT b ∧ 20 ≤ hlT b ∧ hlT b ≤ (b.length : Int) ∧ b.length ≤ 65535 := by
  refine ⟨by rw [prsT, if_pos h], ?_⟩
  unfold badT at h
  split at h
  · cases h
  · split at h
    · cases h
    · split at h
      · cases h
      · split at h
        · cases h
        · omega
theorem badI_ok {p b : List UInt8} (h : badI p b = 0) : prsI p b = rawI b ∧ 8 ≤ b.length := by
  refine ⟨by rw [prsI, if_pos h], ?_⟩
  unfold badI at h
  split at h
  · cases h
  · omega
theorem hlT_bd (b : List UInt8) : 0 ≤ hlT b ∧ hlT b ≤ 60 ∧ hlT b % 4 = 0 := by
  have := byt_lo b 12; have := byt_hi b 12; unfold hlT; omega
theorem rawT_len {b : List UInt8} (h1 : 20 ≤ hlT b) (h2 : hlT b ≤ (b.length : Int)) : (rawT b).opt.length = (hlT b).toNat - 20 ∧ (rawT b).dat.length = b.length - (hlT b).toNat := by
  have e : (b.take (hlT b).toNat).length = (hlT b).toNat := by rw [List.length_take]; omega
  exact ⟨by show ((b.take (hlT b).toNat).drop 20).length = _; rw [List.length_drop, e], by show (b.drop (hlT b).toNat).length = _; rw [List.length_drop]⟩
theorem rawU_arg (b : List UInt8) : argU (rawU b) := ⟨(n2_bd b 0).1, (n2_bd b 0).2, (n2_bd b 2).1, (n2_bd b 2).2⟩
theorem rawT_arg {b : List UInt8} (h1 : 20 ≤ hlT b) (h2 : hlT b ≤ (b.length : Int)) : argT (rawT b) := by
  have h3 := hlT_bd b
  have h4 := rawT_len h1 h2
  have a := byt_lo b 12; have b1 := byt_lo b 13; have b2 := byt_hi b 13
  have e1 : 0 ≤ (rawT b).res ∧ (rawT b).res ≤ 15 := by simp only [rawT]; omega
  exact ⟨(n2_bd b 0).1, (n2_bd b 0).2, (n2_bd b 2).1, (n2_bd b 2).2, (n2_bd b 14).1, (n2_bd b 14).2, (n2_bd b 18).1, (n2_bd b 18).2, (n4_bd b 4).1, (n4_bd b 4).2, (n4_bd b 8).1, (n4_bd b 8).2, e1.1, e1.2, b1, b2, by omega, by omega⟩
theorem rawI_arg (b : List UInt8) : argI (rawI b) := ⟨byt_lo b 0, byt_hi b 0, byt_lo b 1, byt_hi b 1, (n4_bd b 4).1, (n4_bd b 4).2⟩

theorem chkU_src {u : PU} {n : Int} (ha : argU u) (hn : isPt n) (hl : u.dat.length ≤ 65527) : chkU (srcU u n) = 0 := by
  obtain ⟨a1, a2, a3, a4⟩ := ha
  have hx : argU (srcU u n) := ⟨hn.1, hn.2, a3, a4⟩
  rw [chkU, if_pos hx, if_neg (by show ¬ u.dat.length > 65527; omega)]
theorem chkU_dst {u : PU} {n : Int} (ha : argU u) (hn : isPt n) (hl : u.dat.length ≤ 65527) : chkU (dstU u n) = 0 := by
  obtain ⟨a1, a2, a3, a4⟩ := ha
  have hx : argU (dstU u n) := ⟨a1, a2, hn.1, hn.2⟩
  rw [chkU, if_pos hx, if_neg (by show ¬ u.dat.length > 65527; omega)]
theorem chkT_src {u : PT} {n : Int} (ha : argT u) (hn : isPt n) (hl : sizeT u ≤ 65535) : chkT (srcT u n) = 0 := by
  obtain ⟨a1, a2, a3, a4, a5⟩ := ha
  have hx : argT (srcT u n) := ⟨hn.1, hn.2, a3, a4, a5⟩
  rw [chkT, if_pos hx, if_neg (by show ¬ sizeT u > 65535; omega)]
theorem chkT_dst {u : PT} {n : Int} (ha : argT u) (hn : isPt n) (hl : sizeT u ≤ 65535) : chkT (dstT u n) = 0 := by
  obtain ⟨a1, a2, a3, a4, a5⟩ := ha
  have hx : argT (dstT u n) := ⟨a1, a2, hn.1, hn.2, a5⟩
  rw [chkT, if_pos hx, if_neg (by show ¬ sizeT u > 65535; omega)]
theorem chkI_wd {q : PI} {n : Int} (ha : argI q) (hl : q.dat.length ≤ 65527) : chkI (wdI q n) = 0 := by
  obtain ⟨a1, a2, a3, a4, a5, a6⟩ := ha
  have hx : argI (wdI q n) := ⟨a1, a2, a3, a4, by simp only [wdI]; omega, by simp only [wdI]; omega⟩
  rw [chkI, if_pos hx, if_neg (by show ¬ q.dat.length > 65527; omega)]

/-- A packet that has ports: what it is. -/
theorem of_ok {p : P4} (h : ofE p = 0) : chk4 p = 0 ∧ whole4 p = true ∧
    ((p.proto = 17 ∧ badU p.src p.dst p.dat = 0) ∨ (p.proto = 6 ∧ badT p.src p.dst p.dat = 0) ∨ (p.proto = 1 ∧ badI [] p.dat = 0 ∧ qryI (inI p).typ = true)) := by
  unfold ofE at h
  split at h
  · rename_i hc; exact absurd h hc
  · rename_i hc
    have hc : chk4 p = 0 := by omega
    split at h
    · cases h
    · rename_i hw
      refine ⟨hc, by simpa using hw, ?_⟩
      split at h
      · rename_i hk; exact .inl ⟨hk, h⟩
      · split at h
        · rename_i hk; exact .inr (.inl ⟨hk, h⟩)
        · split at h
          · rename_i hk
            unfold icE at h
            split at h
            · rename_i hb; exact absurd h hb
            · rename_i hb
              split at h
              · rename_i hq; exact .inr (.inr ⟨hk, by omega, hq⟩)
              · cases h
          · cases h
theorem of_len {p : P4} (h : ofE p = 0) : p.dat.length ≤ 65515 := by
  obtain ⟨hc, _⟩ := of_ok h
  have := (chk4_ok hc).2.1
  unfold size4 head4 at this; omega
/-- What is built anew may be. -/
theorem fr_chk {p : P4} {n : Int} (h : ofE p = 0) (hn : isPt n) : (p.proto = 17 → chkU (srcU (inU p) n) = 0) ∧ (p.proto = 6 → chkT (srcT (inT p) n) = 0) ∧ (p.proto = 1 → chkI (wdI (inI p) n) = 0) := by
  have hl := of_len h
  obtain ⟨_, _, ho⟩ := of_ok h
  refine ⟨fun hk => ?_, fun hk => ?_, fun hk => ?_⟩
  · have hb : badU p.src p.dst p.dat = 0 := by rcases ho with ⟨_, h⟩ | ⟨h, _⟩ | ⟨h, _⟩ <;> first | exact h | omega
    rw [inU, (badU_ok hb).1]
    exact chkU_src (rawU_arg _) hn (by simp only [rawU, List.length_drop]; omega)
  · have hb : badT p.src p.dst p.dat = 0 := by rcases ho with ⟨h, _⟩ | ⟨_, h⟩ | ⟨h, _⟩ <;> first | exact h | omega
    obtain ⟨e, h1, h2, h3⟩ := badT_ok hb
    have h4 := rawT_len h1 h2
    rw [inT, e]
    exact chkT_src (rawT_arg h1 h2) hn (by unfold sizeT; omega)
  · have hb : badI [] p.dat = 0 := by rcases ho with ⟨h, _⟩ | ⟨h, _⟩ | ⟨_, h, _⟩ <;> first | exact h | omega
    rw [inI, (badI_ok hb).1]
    exact chkI_wd (rawI_arg _) (by simp only [rawI, List.length_drop]; omega)
theorem to_chk {p : P4} {n : Int} (h : ofE p = 0) (hn : isPt n) : (p.proto = 17 → chkU (dstU (inU p) n) = 0) ∧ (p.proto = 6 → chkT (dstT (inT p) n) = 0) ∧ (p.proto = 1 → chkI (wdI (inI p) n) = 0) := by
  have hl := of_len h
  obtain ⟨_, _, ho⟩ := of_ok h
  refine ⟨fun hk => ?_, fun hk => ?_, (fr_chk h hn).2.2⟩
  · have hb : badU p.src p.dst p.dat = 0 := by rcases ho with ⟨_, h⟩ | ⟨h, _⟩ | ⟨h, _⟩ <;> first | exact h | omega
    rw [inU, (badU_ok hb).1]
    exact chkU_dst (rawU_arg _) hn (by simp only [rawU, List.length_drop]; omega)
  · have hb : badT p.src p.dst p.dat = 0 := by rcases ho with ⟨h, _⟩ | ⟨_, h⟩ | ⟨h, _⟩ <;> first | exact h | omega
    obtain ⟨e, h1, h2, h3⟩ := badT_ok hb
    have h4 := rawT_len h1 h2
    rw [inT, e]
    exact chkT_dst (rawT_arg h1 h2) hn (by unfold sizeT; omega)
/-- How long data that are built anew are: as long as those that were. -/
theorem nw_len {p : P4} {s d : Int} {u : PU} {t : PT} {i : PI} (h : ofE p = 0) (hu : u.dat.length = (inU p).dat.length) (ho : t.opt.length = (inT p).opt.length) (ht : t.dat.length = (inT p).dat.length) (hi : i.dat.length = (inI p).dat.length) :
    (nwD p.proto s d u t i).length = p.dat.length := by
  obtain ⟨_, _, hh⟩ := of_ok h
  unfold nwD
  rcases hh with ⟨hk, hb⟩ | ⟨hk, hb⟩ | ⟨hk, hb, _⟩
  · rw [if_pos hk, bldU_len, hu, inU, (badU_ok hb).1]
    have := (badU_ok hb).2
    simp only [rawU, List.length_drop]; omega
  · obtain ⟨e, h1, h2, h3⟩ := badT_ok hb
    have h4 := rawT_len h1 h2
    rw [if_neg (by omega), if_pos hk, bldT_len, ho, ht, inT, e]; omega
  · rw [if_neg (by omega), if_neg (by omega), bldI_len, hi, inI, (badI_ok hb).1]
    have := (badI_ok hb).2
    simp only [rawI, List.length_drop]; omega
theorem chk4_same {p q : P4} (h : chk4 p = 0) (e1 : q.tos = p.tos) (e2 : q.id = p.id) (e3 : q.off = p.off) (e4 : q.ttl = p.ttl) (e5 : q.proto = p.proto) (e6 : q.mf = p.mf) (e7 : q.opt.length = p.opt.length) (e8 : q.dat.length = p.dat.length) (hs : isAd q.src) (hd : isAd q.dst) : chk4 q = 0 := by
  obtain ⟨⟨a1, a2, a3, a4, a5, a6, a7, a8, _, _, _, _, a9, a10, a11, a12, a13, a14⟩, h1, h2⟩ := chk4_ok h
  have hq : arg4 q := by
    unfold arg4
    rw [e1, e2, e3, e4, e5, e6, e7, e8]
    exact ⟨a1, a2, a3, a4, a5, a6, a7, a8, hs.1, hs.2, hd.1, hd.2, a9, a10, a11, a12, a13, a14⟩
  have e : size4 q = size4 p := by unfold size4 head4; rw [e7, e8]
  rw [chk4, if_pos hq, e, e3, e8, if_neg (by omega)]
theorem of_ad {p : P4} (h : chk4 p = 0) : isAd p.src ∧ isAd p.dst := by
  obtain ⟨⟨_, _, _, _, _, _, _, _, a1, a2, a3, a4, _⟩, _⟩ := chk4_ok h
  exact ⟨⟨a1, a2⟩, a3, a4⟩
/-- May a packet be whose address is another one? -/
theorem chk4_ad {p q : P4} (h : chk4 p = 0) (e1 : q.tos = p.tos) (e2 : q.id = p.id) (e3 : q.off = p.off) (e4 : q.ttl = p.ttl) (e5 : q.proto = p.proto) (e6 : q.mf = p.mf) (e7 : q.opt.length = p.opt.length) (e8 : q.dat.length = p.dat.length) : (chk4 q = 0) ↔ (isAd q.src ∧ isAd q.dst) :=
  ⟨fun h => of_ad h, fun ⟨a, b⟩ => chk4_same h e1 e2 e3 e4 e5 e6 e7 e8 a b⟩
/-- What is told of a packet that was built anew. -/
theorem nw_of {p : P4} {s d : Int} {u : PU} {t : PT} {i : PI} (h : ofE p = 0) (hs : isAd s) (hd : isAd d) (hu : u.dat.length = (inU p).dat.length) (ho : t.opt.length = (inT p).opt.length) (ht : t.dat.length = (inT p).dat.length) (hi : i.dat.length = (inI p).dat.length) (hty : i.typ = (inI p).typ)
    (hcu : p.proto = 17 → chkU u = 0) (hct : p.proto = 6 → chkT t = 0) (hci : p.proto = 1 → chkI i = 0) :
    ofE (nwP p s d u t i) = 0 ∧ (p.proto = 17 → inU (nwP p s d u t i) = u) ∧ (p.proto = 6 → inT (nwP p s d u t i) = t) ∧ (p.proto = 1 → inI (nwP p s d u t i) = i) := by
  have hl := nw_len (s := s) (d := d) h hu ho ht hi
  obtain ⟨hc, hw, hh⟩ := of_ok h
  have c1 : chk4 (nwP p s d u t i) = 0 := chk4_same hc rfl rfl rfl rfl rfl rfl rfl hl hs hd
  have w1 : whole4 (nwP p s d u t i) = true := hw
  have k1 : (nwP p s d u t i).proto = p.proto := rfl
  have d1 : (nwP p s d u t i).dat = nwD p.proto s d u t i := rfl
  have s1 : (nwP p s d u t i).src = s := rfl
  have t1 : (nwP p s d u t i).dst = d := rfl
  rw [ofE, if_neg (by omega), if_neg (by rw [w1]; decide), k1, inU, inT, inI, d1, s1, t1]
  rcases hh with ⟨hk, hb⟩ | ⟨hk, hb⟩ | ⟨hk, hb, hq⟩
  · have e : nwD p.proto s d u t i = bldU s d u := if_pos hk
    have k := backU (src := s) (dst := d) (hcu hk)
    rw [if_pos hk, e]
    exact ⟨k.1, fun _ => k.2, fun h => by omega, fun h => by omega⟩
  · have e : nwD p.proto s d u t i = bldT s d t := by rw [nwD, if_neg (by omega), if_pos hk]
    have k := backT (src := s) (dst := d) (hct hk)
    rw [if_neg (by omega), if_pos hk, e]
    exact ⟨k.1, fun h => by omega, fun _ => k.2, fun h => by omega⟩
  · have e : nwD p.proto s d u t i = bldI [] i := by rw [nwD, if_neg (by omega), if_neg (by omega)]
    have k := backI (p := []) (hci hk)
    rw [if_neg (by omega), if_neg (by omega), if_pos hk, e, icE, if_neg (by rw [k.1]; simp), k.2, if_pos (by rw [hty]; exact hq)]
    exact ⟨rfl, fun h => by omega, fun h => by omega, fun _ => rfl⟩
theorem may_ok {p : P4} {a n : Int} (h : mayE p a n = 0) : ofE p = 0 ∧ isAd a ∧ isPt n := by
  unfold mayE at h
  split at h
  · rename_i hc; exact absurd h hc
  · rename_i hc
    split at h
    · rename_i hx; exact ⟨by omega, hx⟩
    · cases h
theorem id_wd (q : PI) {n : Int} (h : isPt n) : idI (wdI q n) = n := by
  obtain ⟨h0, h1⟩ := h
  simp only [idI, wdI]; omega
/-- From another endpoint, to another endpoint: the ports, and what stays. -/
theorem fr_take {p : P4} {a n : Int} (h : mayE p a n = 0) : ofE (frP p a n) = 0 ∧ ptS (frP p a n) = n ∧ (p.proto ≠ 1 → ptD (frP p a n) = ptD p) ∧ (frP p a n).dat.length = p.dat.length := by
  obtain ⟨h0, ha, hn⟩ := may_ok h
  obtain ⟨hc, _, hh⟩ := of_ok h0
  have hf := fr_chk h0 hn
  obtain ⟨k0, k1, k2, k3⟩ := nw_of (s := a) (d := p.dst) (u := srcU (inU p) n) (t := srcT (inT p) n) (i := wdI (inI p) n) h0 ha (of_ad hc).2 rfl rfl rfl rfl rfl hf.1 hf.2.1 hf.2.2
  refine ⟨k0, ?_, ?_, nw_len h0 rfl rfl rfl rfl⟩
  · have k : (frP p a n).proto = p.proto := rfl
    rw [ptS, k]
    rcases hh with ⟨hk, _⟩ | ⟨hk, _⟩ | ⟨hk, _⟩
    · rw [if_pos hk]; show (inU (nwP ..)).src = n; rw [k1 hk]; rfl
    · rw [if_neg (by omega), if_pos hk]; show (inT (nwP ..)).src = n; rw [k2 hk]; rfl
    · rw [if_neg (by omega), if_neg (by omega)]; show idI (inI (nwP ..)) = n; rw [k3 hk]; exact id_wd _ hn
  · intro h1
    have k : (frP p a n).proto = p.proto := rfl
    rw [ptD, ptD, k]
    rcases hh with ⟨hk, _⟩ | ⟨hk, _⟩ | ⟨hk, _⟩
    · rw [if_pos hk, if_pos hk]; show (inU (nwP ..)).dst = _; rw [k1 hk]; rfl
    · rw [if_neg (by omega), if_pos hk, if_neg (by omega), if_pos hk]; show (inT (nwP ..)).dst = _; rw [k2 hk]; rfl
    · exact absurd hk h1
theorem to_take {p : P4} {a n : Int} (h : mayE p a n = 0) : ofE (toP p a n) = 0 ∧ ptD (toP p a n) = n ∧ (p.proto ≠ 1 → ptS (toP p a n) = ptS p) ∧ (toP p a n).dat.length = p.dat.length := by
  obtain ⟨h0, ha, hn⟩ := may_ok h
  obtain ⟨hc, _, hh⟩ := of_ok h0
  have hf := to_chk h0 hn
  obtain ⟨k0, k1, k2, k3⟩ := nw_of (s := p.src) (d := a) (u := dstU (inU p) n) (t := dstT (inT p) n) (i := wdI (inI p) n) h0 (of_ad hc).1 ha rfl rfl rfl rfl rfl hf.1 hf.2.1 hf.2.2
  refine ⟨k0, ?_, ?_, nw_len h0 rfl rfl rfl rfl⟩
  · have k : (toP p a n).proto = p.proto := rfl
    rw [ptD, k]
    rcases hh with ⟨hk, _⟩ | ⟨hk, _⟩ | ⟨hk, _⟩
    · rw [if_pos hk]; show (inU (nwP ..)).dst = n; rw [k1 hk]; rfl
    · rw [if_neg (by omega), if_pos hk]; show (inT (nwP ..)).dst = n; rw [k2 hk]; rfl
    · rw [if_neg (by omega), if_neg (by omega)]; show idI (inI (nwP ..)) = n; rw [k3 hk]; exact id_wd _ hn
  · intro h1
    have k : (toP p a n).proto = p.proto := rfl
    rw [ptS, ptS, k]
    rcases hh with ⟨hk, _⟩ | ⟨hk, _⟩ | ⟨hk, _⟩
    · rw [if_pos hk, if_pos hk]; show (inU (nwP ..)).src = _; rw [k1 hk]; rfl
    · rw [if_neg (by omega), if_pos hk, if_neg (by omega), if_pos hk]; show (inT (nwP ..)).src = _; rw [k2 hk]; rfl
    · exact absurd hk h1
end Go.Proofs.YtodlfdnegcfhcaaGreat

/-
  Segments whose greatest size is held, and packets of them, in plain lists of bytes. No program. Conditions are each theorem's own.
-/
namespace Go.Proofs.YtodlfdnegcfhcaaGreat
open Go.RowKit

/-- A greatest size set in the place of another one. -/
def setO (o : List UInt8) (a : Nat) (n : Int) : List UInt8 := (o.set (a + 2) (u8 (n / 256))).set (a + 3) (u8 n)
theorem setO_len (o : List UInt8) (a : Nat) (n : Int) : (setO o a n).length = o.length := by simp [setO]
theorem byt_set (l : List UInt8) (i j : Nat) (v : UInt8) : byt (l.set i v) j = if i = j ∧ j < l.length then (v.toNat : Int) else byt l j := by
  unfold byt
  by_cases h : i = j
  · subst h
    by_cases hl : i < l.length
    · simp [hl]
    · simp [hl]
  · rw [if_neg (fun e => h e.1), List.getElem?_set_ne h]
theorem byt_setO_lo {o : List UInt8} {a x : Nat} {n : Int} (h : x < a + 2) : byt (setO o a n) x = byt o x := by
  rw [setO, byt_set, if_neg (fun e => by omega), byt_set, if_neg (fun e => by omega)]
theorem n2_setO {o : List UInt8} {a : Nat} {n : Int} (h : a + 4 ≤ o.length) (h0 : 0 ≤ n) (h1 : n ≤ 65535) : n2 (setO o a n) (a + 2) = n := by
  unfold n2
  rw [setO, byt_set, if_neg (fun e => by omega), byt_set, if_pos ⟨rfl, by omega⟩, byt_set, if_pos ⟨by omega, by simp; omega⟩, u8_val, u8_val]
  omega
theorem plc_ge (b : List UInt8) : ∀ (f x a : Nat), (plc b f x).find? (mssB b) = some a → x ≤ a
  | 0, x, a, h => by simp [plc] at h
  | f + 1, x, a, h => by
    rw [plc] at h
    by_cases h0 : optL b x = 0
    · rw [if_pos h0] at h; cases h
    · rw [if_neg h0, List.find?_cons] at h
      cases hm : mssB b x
      · rw [hm] at h
        by_cases hz : byt b x = 0
        · rw [if_pos hz] at h; cases h
        · rw [if_neg hz] at h
          have := plc_ge b f _ a h
          omega
      · rw [hm] at h; cases h; omega
theorem find_set (b : List UInt8) (n : Int) : ∀ (f x a : Nat), (plc b f x).find? (mssB b) = some a → (plc (setO b a n) f x).find? (mssB (setO b a n)) = some a
  | 0, x, a, h => by simp [plc] at h
  | f + 1, x, a, h => by
    have hx := plc_ge b (f + 1) x a h
    have e0 : byt (setO b a n) x = byt b x := byt_setO_lo (by omega)
    have e1 : byt (setO b a n) (x + 1) = byt b (x + 1) := byt_setO_lo (by omega)
    have el : optL (setO b a n) x = optL b x := by unfold optL; rw [e0, e1, setO_len]
    have em : mssB (setO b a n) x = mssB b x := by unfold mssB; rw [e0, el]
    rw [plc] at h ⊢
    by_cases h0 : optL b x = 0
    · rw [if_pos h0] at h; cases h
    · rw [if_neg h0, List.find?_cons] at h
      rw [el, if_neg h0, List.find?_cons, em, e0]
      cases hm : mssB b x
      · rw [hm] at h
        by_cases hz : byt b x = 0
        · rw [if_pos hz] at h; cases h
        · rw [if_neg hz] at h
          rw [if_neg hz]
          exact find_set b n f _ a h
      · rw [hm] at h; exact h
theorem mssT_set {b : List UInt8} {a : Nat} {n : Int} (h : mssT b = some a) : mssT (setO b a n) = some a := by
  unfold mssT places at *
  rw [setO_len]; exact find_set b n _ _ a h
theorem mssT_room {b : List UInt8} {a : Nat} (h : mssT b = some a) : a + 4 ≤ b.length := by
  have hm : mssB b a = true := List.find?_some h
  have h4 : optL b a = 4 := by unfold mssB at hm; rw [Bool.and_eq_true, decide_eq_true_iff, decide_eq_true_iff] at hm; exact hm.2
  have := optL_le (b := b) (at_ := a) (by omega)
  omega
theorem mss_some {b : List UInt8} (h : mssK b = true) : ∃ a, mssT b = some a ∧ mssN b = n2 b (a + 2) ∧ mssA b = (a : Int) := by
  unfold mssK at h
  obtain ⟨a, ha⟩ := Option.isSome_iff_exists.1 h
  exact ⟨a, ha, by rw [mssN, ha], by rw [mssA, ha]⟩
theorem mss_none {b : List UInt8} (h : mssK b = false) : mssN b = 0 ∧ mssA b = 0 := by
  have h0 : mssT b = none := by unfold mssK at h; cases hb : mssT b with | none => rfl | some a => rw [hb] at h; cases h
  exact ⟨by rw [mssN, h0], by rw [mssA, h0]⟩
/-- Is the greatest size held? -/
def sgC (f : Int) (o : List UInt8) (most : Int) : Prop := bits .and .i64 f 2 ≠ 0 ∧ 0 ≤ most ∧ most ≤ 65535 ∧ mssK o = true ∧ most < mssN o
instance (f : Int) (o : List UInt8) (most : Int) : Decidable (sgC f o most) := by unfold sgC; infer_instance
def sgO (f : Int) (o : List UInt8) (most : Int) : List UInt8 := if sgC f o most then setO o (mssA o).toNat most else o
def sgT (t : PT) (most : Int) : PT := ⟨t.src, t.dst, t.seq, t.ack, t.res, t.flags, t.win, t.urg, sgO t.flags t.opt most, t.dat⟩
theorem sgO_len (f : Int) (o : List UInt8) (most : Int) : (sgO f o most).length = o.length := by
  unfold sgO; split
  · exact setO_len _ _ _
  · rfl
theorem sgO_mss (f : Int) (o : List UInt8) (most : Int) : mssK (sgO f o most) = mssK o ∧ mssA (sgO f o most) = mssA o ∧ mssN (sgO f o most) = if sgC f o most then most else mssN o := by
  unfold sgO
  by_cases h : sgC f o most
  · rw [if_pos h, if_pos h]
    obtain ⟨_, h0, h1, hk, _⟩ := h
    obtain ⟨a, ha, _, hA⟩ := mss_some hk
    have e : (mssA o).toNat = a := by rw [hA]; omega
    rw [e]
    have hs := mssT_set (n := most) ha
    refine ⟨by rw [mssK, hs, hk]; rfl, by rw [mssA, hs, hA], by rw [mssN, hs]; exact n2_setO (mssT_room ha) h0 h1⟩
  · rw [if_neg h, if_neg h]; exact ⟨rfl, rfl, rfl⟩
theorem sgO_twice (f : Int) (o : List UInt8) (most : Int) : sgO f (sgO f o most) most = sgO f o most := by
  have h := sgO_mss f o most
  have hn : ¬ sgC f (sgO f o most) most := by
    rintro ⟨h0, h1, h2, h3, h4⟩
    rw [h.2.2] at h4
    split at h4
    · omega
    · rename_i hc
      exact hc ⟨h0, h1, h2, h.1 ▸ h3, h4⟩
  rw [sgO, if_neg hn]
theorem sgT_twice (t : PT) (most : Int) : sgT (sgT t most) most = sgT t most := by
  simp only [sgT, sgO_twice]
theorem chkT_sg {t : PT} {most : Int} (h : chkT t = 0) : chkT (sgT t most) = 0 := by
  obtain ⟨⟨a1, a2, a3, a4, a5, a6, a7, a8, a9, a10, a11, a12, a13, a14, a15, a16, a17, a18⟩, hs⟩ := chkT_ok h
  have hl := sgO_len t.flags t.opt most
  have hx : argT (sgT t most) := ⟨a1, a2, a3, a4, a5, a6, a7, a8, a9, a10, a11, a12, a13, a14, a15, a16, by show (sgO t.flags t.opt most).length ≤ 40; rw [hl]; exact a17, by show (sgO t.flags t.opt most).length % 4 = 0; rw [hl]; exact a18⟩
  have e : sizeT (sgT t most) = sizeT t := by show 20 + ((sgO t.flags t.opt most).length : Int) + _ = _; rw [hl]; rfl
  rw [chkT, if_pos hx, e, if_neg (by omega)]
theorem inT_chk {p : P4} (h : ofE p = 0) (hk : p.proto = 6) : chkT (inT p) = 0 := by
  have hl := of_len h
  obtain ⟨_, _, ho⟩ := of_ok h
  have hb : badT p.src p.dst p.dat = 0 := by rcases ho with ⟨h, _⟩ | ⟨_, h⟩ | ⟨h, _⟩ <;> first | exact h | omega
  obtain ⟨e, h1, h2, h3⟩ := badT_ok hb
  have h4 := rawT_len h1 h2
  rw [inT, e, chkT, if_pos (rawT_arg h1 h2), if_neg (by unfold sizeT; omega)]
/-- A packet whose segment's greatest size is held. -/
def pkP (p : P4) (most : Int) : P4 := if ofE p = 0 ∧ p.proto = 6 then nwP p p.src p.dst (inU p) (sgT (inT p) most) (inI p) else p
theorem pk_of (p : P4) (most : Int) : ofE (pkP p most) = ofE p ∧ (pkP p most).proto = p.proto ∧ ptS (pkP p most) = ptS p ∧ ptD (pkP p most) = ptD p ∧ (pkP p most).dat.length = p.dat.length ∧ pkP (pkP p most) most = pkP p most := by
  by_cases h : ofE p = 0 ∧ p.proto = 6
  · obtain ⟨h0, hk⟩ := h
    obtain ⟨hc, _, _⟩ := of_ok h0
    have e : pkP p most = nwP p p.src p.dst (inU p) (sgT (inT p) most) (inI p) := if_pos ⟨h0, hk⟩
    have hd := nw_len (s := p.src) (d := p.dst) (u := inU p) (t := sgT (inT p) most) (i := inI p) h0 rfl (sgO_len _ _ _) rfl rfl
    obtain ⟨k0, _, k2, _⟩ := nw_of (s := p.src) (d := p.dst) (u := inU p) (t := sgT (inT p) most) (i := inI p) h0 (of_ad hc).1 (of_ad hc).2 rfl (sgO_len _ _ _) rfl rfl rfl (fun h => by omega) (fun _ => chkT_sg (inT_chk h0 hk)) (fun h => by omega)
    have k2 := k2 hk
    rw [← e] at k0 k2
    have kp : (pkP p most).proto = p.proto := by rw [e]; rfl
    refine ⟨by rw [k0, h0], kp, ?_, ?_, by rw [e]; exact hd, ?_⟩
    · rw [ptS, ptS, kp, if_neg (by omega), if_pos hk, if_neg (by omega), if_pos hk, k2]; rfl
    · rw [ptD, ptD, kp, if_neg (by omega), if_pos hk, if_neg (by omega), if_pos hk, k2]; rfl
    · have e2 : pkP (pkP p most) most = nwP (pkP p most) (pkP p most).src (pkP p most).dst (inU (pkP p most)) (sgT (inT (pkP p most)) most) (inI (pkP p most)) := if_pos ⟨k0, by rw [kp]; exact hk⟩
      rw [e2, k2, sgT_twice, e]
      have hd6 : ∀ u i u' i', nwD p.proto p.src p.dst u (sgT (inT p) most) i = nwD p.proto p.src p.dst u' (sgT (inT p) most) i' := fun u i u' i' => by
        rw [nwD, if_neg (by omega), if_pos hk, nwD, if_neg (by omega), if_pos hk]
      simp only [nwP]
      rw [hd6 _ _ (inU p) (inI p)]
  · have e : pkP p most = p := if_neg h
    rw [e, e]; exact ⟨rfl, rfl, rfl, rfl, rfl, rfl⟩
theorem pk_rest (p : P4) (most : Int) : (⟨(pkP p most).tos, (pkP p most).id, (pkP p most).off, (pkP p most).ttl, (pkP p most).proto, (pkP p most).src, (pkP p most).dst, (pkP p most).df, (pkP p most).mf, (pkP p most).opt, p.dat⟩ : P4) = p := by
  unfold pkP
  split <;> rfl
theorem pk_opt (p : P4) (most : Int) : (pkP p most).opt = p.opt := by
  unfold pkP
  split <;> rfl
end Go.Proofs.YtodlfdnegcfhcaaGreat
