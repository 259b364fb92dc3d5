/-
  Contracts and lemmas on which the proofs of this seat stand (several texts in one). Conditions are each theorem's own.
-/
import Derived.Test.YtodlfdnegcfhcaaNb1
import Derived.WalkMore
import Derived.Test.YtodlfdnegcfhcaaNa5
import Derived.Test.YtodlfdnegcfhcaaNa6

/-
  Contracts of tcp's reader and readHead. Conditions are each theorem's own.
-/
namespace Go.Proofs.Ytodlfdnegcfhcaa
open Go.RowKit

theorem cTreader (A : Option Addr) (n c : Nat) (w : World) :
    Calls Try.prog 48 #[.slice A n c] w fun e w' => e = .returned (.func (.func 64) #[] #[.pointer (some ⟨w.heap.size, 0, none⟩), .pointer (some ⟨w.heap.size + 1, 0, none⟩)]) ∧ RdrS w' w.heap.size A n c 0 ∧ Below w.heap.size w w' ∧ w'.heap.size = w.heap.size + 2 := by
  have hst : RdrS ((w.alloc (.cells #[.slice A n c] 22)).alloc (.cells #[.int .i64 0] 3)) w.heap.size A n c 0 := by
    refine ⟨(Below.heap_alloc (w.alloc (.cells #[.slice A n c] 22)) _ w.heap.size (by simp)).trans (World.alloc_heap_new w _), ?_⟩
    have := World.alloc_heap_new (w.alloc (.cells #[.slice A n c] 22)) (.cells #[.int .i64 0] 3)
    rwa [World.size_alloc] at this
  have hbb : Below w.heap.size w ((w.alloc (.cells #[.slice A n c] 22)).alloc (.cells #[.int .i64 0] 3)) := ((Below.refl _ w).alloc (Nat.le_refl _) _).alloc (by simp) _
  have hmf : ∀ (fn : Fn) (first cap : Array Value) (w : World), (Instr.makeFunc fn first cap).run Try.prog w = .ok (.func fn first cap) w := fun _ _ _ _ => rfl
  go_enter Try.func48, Try.ntmps48
  go_wp2_with fail
  go_ret
  exact ⟨rfl, hst, hbb, by simp⟩
theorem cTnext (g : Nat) (A : Option Addr) (b : List UInt8) (c B : Nat) (k s : Int) (w : World) (hst : RdrS w g A b.length c k) (hR : Rd w B A b) (hl : b.length ≤ 1000000) (hc : b.length ≤ c) (hk : 0 ≤ k ∧ k ≤ 1000000) (hs : 0 ≤ s ∧ s ≤ 1000000) :
    Calls Try.prog 64 #[.int .i64 s, .pointer (some ⟨g, 0, none⟩), .pointer (some ⟨g + 1, 0, none⟩)] w fun e w' => e = .returned (.int .i64 (getV b k s)) ∧ RdrS w' g A b.length c (k + s) ∧ w.grownBy w' (some (g + 1)) := by
  obtain ⟨hst1, hst2⟩ := hst
  have k1 : w.cell? ⟨g, 0, none⟩ = some (.slice A b.length c) := by rw [cell_of_row w g 0 _ _ _ hst1]; rfl
  have k2 : w.cell? ⟨g + 1, 0, none⟩ = some (.int .i64 k) := by rw [cell_of_row w (g + 1) 0 _ _ _ hst2]; rfl
  have f2 := heap_frozen hst2 0
  have hw := IntWalk.i64_in (k + s) (by omega)
  go_enter Try.func64, Try.ntmps64
  go_wp2_with (go_at_call 19; refine (get_any A b c B k s _ hR (by omega) hc).mono ?_; rintro e w' ⟨rfl, rfl⟩)
  go_ret
  exact ⟨rfl, ⟨(heap_setCell_other w ⟨g + 1, 0, none⟩ g _ (by show g ≠ g + 1; omega)).trans hst1, heap_setCell_same w (g + 1) 0 _ _ (.int .i64 (k + s)) hst2⟩, grown_set (World.grownBy.refl w _) 0 _⟩
/-- What holds while a head is read: the reader at g, the segment that is filled in block U, the bytes, the block for the result. -/
structure TS (w V : World) (g U B : Nat) (A : Option Addr) (c : Nat) (b : List UInt8) (k : Int) (q : PT) : Prop where
  st : RdrS V g A b.length c k
  hU : V.heap[U]? = some (.cells (tsa q none 0 none 0) 37 (0, 0))
  rd : Rd V B A b
  res : V.heap[w.heap.size]? = some (.cells (tsa tsz none 0 none 0) 37 (0, 0))
  bel : Below w.heap.size w V
section
variable {w V V' : World} {g U B : Nat} {A : Option Addr} {c : Nat} {b : List UInt8} {k k' : Int} {q q' : PT} {i : Nat} {v : Value}
theorem TS.step (h : TS w V g U B A c b k q) (st : RdrS V' g A b.length c k') (y : V.grownBy V' (some (g + 1))) (hg : w.heap.size < g) (hU : g + 1 < U) (hB : B ≤ w.heap.size) : TS w V' g U B A c b k' q :=
  ⟨st, (y.block U (heap_lt h.hU) (by simp; omega)).trans h.hU, h.rd.grown y (by have := h.bel.size; omega) (fun k e => by cases e; omega),
    (y.block w.heap.size (heap_lt h.res) (by simp; omega)).trans h.res, h.bel.grown y h.bel.size (fun k e => by cases e; omega)⟩
theorem TS.set (h : TS w V g U B A c b k q) (hg : w.heap.size < g) (hU : g + 1 < U) (hB : B ≤ w.heap.size) (hv : (tsa q none 0 none 0).setIfInBounds i v = tsa q' none 0 none 0) : TS w (V.setCell ⟨U, i, none⟩ v) g U B A c b k q' :=
  ⟨⟨(heap_setCell_other V ⟨U, i, none⟩ g v (by show g ≠ U; omega)).trans h.st.1, (heap_setCell_other V ⟨U, i, none⟩ (g + 1) v (by show g + 1 ≠ U; omega)).trans h.st.2⟩,
    by have := heap_setCell_same V U i _ _ v h.hU; rwa [hv] at this,
    h.rd.keep fun p hp => World.cell?_of_block (heap_setCell_other V ⟨U, i, none⟩ p.block v (by show p.block ≠ U; omega)),
    (heap_setCell_other V ⟨U, i, none⟩ w.heap.size v (by show w.heap.size ≠ U; omega)).trans h.res,
    h.bel.setCell (p := ⟨U, i, none⟩) (by show w.heap.size ≤ U; omega) v⟩
theorem TS.cell (h : TS w V g U B A c b k q) (hv : (tsa q none 0 none 0)[i]? = some v) : V.cell? ⟨U, i, none⟩ = some v := by rw [cell_of_row V U i _ _ _ h.hU]; exact hv
theorem TS.frozen (h : TS w V g U B A c b k q) (i : Nat) : V.frozen? ⟨U, i, none⟩ = false := heap_frozen h.hU i
end
def headT (b : List UInt8) : PT := ⟨n2 b 0, n2 b 2, n4 b 4, n4 b 8, byt b 12 % 16, byt b 13, n2 b 14, n2 b 18, [], []⟩
set_option maxRecDepth 100000 in
set_option maxHeartbeats 4000000 in
theorem cTread (b : List UInt8) (A : Option Addr) (c B : Nat) (w : World) (hR : Arg w B A c b) (hB : B ≤ w.heap.size) (h20 : 20 ≤ b.length) (hl : b.length ≤ 1000000) :
    Calls Try.prog 25 #[.slice A b.length c] w fun e w' => e = .returned (.tuple #[tsv (headT b) none 0 none 0, .int .i64 (hlT b)]) ∧ Below w.heap.size w w' := by
  have hBW : Below w.heap.size w (w.alloc (.cells (tsa tsz none 0 none 0) 37)) := (Below.refl w.heap.size w).alloc (Nat.le_refl _) _
  have hg := World.alloc_heap_new w (.cells (tsa tsz none 0 none 0) 37)
  have hz : w.heap.size < (w.alloc (.cells (tsa tsz none 0 none 0) 37)).heap.size := by simp
  have hcap := hR.cap
  have G0 := Lib.hid (show getV b 0 2 = n2 b 0 from get_two (b := b) (i := 0) (by omega))
  have G2 := Lib.hid (show getV b 2 2 = n2 b 2 from get_two (b := b) (i := 2) (by omega))
  have G4 := Lib.hid (show getV b 4 4 = n4 b 4 from get_four (b := b) (i := 4) (by omega))
  have G8 := Lib.hid (show getV b 8 4 = n4 b 8 from get_four (b := b) (i := 8) (by omega))
  have G12 := Lib.hid (show getV b 12 1 = byt b 12 from get_one (b := b) (i := 12) (by omega))
  have G13 := Lib.hid (show getV b 13 1 = byt b 13 from get_one (b := b) (i := 13) (by omega))
  have G14 := Lib.hid (show getV b 14 2 = n2 b 14 from get_two (b := b) (i := 14) (by omega))
  have G16 := Lib.hid (show getV b 16 2 = n2 b 16 from get_two (b := b) (i := 16) (by omega))
  have G18 := Lib.hid (show getV b 18 2 = n2 b 18 from get_two (b := b) (i := 18) (by omega))
  have l0 := byt_lo b 12; have l1 := byt_hi b 12
  obtain ⟨X0, e0⟩ : ∃ n, n = n2 b 0 := ⟨_, rfl⟩
  obtain ⟨X2, e2⟩ : ∃ n, n = n2 b 2 := ⟨_, rfl⟩
  obtain ⟨X4, e4⟩ : ∃ n, n = n4 b 4 := ⟨_, rfl⟩
  obtain ⟨X8, e8⟩ : ∃ n, n = n4 b 8 := ⟨_, rfl⟩
  obtain ⟨X12, e12⟩ : ∃ n, n = byt b 12 := ⟨_, rfl⟩
  obtain ⟨X13, e13⟩ : ∃ n, n = byt b 13 := ⟨_, rfl⟩
  obtain ⟨X14, e14⟩ : ∃ n, n = n2 b 14 := ⟨_, rfl⟩
  obtain ⟨X18, e18⟩ : ∃ n, n = n2 b 18 := ⟨_, rfl⟩
  have HH := Lib.hid (show headT b = ⟨X0, X2, X4, X8, X12 % 16, X13, X14, X18, [], []⟩ by rw [e0, e2, e4, e8, e12, e13, e14, e18]; rfl)
  have HL := Lib.hid (show hlT b = X12 / 16 * 4 by rw [e12]; rfl)
  rw [← e0] at G0; rw [← e2] at G2; rw [← e4] at G4; rw [← e8] at G8; rw [← e12] at G12 l0 l1; rw [← e13] at G13; rw [← e14] at G14; rw [← e18] at G18
  clear e0 e2 e4 e8 e12 e13 e14 e18
  rw [HH.out, HL.out]
  go_enter Try.func25, Try.ntmps25
  go_upto_region 1 with fail
  rw [show #[.int .i64 0, .int .i64 0, .int .i64 0, .int .i64 0, .int .i64 0, .int .i64 0, .int .i64 0, .int .i64 0, .slice none 0 0, .slice none 0 0] = tsa tsz none 0 none 0 from rfl]
  generalize w.alloc (.cells (tsa tsz none 0 none 0) 37) = W at *
  have hR1 := hR.below (hBW.mono hB)
  go_upto_region 2 with (go_at_call 48; refine (cTreader A b.length c _).mono ?_; rintro e w1 ⟨rfl, st1, x1, z1'⟩; have z1 := Nat.le_of_eq z1'.symm; clear z1')
  obtain ⟨w1g, hw1g⟩ : ∃ g, g = W.heap.size := ⟨_, rfl⟩
  rw [← hw1g] at st1 z1 ⊢
  have hgw : w.heap.size < w1g := by omega
  have hR2 := (hR1.below (x1.mono (by omega))).rd
  have hres1 := (x1.block w.heap.size (by omega)).trans hg
  have hbel1 := hBW.trans (x1.mono (by omega))
  clear x1 hR1 hg hBW hz hw1g
  go_upto_region 3 with (first
    | (go_at_call 64; ((with_reducible refine (cTnext w1g A b c B 0 2 _ st1 hR2 hl hcap (by omega) (by omega)).mono ?_); rintro e w2 ⟨rfl, st2, y2⟩; rw [show getV b 0 2 = X0 from G0.out]; have hR3 := hR2.grown y2 (by omega) (fun k e => by cases e; omega); have st2 : RdrS w2 w1g A b.length c 2 := st2; have z2 := y2.size))
    | (go_at_call 64; ((with_reducible refine (cTnext w1g A b c B 2 2 _ st2 hR3 hl hcap (by omega) (by omega)).mono ?_); rintro e w3 ⟨rfl, st3, y3⟩; rw [show getV b 2 2 = X2 from G2.out]; have hR4 := hR3.grown y3 (by omega) (fun k e => by cases e; omega); have st3 : RdrS w3 w1g A b.length c 4 := st3; have z3 := y3.size))
    | (go_at_call 64; ((with_reducible refine (cTnext w1g A b c B 4 4 _ st3 hR4 hl hcap (by omega) (by omega)).mono ?_); rintro e w4 ⟨rfl, st4, y4⟩; rw [show getV b 4 4 = X4 from G4.out]; have hR5 := hR4.grown y4 (by omega) (fun k e => by cases e; omega); have st4 : RdrS w4 w1g A b.length c 8 := st4; have z4 := y4.size))
    | (go_at_call 64; ((with_reducible refine (cTnext w1g A b c B 8 4 _ st4 hR5 hl hcap (by omega) (by omega)).mono ?_); rintro e w5 ⟨rfl, st5, y5⟩; rw [show getV b 8 4 = X8 from G8.out]; have hR6 := hR5.grown y5 (by omega) (fun k e => by cases e; omega); have st5 : RdrS w5 w1g A b.length c 12 := st5; have z5 := y5.size))
    | ((with_reducible show wpList _ _ _ (Oper.mk _ (Op.store _ _ _) _ _ _ _ :: _) _ _); refine ts_store_new (cs := tsa ⟨X0, X2, X4, X8, 0, 0, 0, 0, [], []⟩ none 0 none 0) rfl rfl rfl rfl (ts_one _ _ _ _ _) ?_))
  have tsV : TS w (w5.alloc (.cells (tsa ⟨X0, X2, X4, X8, 0, 0, 0, 0, [], []⟩ none 0 none 0) 37)) w1g w5.heap.size B A c b 12 ⟨X0, X2, X4, X8, 0, 0, 0, 0, [], []⟩ := by
    refine ⟨st5.alloc _, World.alloc_heap_new w5 _, hR6.alloc (by omega) _, ?_, ?_⟩
    · exact (Below.heap_alloc w5 _ w.heap.size (by omega)).trans ((y5.block w.heap.size (by omega) (by simp; omega)).trans ((y4.block w.heap.size (by omega) (by simp; omega)).trans ((y3.block w.heap.size (by omega) (by simp; omega)).trans ((y2.block w.heap.size (by omega) (by simp; omega)).trans hres1))))
    · exact (((((hbel1.grown y2 (by omega) (fun k e => by cases e; omega)).grown y3 (by omega) (fun k e => by cases e; omega)).grown y4 (by omega) (fun k e => by cases e; omega)).grown y5 (by omega) (fun k e => by cases e; omega)).alloc (by omega) _)
  obtain ⟨U, hUU⟩ : ∃ U, U = w5.heap.size := ⟨_, rfl⟩
  rw [← hUU] at tsV
  generalize w5.alloc (.cells (tsa ⟨X0, X2, X4, X8, 0, 0, 0, 0, [], []⟩ none 0 none 0) 37) = V at *
  rw [← hUU]
  have hgU : w1g + 1 < U := by omega
  have hBw : B ≤ w.heap.size := hB
  clear hUU y2 y3 y4 y5 st1 st2 st3 st4 st5 hR2 hR3 hR4 hR5 hR6 z1 z2 z3 z4 z5 hres1 hbel1 hR hB
  go_upto_region 4 with (go_at_call 64; ((with_reducible refine (cTnext w1g A b c B 12 1 _ tsV.st tsV.rd hl hcap (by omega) (by omega)).mono ?_); rintro e w6 ⟨rfl, st6, y6⟩; rw [show getV b 12 1 = X12 from G12.out]; have ts6 := tsV.step (k' := 13) st6 y6 hgw hgU hBw))
  go_upto_region 5 with (first
    | (go_at_call 64; ((with_reducible refine (cTnext w1g A b c B 13 1 _ ts6.st ts6.rd hl hcap (by omega) (by omega)).mono ?_); rintro e w7 ⟨rfl, st7, y7⟩; rw [show getV b 13 1 = X13 from G13.out]; have ts7 := ts6.step (k' := 14) st7 y7 hgw hgU hBw); have c4 := ts7.cell (i := 4) (v := .int .i64 0) rfl; have f4 := ts7.frozen 4; have c5 := ts7.cell (i := 5) (v := .int .i64 0) rfl; have f5 := ts7.frozen 5))
  have ts7a := (ts7.set (i := 4) (v := .int .i64 (X12 % 16)) (q' := ⟨X0, X2, X4, X8, X12 % 16, 0, 0, 0, [], []⟩) hgw hgU hBw rfl).set (i := 5) (v := .int .i64 X13) (q' := ⟨X0, X2, X4, X8, X12 % 16, X13, 0, 0, [], []⟩) hgw hgU hBw rfl
  generalize (w7.setCell ⟨U, 4, none⟩ (.int .i64 (X12 % 16))).setCell ⟨U, 5, none⟩ (.int .i64 X13) = W7 at *
  clear ts6 ts7 y6 y7 st6 st7 c4 f4 c5 f5 tsV
  go_upto_region 6 with (first
    | (go_at_call 64; ((with_reducible refine (cTnext w1g A b c B 14 2 _ ts7a.st ts7a.rd hl hcap (by omega) (by omega)).mono ?_); rintro e w8 ⟨rfl, st8, y8⟩; rw [show getV b 14 2 = X14 from G14.out]; have ts8 := ts7a.step (k' := 16) st8 y8 hgw hgU hBw); have c6 := ts8.cell (i := 6) (v := .int .i64 0) rfl; have f6 := ts8.frozen 6))
  have ts8a := ts8.set (i := 6) (v := .int .i64 X14) (q' := ⟨X0, X2, X4, X8, X12 % 16, X13, X14, 0, [], []⟩) hgw hgU hBw rfl
  generalize w8.setCell ⟨U, 6, none⟩ (.int .i64 X14) = W8 at *
  clear ts7a ts8 y8 st8 c6 f6
  go_upto_region 7 with (go_at_call 64; ((with_reducible refine (cTnext w1g A b c B 16 2 _ ts8a.st ts8a.rd hl hcap (by omega) (by omega)).mono ?_); rintro e w9 ⟨rfl, st9, y9⟩; rw [show getV b 16 2 = (n2 b 16) from G16.out]; have ts9 := ts8a.step (k' := 18) st9 y9 hgw hgU hBw))
  go_upto_region 8 with (first
    | (go_at_call 64; ((with_reducible refine (cTnext w1g A b c B 18 2 _ ts9.st ts9.rd hl hcap (by omega) (by omega)).mono ?_); rintro e w10 ⟨rfl, st10, y10⟩; rw [show getV b 18 2 = X18 from G18.out]; have ts10 := ts9.step (k' := 20) st10 y10 hgw hgU hBw); have c7 := ts10.cell (i := 7) (v := .int .i64 0) rfl; have f7 := ts10.frozen 7))
  have tsX := ts10.set (i := 7) (v := .int .i64 X18) (q' := ⟨X0, X2, X4, X8, X12 % 16, X13, X14, X18, [], []⟩) hgw hgU hBw rfl
  generalize w10.setCell ⟨U, 7, none⟩ (.int .i64 X18) = WX at *
  have at9 := Atts.of_heap tsX.hU
  have hr9 := tsX.res
  have b9 := tsX.bel
  clear ts8a ts9 ts10 y9 y10 st9 st10 c7 f7 tsX
  go_wp2_with (first
    | ((with_reducible show wpList _ _ _ (Oper.mk _ (Op.load 37 _) _ _ _ _ :: _) _ _); refine wpList_val rfl (run_load_ts rfl rfl at9 rfl) ?_)
    | ((with_reducible show wpList _ _ _ (Oper.mk _ (Op.store 37 _ _) _ _ _ _ :: _) _ _); refine ts_store (g := w.heap.size) (cs := tsa ⟨X0, X2, X4, X8, X12 % 16, X13, X14, X18, [], []⟩ none 0 none 0) rfl rfl hr9 rfl rfl (ts_one _ _ _ _ _) ?_))
  exact bodyPost_ret (res2 rfl rfl (ts_load_run (setRow_heap _ _ _ _ _ _ hr9) rfl)) rfl ⟨rfl, below_row b9 (Nat.le_refl _)⟩
end Go.Proofs.Ytodlfdnegcfhcaa

/-
  Contract of tcp.Parse. Conditions are each theorem's own.
-/
namespace Go.Proofs.Ytodlfdnegcfhcaa
open Go.RowKit

section
variable {o : Oper} {a : Act} {w : World} {K : Act → World → Prop} {Q : Exit → Act → World → Prop} {x y : Operand} {p : Addr} {v0 : Value}
theorem store_sl_wp {A : Option Addr} {n c : Nat} (ho : o.op = .store 22 x y) (hx : a.eval x = .pointer (some p)) (hy : a.eval y = .slice A n c) (hc : w.cell? p = some v0) (hf : w.frozen? p = false) (h : K (a.put o.dst undef) (w.setCell p (.slice A n c))) : o.wp Try.prog a w K Q := by
  unfold Oper.wp execOp
  simp only [ho, hx, hy]
  go_simp
  exact h
end
section
variable (b : List UInt8) (A : Option Addr) (c : Nat) (src dst : Int) (w : World)
set_option maxRecDepth 100000 in
set_option maxHeartbeats 4000000 in
theorem cTparse (B : Nat) (hR : Arg w B A c b) (hB : B ≤ w.heap.size) (hl : b.length ≤ 1000000) :
    Calls Try.prog 15 #[.int .i64 src, .int .i64 dst, .slice A b.length c] w fun e w' => ∃ P p P' p', e = .returned (.tuple #[tsv (prsT src dst b) P p P' p', .int .i64 (badT src dst b)]) ∧ Made w w' (.slice P (prsT src dst b).opt.length p) (prsT src dst b).opt ∧ Made w w' (.slice P' (prsT src dst b).dat.length p') (prsT src dst b).dat := by
  have hBW : Below w.heap.size w (w.alloc (.cells (tsa tsz none 0 none 0) 37)) := (Below.refl w.heap.size w).alloc (Nat.le_refl _) _
  have hg := World.alloc_heap_new w (.cells (tsa tsz none 0 none 0) 37)
  have hz : w.heap.size < (w.alloc (.cells (tsa tsz none 0 none 0) 37)).heap.size := by simp
  have hcap := hR.cap
  go_enter Try.func15, Try.ntmps15
  go_upto_region 1 with fail
  rw [show #[.int .i64 0, .int .i64 0, .int .i64 0, .int .i64 0, .int .i64 0, .int .i64 0, .int .i64 0, .int .i64 0, .slice none 0 0, .slice none 0 0] = tsa tsz none 0 none 0 from rfl]
  generalize w.alloc (.cells (tsa tsz none 0 none 0) 37) = W at *
  have hR1 := hR.below (hBW.mono hB)
  by_cases h20 : b.length < 20
  · have d20 : decide ((b.length : Int) < 20) = true := by simp; omega
    have HE := Lib.hid (show badT src dst b = 3 by rw [badT, if_pos h20])
    have HV := Lib.hid (show prsT src dst b = tsz by rw [prsT, HE.out]; rfl)
    go_wp2_with (first | ((with_reducible show wpList _ _ _ (Oper.mk _ (Op.store 37 _ _) _ _ _ _ :: _) _ _); refine ts_store (g := w.heap.size) (cs := tsa tsz none 0 none 0) rfl rfl hg rfl rfl (ts_one _ _ _ _ _) ?_))
    exact bodyPost_ret (res2 rfl rfl (ts_load_run (setRow_heap _ _ _ _ _ _ hg) rfl)) rfl ⟨none, 0, none, 0, by rw [HV.out, HE.out]; rfl, by rw [HV.out]; exact Made.nil _ _ (below_row hBW (Nat.le_refl _)), by rw [HV.out]; exact Made.nil _ _ (below_row hBW (Nat.le_refl _))⟩
  · have d20 : decide ((b.length : Int) < 20) = false := by simp; omega
    obtain ⟨X0, e0⟩ : ∃ n, n = n2 b 0 := ⟨_, rfl⟩
    obtain ⟨X2, e2⟩ : ∃ n, n = n2 b 2 := ⟨_, rfl⟩
    obtain ⟨X4, e4⟩ : ∃ n, n = n4 b 4 := ⟨_, rfl⟩
    obtain ⟨X8, e8⟩ : ∃ n, n = n4 b 8 := ⟨_, rfl⟩
    obtain ⟨X12, e12⟩ : ∃ n, n = byt b 12 := ⟨_, rfl⟩
    obtain ⟨X13, e13⟩ : ∃ n, n = byt b 13 := ⟨_, rfl⟩
    obtain ⟨X14, e14⟩ : ∃ n, n = n2 b 14 := ⟨_, rfl⟩
    obtain ⟨X18, e18⟩ : ∃ n, n = n2 b 18 := ⟨_, rfl⟩
    have l0 : 0 ≤ X12 ∧ X12 ≤ 255 := by rw [e12]; exact ⟨byt_lo b 12, byt_hi b 12⟩
    have l13 : 0 ≤ X13 ∧ X13 ≤ 255 := by rw [e13]; exact ⟨byt_lo b 13, byt_hi b 13⟩
    have hlx : hlT b = X12 / 16 * 4 := by rw [e12]; rfl
    obtain ⟨H, hH⟩ : ∃ n : Nat, (n : Int) = hlT b := ⟨(hlT b).toNat, by omega⟩
    clear hlx
    have HH12 := Lib.hid (show (H : Int) = X12 / 16 * 4 by rw [hH, e12]; rfl)
    obtain ⟨O, hOd⟩ : ∃ l, l = (b.take H).drop 20 := ⟨_, rfl⟩
    obtain ⟨D, hDd⟩ : ∃ l, l = b.drop H := ⟨_, rfl⟩
    have HRW := Lib.hid (show rawT b = ⟨X0, X2, X4, X8, X12 % 16, X13, X14, X18, O, D⟩ by rw [rawT, ← hH, Int.toNat_natCast, ← hOd, ← hDd, e0, e2, e4, e8, e12, e13, e14, e18])
    have HH := Lib.hid hH.symm
    have hHb : H ≤ 60 := by have := HH12.out; omega
    have HHD := Lib.hid (show headT b = ⟨X0, X2, X4, X8, X12 % 16, X13, X14, X18, [], []⟩ by rw [e0, e2, e4, e8, e12, e13, e14, e18]; rfl)
    clear e0 e2 e4 e8 e12 e13 e14 e18 hH
    go_upto_region 4 with (first
      | (go_at_call 25; refine (cTread b A c B _ hR1 (by omega) (by omega) hl).mono ?_; rintro e w1 ⟨rfl, x1⟩; rw [HHD.out, HH.out])
      | ((with_reducible show wpList _ _ _ (Oper.mk _ (Op.store _ _ _) _ _ _ _ :: _) _ _); refine ts_store_new (cs := tsa ⟨X0, X2, X4, X8, X12 % 16, X13, X14, X18, [], []⟩ none 0 none 0) rfl rfl rfl rfl (ts_one _ _ _ _ _) ?_))
    have hU0 := World.alloc_heap_new w1 (.cells (tsa ⟨X0, X2, X4, X8, X12 % 16, X13, X14, X18, [], []⟩ none 0 none 0) 37)
    have ja : Below w1.heap.size w1 (w1.alloc (.cells (tsa ⟨X0, X2, X4, X8, X12 % 16, X13, X14, X18, [], []⟩ none 0 none 0) 37)) := (Below.refl _ w1).alloc (Nat.le_refl _) _
    have hbV := (hBW.trans (x1.mono (by omega))).trans (ja.mono (by have := x1.size; omega))
    have hrV := (ja.block w.heap.size (by have := x1.size; omega)).trans ((x1.block w.heap.size hz).trans hg)
    have hRV := hR.below (hbV.mono hB)
    have hUw : w.heap.size < w1.heap.size := by have := x1.size; omega
    generalize w1.alloc (.cells (tsa ⟨X0, X2, X4, X8, X12 % 16, X13, X14, X18, [], []⟩ none 0 none 0) 37) = V at *
    obtain ⟨U, hUU⟩ : ∃ U, U = w1.heap.size := ⟨_, rfl⟩
    rw [← hUU] at hU0 hUw ⊢
    have hUlt0 := heap_lt hU0
    clear x1 ja hUU hg hR1 hBW hz
    by_cases s1 : H < 20
    · have d1 : decide ((H : Int) < 20) = true := by simp; omega
      have HE := Lib.hid (show badT src dst b = 4 by rw [badT, if_neg h20, if_pos (by rw [HH.out]; omega)])
      have HV := Lib.hid (show prsT src dst b = tsz by rw [prsT, HE.out]; rfl)
      go_wp2_with (first | ((with_reducible show wpList _ _ _ (Oper.mk _ (Op.store 37 _ _) _ _ _ _ :: _) _ _); refine ts_store (g := w.heap.size) (cs := tsa tsz none 0 none 0) rfl rfl hrV rfl rfl (ts_one _ _ _ _ _) ?_))
      exact bodyPost_ret (res2 rfl rfl (ts_load_run (setRow_heap _ _ _ _ _ _ hrV) rfl)) rfl ⟨none, 0, none, 0, by rw [HV.out, HE.out]; rfl, by rw [HV.out]; exact Made.nil _ _ (below_row hbV (Nat.le_refl _)), by rw [HV.out]; exact Made.nil _ _ (below_row hbV (Nat.le_refl _))⟩
    · have d1 : decide ((H : Int) < 20) = false := by simp; omega
      by_cases s2 : b.length < H
      · have d2 : decide ((b.length : Int) < (H : Int)) = true := by simp; omega
        have HE := Lib.hid (show badT src dst b = 3 by rw [badT, if_neg h20, if_neg (by rw [HH.out]; omega), if_pos (by rw [HH.out]; omega)])
        have HV := Lib.hid (show prsT src dst b = tsz by rw [prsT, HE.out]; rfl)
        go_wp2_with (first | ((with_reducible show wpList _ _ _ (Oper.mk _ (Op.store 37 _ _) _ _ _ _ :: _) _ _); refine ts_store (g := w.heap.size) (cs := tsa tsz none 0 none 0) rfl rfl hrV rfl rfl (ts_one _ _ _ _ _) ?_))
        exact bodyPost_ret (res2 rfl rfl (ts_load_run (setRow_heap _ _ _ _ _ _ hrV) rfl)) rfl ⟨none, 0, none, 0, by rw [HV.out, HE.out]; rfl, by rw [HV.out]; exact Made.nil _ _ (below_row hbV (Nat.le_refl _)), by rw [HV.out]; exact Made.nil _ _ (below_row hbV (Nat.le_refl _))⟩
      · have d2 : decide ((b.length : Int) < (H : Int)) = false := by simp; omega
        by_cases s3 : 65535 < b.length
        · have d3 : decide (65535 < (b.length : Int)) = true := by simp; omega
          have HE := Lib.hid (show badT src dst b = 6 by rw [badT, if_neg h20, if_neg (by rw [HH.out]; omega), if_neg (by rw [HH.out]; omega), if_pos (by omega)])
          have HV := Lib.hid (show prsT src dst b = tsz by rw [prsT, HE.out]; rfl)
          go_wp2_with (first | ((with_reducible show wpList _ _ _ (Oper.mk _ (Op.store 37 _ _) _ _ _ _ :: _) _ _); refine ts_store (g := w.heap.size) (cs := tsa tsz none 0 none 0) rfl rfl hrV rfl rfl (ts_one _ _ _ _ _) ?_))
          exact bodyPost_ret (res2 rfl rfl (ts_load_run (setRow_heap _ _ _ _ _ _ hrV) rfl)) rfl ⟨none, 0, none, 0, by rw [HV.out, HE.out]; rfl, by rw [HV.out]; exact Made.nil _ _ (below_row hbV (Nat.le_refl _)), by rw [HV.out]; exact Made.nil _ _ (below_row hbV (Nat.le_refl _))⟩
        · have d3 : decide (65535 < (b.length : Int)) = false := by simp; omega
          have HOl := Lib.hid (show O.length = H - 20 by rw [hOd]; simp; omega)
          have HDl := Lib.hid (show D.length = b.length - H by rw [hDd]; simp)
          have hO : Arg w B (cutA A c 20) (c - 20) O := by rw [hOd]; exact hR.cut 20 H (by omega)
          have hD : Arg w B (cutA A c H) (c - H) D := by rw [hDd]; exact hR.cut_lo H
          obtain ⟨N, hN⟩ : ∃ n, n = rightB [psd src dst 6 (b.length : Int), b] := ⟨_, rfl⟩
          have HN := Lib.hid hN
          have HBD := Lib.hid (show badT src dst b = if N = false then 5 else 0 by rw [badT, if_neg h20, if_neg (by rw [HH.out]; omega), if_neg (by rw [HH.out]; omega), if_neg (by omega), ← hN])
          clear hN hOd hDd
          cases N
          · have HE := Lib.hid (show badT src dst b = 5 by rw [HBD.out]; rfl)
            have HV := Lib.hid (show prsT src dst b = tsz by rw [prsT, HE.out]; rfl)
            go_wp2_with (first | ((with_reducible show wpList _ _ _ (Oper.mk _ (Op.store 37 _ _) _ _ _ _ :: _) _ _); refine ts_store (g := w.heap.size) (cs := tsa tsz none 0 none 0) rfl rfl hrq rfl rfl (ts_one _ _ _ _ _) ?_) | (go_at_call 27; refine (psd_any src dst 6 (b.length : Int) _).mono ?_; rintro e wp ⟨vp, rfl, mp⟩; obtain ⟨Ap, cp, rfl, gp, op, xp⟩ := made_shape mp) | (go_at_call 26; refine (right_two (some ⟨wp.heap.size, 0, none⟩) (psd src dst 6 (b.length : Int)) b 2 (wp.heap.size + 1) _ HN _ (Rd2.two rfl rfl (World.alloc_heap_new wp _) (Nat.lt_succ_self _) ((gp.alloc (Nat.le_refl _) _).more (Nat.le_succ _)) (((hRV.below (xp.mono (by omega))).alloc (by have := xp.size; omega) _).more (by have := xp.size; omega))) (by simp) (by rw [psd_len]; omega)).mono ?_; rintro e wq ⟨rfl, xq⟩; have xpq : Below V.heap.size V wq := (xp.alloc xp.size _).trans (xq.mono (by have := xp.size; simp; omega)); have hrq := (xpq.block w.heap.size (by omega)).trans hrV))
            exact bodyPost_ret (res2 rfl rfl (ts_load_run (setRow_heap _ _ _ _ _ _ hrq) rfl)) rfl ⟨none, 0, none, 0, by rw [HV.out, HE.out]; rfl, by rw [HV.out]; exact Made.nil _ _ (below_row (hbV.trans (xpq.mono (by omega))) (Nat.le_refl _)), by rw [HV.out]; exact Made.nil _ _ (below_row (hbV.trans (xpq.mono (by omega))) (Nat.le_refl _))⟩
          · have HE := Lib.hid (show badT src dst b = 0 by rw [HBD.out]; rfl)
            have HV := Lib.hid (show prsT src dst b = ⟨X0, X2, X4, X8, X12 % 16, X13, X14, X18, O, D⟩ by rw [prsT, if_pos HE.out, HRW.out])
            go_upto_region 12 with (first | (go_at_call 27; refine (psd_any src dst 6 (b.length : Int) _).mono ?_; rintro e wp ⟨vp, rfl, mp⟩; obtain ⟨Ap, cp, rfl, gp, op, xp⟩ := made_shape mp) | (go_at_call 26; refine (right_two (some ⟨wp.heap.size, 0, none⟩) (psd src dst 6 (b.length : Int)) b 2 (wp.heap.size + 1) _ HN _ (Rd2.two rfl rfl (World.alloc_heap_new wp _) (Nat.lt_succ_self _) ((gp.alloc (Nat.le_refl _) _).more (Nat.le_succ _)) (((hRV.below (xp.mono (by omega))).alloc (by have := xp.size; omega) _).more (by have := xp.size; omega))) (by simp) (by rw [psd_len]; omega)).mono ?_; rintro e wq ⟨rfl, xq⟩; have xpq : Below V.heap.size V wq := (xp.alloc xp.size _).trans (xq.mono (by have := xp.size; simp; omega)); have hrq := (xpq.block w.heap.size (by omega)).trans hrV))
            have hUq0 := (xpq.block U hUlt0).trans hU0
            have hb1 := hbV.trans (xpq.mono (by omega))
            have hUlt := heap_lt hUq0
            have zq := xpq.size
            clear xp xq xpq gp op mp hRV hU0
            obtain ⟨WQ, hWQ⟩ : ∃ X : World, X = wq.drew := ⟨_, rfl⟩
            have hUq : WQ.heap[U]? = some (.cells (tsa ⟨X0, X2, X4, X8, X12 % 16, X13, X14, X18, [], []⟩ none 0 none 0) 37 (0, 0)) := by rw [hWQ]; exact hUq0
            have hr1 : WQ.heap[w.heap.size]? = some (.cells (tsa tsz none 0 none 0) 37 (0, 0)) := by rw [hWQ]; exact hrq
            have hb1 : Below w.heap.size w WQ := by rw [hWQ]; exact hb1.drew
            have hUS : U ≤ U := Nat.le_refl U
            have hUlt : U < WQ.heap.size := by rw [hWQ]; exact hUlt
            clear hUq0 hrq hrV hbV
            refine wp_region_held_drew (S := fun w' => Below U WQ w') (by kernel_rfl) (by rw [← hWQ]; exact Below.refl _ _) (fun hS => ?_)
            rw [← hWQ] at hS ⊢
            clear hWQ
            refine held_pure (i := 0) (oi := ⟨some 45, _, _, _, _, _⟩) rfl (by kernel_rfl) (by kernel_rfl) (by kernel_rfl) (fun _ _ _ h => h) (by rfl) (v := ?_) (fun w hSw => ?_) hS (fun hS => ?_)
            rotate_left
            · go_simp; try with_reducible rfl
            try go_frame
            refine held_pure (i := 1) (oi := ⟨some 46, _, _, _, _, _⟩) rfl (by kernel_rfl) (by kernel_rfl) (by kernel_rfl) (fun _ _ _ h => h) (by rfl) (v := ?_) (fun w hSw => ?_) hS (fun hS => ?_)
            rotate_left
            · go_simp; try with_reducible rfl
            try go_frame
            refine held_pure (i := 2) (oi := ⟨some 47, _, _, _, _, _⟩) rfl (by kernel_rfl) (by kernel_rfl) (by kernel_rfl) (fun _ _ _ h => h) (by rfl) (fun w hSw => run_cut_lh rfl rfl rfl rfl (l := 20) (h := (H : Int)) (by omega) (by omega) (by omega) (m := O.length) (by have := HOl.out; omega)) hS (fun hS => ?_)
            try go_frame
            refine held_pure (i := 4) (oi := ⟨some 49, _, _, _, _, _⟩) rfl (by kernel_rfl) (by kernel_rfl) (by kernel_rfl) (fun _ _ _ h => h) (by rfl) (v := ?_) (fun w hSw => ?_) hS (fun hS => ?_)
            rotate_left
            · go_simp; try with_reducible rfl
            try go_frame
            refine held_pure (i := 5) (oi := ⟨some 50, _, _, _, _, _⟩) rfl (by kernel_rfl) (by kernel_rfl) (by kernel_rfl) (fun _ _ _ h => h) (by rfl) (v := ?_) (fun w hSw => ?_) hS (fun hS => ?_)
            rotate_left
            · go_simp; try with_reducible rfl
            try go_frame
            refine held_pure (i := 6) (oi := ⟨some 51, _, _, _, _, _⟩) rfl (by kernel_rfl) (by kernel_rfl) (by kernel_rfl) (fun _ _ _ h => h) (by rfl) (fun w hSw => run_cut_l rfl rfl (l := H) rfl (by omega) (m := D.length) (by have := HDl.out; omega)) hS (fun hS => ?_)
            try go_frame
            refine wpAnyH_ready (rs := [3]) (by kernel_rfl) (by simp) (AllReadyH.cons (o := ⟨some 48, _, _, _, _, _⟩) rfl (fun K hK => ?_) AllReadyH.nil)
            rw [if_pos (by rfl)]
            go_simp
            refine (freshT_any (cutA A c 20) O (c - 20) B _ (hO.below ((hb1.trans (hS.mono (by omega))).mono hB)) (by have := HOl.out; omega)).mono ?_
            rintro e wx ⟨vx, rfl, mx⟩
            obtain ⟨P3, p3, rfl, g3, o3, x3⟩ := made_shape mx
            show K _ _
            refine hK.out _ _ (hS.trans (x3.mono (by omega))) (fun hS => ?_)
            clear hK K
            try go_frame
            refine held_pure (i := 8) (oi := ⟨some 53, _, _, _, _, _⟩) rfl (by kernel_rfl) (by kernel_rfl) (by kernel_rfl) (fun _ _ _ h => h) (by rfl) (v := ?_) (fun w hSw => ?_) hS (fun hS => ?_)
            rotate_left
            · go_simp; try with_reducible rfl
            try go_frame
            refine wpAnyH_ready (rs := [7]) (by kernel_rfl) (by simp) (AllReadyH.cons (o := ⟨some 52, _, _, _, _, _⟩) rfl (fun K hK => ?_) AllReadyH.nil)
            rw [if_pos (by rfl)]
            go_simp
            refine (freshT_any (cutA A c H) D (c - H) B _ (hD.below ((hb1.trans (hS.mono (by omega))).mono hB)) (by have := HDl.out; omega)).mono ?_
            rintro e wy ⟨vy, rfl, my⟩
            obtain ⟨P7, p7, rfl, g7, o7, x7⟩ := made_shape my
            have z3 : WQ.heap.size ≤ wx.heap.size := x3.size
            have hUy := (x7.block U (by omega)).trans ((x3.block U hUlt).trans hUq)
            show K _ _
            refine hK.out _ _ (hS.trans (x7.mono (by omega))) (fun hS => ?_)
            clear hK K
            try go_frame
            refine wpAnyH_ready (rs := [9]) (by kernel_rfl) (by simp) (AllReadyH.cons (o := ⟨none, _, _, _, _, _⟩) rfl (fun K hK => ?_) AllReadyH.nil)
            rw [if_pos (by rfl)]
            have k8 : wy.cell? ⟨U, 8, none⟩ = some (.slice none 0 0) := by { rw [cell_of_row _ _ _ _ _ _ hUy]; rfl }
            refine store_sl_wp rfl rfl rfl k8 (heap_frozen hUy 8) ?_
            have hU8 : (wy.setCell ⟨U, 8, none⟩ (.slice P3 O.length p3)).heap[U]? = some (.cells (tsa ⟨X0, X2, X4, X8, X12 % 16, X13, X14, X18, O, []⟩ P3 p3 none 0) 37 (0, 0)) := heap_setCell_same wy U 8 _ _ _ hUy
            refine hK.out _ _ (hS.setCell (p := ⟨U, 8, none⟩) hUS _) (fun hS => ?_)
            clear hK K k8
            try go_frame
            refine held_pure (i := 10) (oi := ⟨some 54, _, _, _, _, _⟩) rfl (by kernel_rfl) (by kernel_rfl) (by kernel_rfl) (fun _ _ _ h => h) (by rfl) (v := ?_) (fun w hSw => ?_) hS (fun hS => ?_)
            rotate_left
            · go_simp; try with_reducible rfl
            try go_frame
            refine wpAnyH_ready (rs := [11]) (by kernel_rfl) (by simp) (AllReadyH.cons (o := ⟨none, _, _, _, _, _⟩) rfl (fun K hK => ?_) AllReadyH.nil)
            rw [if_pos (by rfl)]
            have k9 : (wy.setCell ⟨U, 8, none⟩ (.slice P3 O.length p3)).cell? ⟨U, 9, none⟩ = some (.slice none 0 0) := by { rw [cell_of_row _ _ _ _ _ _ hU8]; rfl }
            refine store_sl_wp rfl rfl rfl k9 (heap_frozen hU8 9) ?_
            have hU9 : ((wy.setCell ⟨U, 8, none⟩ (.slice P3 O.length p3)).setCell ⟨U, 9, none⟩ (.slice P7 D.length p7)).heap[U]? = some (.cells (tsa ⟨X0, X2, X4, X8, X12 % 16, X13, X14, X18, O, D⟩ P3 p3 P7 p7) 37 (0, 0)) := heap_setCell_same _ U 9 _ _ _ hU8
            refine hK.out _ _ (hS.setCell (p := ⟨U, 9, none⟩) hUS _) (fun hS => ?_)
            clear hK K k9
            try go_frame
            refine wpAnyH_done (by kernel_rfl) ?_ _
            have hr9 := (hS.block w.heap.size (by omega)).trans hr1
            have o3' := own_setCell (own_setCell (own_below o3 x7) (p := ⟨U, 8, none⟩) (u := .slice P3 O.length p3) (by show U < WQ.heap.size; omega)) (p := ⟨U, 9, none⟩) (u := .slice P7 D.length p7) (by show U < WQ.heap.size; omega)
            have o7' := own_setCell (own_setCell o7 (p := ⟨U, 8, none⟩) (u := .slice P3 O.length p3) (by show U < wx.heap.size; omega)) (p := ⟨U, 9, none⟩) (u := .slice P7 D.length p7) (by show U < wx.heap.size; omega)
            have o3r := own_setRow o3' (g := w.heap.size) (cs := tsa ⟨X0, X2, X4, X8, X12 % 16, X13, X14, X18, O, D⟩ P3 p3 P7 p7) (by show w.heap.size < WQ.heap.size; omega)
            have o7r := own_setRow o7' (g := w.heap.size) (cs := tsa ⟨X0, X2, X4, X8, X12 % 16, X13, X14, X18, O, D⟩ P3 p3 P7 p7) (by show w.heap.size < wx.heap.size; omega)
            have b9 := hb1.trans (hS.mono (by omega))
            have at9 := Atts.of_heap hU9
            clear o3' o7' o3 o7 hU9 hU8
            go_wp2_with (first
              | ((with_reducible show wpList _ _ _ (Oper.mk _ (Op.load 37 _) _ _ _ _ :: _) _ _); refine wpList_val rfl (run_load_ts rfl rfl at9 rfl) ?_)
              | ((with_reducible show wpList _ _ _ (Oper.mk _ (Op.store 37 _ _) _ _ _ _ :: _) _ _); refine ts_store (g := w.heap.size) (cs := tsa ⟨X0, X2, X4, X8, X12 % 16, X13, X14, X18, O, D⟩ P3 p3 P7 p7) rfl rfl hr9 rfl rfl (ts_one _ _ _ _ _) ?_))
            exact bodyPost_ret (res2 rfl rfl (ts_load_run (setRow_heap _ _ _ _ _ _ hr9) rfl)) rfl ⟨P3, p3, P7, p7, by rw [HV.out, HE.out]; rfl, by rw [HV.out]; exact Made.of_own (own_base o3r (by show w.heap.size ≤ WQ.heap.size; omega)) (below_row b9 (Nat.le_refl _)), by rw [HV.out]; exact Made.of_own (own_base o7r (by omega)) (below_row b9 (Nat.le_refl _))⟩
end
end Go.Proofs.Ytodlfdnegcfhcaa

/-
  Contract of the document's Parse of layer 8. Conditions are each theorem's own.
-/
namespace Go.Proofs.Ytodlfdnegcfhcaa
open Go.RowKit

section
variable (b : List UInt8) (A : Option Addr) (c : Nat) (src dst : Int) (w : World)
end
end Go.Proofs.Ytodlfdnegcfhcaa

/-
  Contract of tcp.Options and of the iterator that it hands back. Conditions are each theorem's own.
-/
namespace Go.Proofs.Ytodlfdnegcfhcaa
open Go.RowKit Go.Shelf
attribute [local go_sem] Oper.semAt_some

/-- An option as it comes: where it begins, and where its bytes lie. -/
structure OI where
  at_ : Nat
  A : Option Addr
  c : Nat
  n : Nat
def encO (x : OI) : Array Value := #[.int .i64 (x.at_ : Int), .slice x.A x.n x.c]
/-- What is known of it when it comes. -/
def GO (b : List UInt8) (pre : List OI) (x : OI) (W : World) : Prop :=
  (∃ more, places b = pre.map (·.at_) ++ x.at_ :: more) ∧ x.n = optL b x.at_ ∧ Arg W W.heap.size x.A x.c ((b.drop x.at_).take x.n)
theorem cell_putLoop {W : World} {p : Addr} {v : Value} {l : Nat} {r r' : Loop} (h : W.cell? p = some v) (hl : W.heap[l]? = some (.loop r)) : (W.putObj l (.loop r')).cell? p = some v := by
  obtain ⟨o, ho, hc⟩ := cells_of_cell h
  have hne : p.block ≠ l := fun e => by rw [e, hl] at ho; cases ho; cases hc
  exact (World.cell?_of_block (World.putObj_heap_other hne)).trans h
theorem GO.turn {b : List UInt8} {pre : List OI} {x : OI} {W : World} {l : Nat} {r r' : Loop} (h : GO b pre x W) (hl : W.heap[l]? = some (.loop r)) : GO b pre x (W.putObj l (.loop r')) := by
  refine ⟨h.1, h.2.1, ⟨fun hn => ?_, h.2.2.cap, h.2.2.none_⟩⟩
  obtain ⟨b0, off, e, hb, hc⟩ := h.2.2.rd hn
  exact ⟨b0, off, e, by simpa using hb, fun j hj => cell_putLoop (hc j hj) hl⟩
theorem grown_none {w w' : World} (h : Below w.heap.size w w') : w.grownBy w' none := ⟨h.os, h.tape, h.output, h.size, fun k hk _ => h.block k hk⟩
theorem freshT_n (A : Option Addr) (bs : List UInt8) (n c B : Nat) (w : World) (hn : Hid (bs.length = n)) (h : Arg w B A c bs) (hl : n ≤ 1099511627776) :
    Calls Try.prog 28 #[.slice A n c] w fun e w' => ∃ P p, e = .returned (.slice P n p) ∧ Arg w' w'.heap.size P p bs ∧ Below w.heap.size w w' := by
  have := freshT_any A bs c B w h (by rw [hn.out]; exact hl)
  rw [hn.out] at this
  refine this.mono ?_
  rintro e w' ⟨v, rfl, hm⟩
  obtain ⟨P, p, rfl, g, o, x⟩ := made_shape hm
  exact ⟨P, p, by rw [hn.out], g, x⟩
set_option maxRecDepth 100000 in
set_option maxHeartbeats 4000000 in
theorem opts1_in (m : Nat) (hm : 1 ≤ m) (l lo hi Bs b1 o1 c1 n : Nat) (b : List UInt8) (hn : Hid (b.length = n)) (hl : n ≤ 1000000) (hc1 : n ≤ c1) (hBs : lo ≤ Bs ∧ Bs < hi) (hb1 : lo ≤ b1 ∧ b1 < hi) (J Jx : List OI → World → Prop) (W : World) (hhi : hi ≤ W.heap.size) (hJA0 : AbidesFrom W.heap.size J)
    (hY : ∀ pre x X, J pre X → GO b pre x X → YieldAt Fence.wide (m - 1) Try.prog l (encO x) X fun e Y =>
      (e = .returned (.bool true) ∧ J (pre ++ [x]) Y ∧ Holds lo hi X Y) ∨ (e = .returned (.bool false) ∧ Jx (pre ++ [x]) Y))
    (hb : W.cell? ⟨Bs, 0, none⟩ = some (.slice (some ⟨b1, o1, none⟩) n c1)) (hcell : ∀ j, j < n → W.cell? ⟨b1, o1 + j, none⟩ = some (.int .u8 (byt b j))) (hJ : J [] W) :
    CallsIn Fence.wide m Try.prog 38 #[.func (.yield l) #[] #[], .pointer (some ⟨Bs, 0, none⟩)] W fun e W' => (∃ v, e = .returned v) ∧
      ((∃ xs : List OI, xs.map (·.at_) = places b ∧ J xs W') ∨ (∃ pre : List OI, (∃ more, places b = pre.map (·.at_) ++ more) ∧ Jx pre W')) := by
  have hArg : ∀ V : World, Holds lo hi W V → Arg V V.heap.size (some ⟨b1, o1, none⟩) c1 b := fun V hV =>
    ⟨fun hp => ⟨b1, o1, rfl, cell_block ((hV.cell (p := ⟨b1, o1 + 0, none⟩) hb1.1 hb1.2).trans (hcell 0 (by have := hn.out; omega))), fun j hj => (hV.cell (p := ⟨b1, o1 + j, none⟩) hb1.1 hb1.2).trans (hcell j (by have := hn.out; omega))⟩, by have := hn.out; omega, fun e => by cases e⟩
  have HC := Lib.hid hcell
  have hJA := hJA0
  clear hcell hJA0
  refine callsIn_of_wp Try.func38 rfl trivial ?_ rfl
  simp only [Try.ntmps38, List.size_toArray, List.length_cons, List.length_nil, Nat.reduceAdd, Nat.reduceSub, Array.replicate_succ, Array.replicate_zero, List.push_toArray, List.append_toArray, List.nil_append, List.cons_append]
  refine wpIn_wide.2 (wp_scope_straight ((wpIn_wide (n := m)).1 ?_))
  gi_wp2
  refine wpIn_wide.2 (wp_label ?_)
  gi_wp2
  gi_loopw [3] (fun i wr => ∃ (k : Nat) (pre : List OI), k ≤ n ∧ i = .int .i64 (k : Int) ∧ Hid (places b = pre.map (·.at_) ++ rest b k) ∧ J pre wr ∧ Holds lo hi W wr)
    (fun i _ => n - (intOf i).toNat)
  case atStart => exact ⟨0, [], Nat.zero_le _, rfl, Lib.hid rfl, hJ, Holds.refl _ _ _⟩
  case round =>
    obtain ⟨k, pre, hk, rfl, HP, hJs, hH⟩ := hrel
    have hb' := (hH.cell (p := ⟨Bs, 0, none⟩) hBs.1 hBs.2).trans hb
    by_cases hlt : k < n
    · have kx0 := (hH.cell (p := ⟨b1, o1 + k, none⟩) hb1.1 hb1.2).trans (HC.out k hlt)
      have l0 := byt_lo b k; have l1 := byt_hi b k
      obtain ⟨X, hX⟩ : ∃ x, x = byt b k := ⟨_, rfl⟩
      rw [← hX] at kx0 l0 l1
      have HX := Lib.hid hX
      clear hX
      have hne : ¬ c1 = k := by omega
      have hsub : ((n - k : Nat) : Int) = (n : Int) - (k : Int) := by omega
      have HSB := Lib.hid hsub
      clear hsub
      by_cases x0 : X = 0
      · have e0 : (X == 0) = true := by simpa using x0
        have HS := Lib.hid (show optL b k = 1 by rw [optL, if_neg (by have := hn.out; omega), if_pos (by rw [← HX.out]; omega)])
        have HL := Lib.hid (show places b = pre.map (·.at_) ++ [k] by rw [HP.out, rest_last (by rw [HS.out]; omega) (by rw [← HX.out]; exact x0)])
        have NXT : Hid (∃ more, places b = pre.map (·.at_) ++ k :: more) := Lib.hid ⟨[], HL.out⟩
        obtain ⟨D, hDd⟩ : ∃ l, l = (b.drop k).take 1 := ⟨_, rfl⟩
        have HDl := Lib.hid (show D.length = 1 by rw [hDd, List.length_take, List.length_drop]; have := hn.out; omega)
        have hAD : Arg wr wr.heap.size (some ⟨b1, o1 + k, none⟩) (c1 - k) D := by
          rw [hDd]
          have hh := (hArg wr hH).cut k (k + 1) (by have := hn.out; omega)
          rw [cutA, if_neg (by have := hn.out; omega)] at hh
          have e : (b.take (k + 1)).drop k = (b.drop k).take 1 := by rw [List.drop_take]; congr 1; omega
          rw [e] at hh
          simpa [add_off] using hh
        have HDD := Lib.hid hDd
        clear hDd
        gi_wp2_with (refine ⟨trivial, ?_⟩; gi_at_call 28; refine (callsIn_wide.2 (freshT_n (some ⟨b1, o1 + k, none⟩) D 1 (c1 - k) wr.heap.size _ HDl hAD (by omega))).mono ?_; rintro e w2 ⟨P2, p2, rfl, hA2, x2⟩; have hY2 := hY pre ⟨k, P2, p2, 1⟩ w2 (hJA pre wr w2 none hJs (grown_none x2) (fun r e => by cases e)) ⟨NXT.out, HS.out.symm, HDD.out ▸ hA2⟩; obtain ⟨fn, tmps, assign, body, hy, hR⟩ := hY2; dsimp only [encO] at hy)
        refine hR.mono ?_
        rintro e W3 (⟨rfl, hJ3, hk3⟩ | ⟨rfl, hJx3⟩)
        · have hH3 := hH.trans ((Holds.of_below x2 (by have := hH.1; omega)).trans hk3)
          have hb3 := (hH3.cell (p := ⟨Bs, 0, none⟩) hBs.1 hBs.2).trans hb
          have kx3 := (hH3.cell (p := ⟨b1, o1 + k, none⟩) hb1.1 hb1.2).trans (HC.out k hlt)
          rw [← HX.out] at kx3
          clear hb' kx0 hy hR
          gi_wp2
          try rw [Exit.noGoto_normal]
          go_end0
          exact ⟨⟨_, rfl⟩, .inl ⟨_, by rw [List.map_append, HL.out]; rfl, hJ3⟩⟩
        · clear hb' kx0 hy hR
          gi_wp2
          try rw [Exit.noGoto_normal]
          go_end0
          exact ⟨⟨_, rfl⟩, .inr ⟨_, by obtain ⟨more, hm_⟩ := NXT.out; exact ⟨more, by rw [List.map_append, hm_, List.append_assoc]; rfl⟩, hJx3⟩⟩
      · by_cases x1 : X = 1
        · have e0 : (X == 0) = false := by simpa using x0
          have e1 : (X == 1) = true := by simpa using x1
          have HS := Lib.hid (show optL b k = 1 by rw [optL, if_neg (by have := hn.out; omega), if_pos (by rw [← HX.out]; omega)])
          have HL := Lib.hid (show places b = pre.map (·.at_) ++ k :: rest b (k + 1) by rw [HP.out, rest_more (by rw [HS.out]; omega) (by rw [← HX.out]; omega), HS.out])
          have NXT : Hid (∃ more, places b = pre.map (·.at_) ++ k :: more) := Lib.hid ⟨_, HL.out⟩
          obtain ⟨D, hDd⟩ : ∃ l, l = (b.drop k).take 1 := ⟨_, rfl⟩
          have HDl := Lib.hid (show D.length = 1 by rw [hDd, List.length_take, List.length_drop]; have := hn.out; omega)
          have hAD : Arg wr wr.heap.size (some ⟨b1, o1 + k, none⟩) (c1 - k) D := by
            rw [hDd]
            have hh := (hArg wr hH).cut k (k + 1) (by have := hn.out; omega)
            rw [cutA, if_neg (by have := hn.out; omega)] at hh
            have e : (b.take (k + 1)).drop k = (b.drop k).take 1 := by rw [List.drop_take]; congr 1; omega
            rw [e] at hh
            simpa [add_off] using hh
          have HDD := Lib.hid hDd
          clear hDd
          gi_wp2_with (refine ⟨trivial, ?_⟩; gi_at_call 28; refine (callsIn_wide.2 (freshT_n (some ⟨b1, o1 + k, none⟩) D 1 (c1 - k) wr.heap.size _ HDl hAD (by omega))).mono ?_; rintro e w2 ⟨P2, p2, rfl, hA2, x2⟩; have hY2 := hY pre ⟨k, P2, p2, 1⟩ w2 (hJA pre wr w2 none hJs (grown_none x2) (fun r e => by cases e)) ⟨NXT.out, HS.out.symm, HDD.out ▸ hA2⟩; obtain ⟨fn, tmps, assign, body, hy, hR⟩ := hY2; dsimp only [encO] at hy)
          refine hR.mono ?_
          rintro e W3 (⟨rfl, hJ3, hk3⟩ | ⟨rfl, hJx3⟩)
          · have hH3 := hH.trans ((Holds.of_below x2 (by have := hH.1; omega)).trans hk3)
            have hb3 := (hH3.cell (p := ⟨Bs, 0, none⟩) hBs.1 hBs.2).trans hb
            have kx3 := (hH3.cell (p := ⟨b1, o1 + k, none⟩) hb1.1 hb1.2).trans (HC.out k hlt)
            rw [← HX.out] at kx3
            clear hb' kx0 hy hR
            gi_wp2
            go_roundw
            case rel => exact ⟨k + 1, _, by omega, by simp, Lib.hid (by rw [List.map_append, HL.out, List.append_assoc]; rfl), hJ3, hH3⟩
            case measure => simp [intOf]; omega
          · clear hb' kx0 hy hR
            gi_wp2
            try rw [Exit.noGoto_normal]
            go_end0
            exact ⟨⟨_, rfl⟩, .inr ⟨_, by obtain ⟨more, hm_⟩ := NXT.out; exact ⟨more, by rw [List.map_append, hm_, List.append_assoc]; rfl⟩, hJx3⟩⟩
        · have e0 : (X == 0) = false := by simpa using x0
          have e1 : (X == 1) = false := by simpa using x1
          by_cases h2 : n - k < 2
          · have HZ := Lib.hid (show optL b k = 0 by rw [optL, if_neg (by have := hn.out; omega), if_neg (by rw [← HX.out]; omega), if_pos (.inl (by have := hn.out; omega))])
            have d2 : decide (((n - k : Nat) : Int) < 2) = true := by simp; omega
            gi_wp2
            try rw [Exit.noGoto_normal]
            go_end0
            exact ⟨⟨_, rfl⟩, .inl ⟨pre, by rw [HP.out, rest_none HZ.out, List.append_nil], hJs⟩⟩
          · have d2 : decide (((n - k : Nat) : Int) < 2) = false := by simp; omega
            have kx1 := (hH.cell (p := ⟨b1, o1 + (k + 1), none⟩) hb1.1 hb1.2).trans (HC.out (k + 1) (by omega))
            have m0 := byt_lo b (k + 1); have m1 := byt_hi b (k + 1)
            obtain ⟨Y, hYY⟩ : ∃ y, y = byt b (k + 1) := ⟨_, rfl⟩
            rw [← hYY] at kx1 m0 m1
            rw [← Nat.add_assoc] at kx1
            have HY := Lib.hid hYY
            clear hYY
            by_cases y2 : Y < 2
            · have dy : decide (Y < 2) = true := by simpa using y2
              have HZ := Lib.hid (show optL b k = 0 by rw [optL, if_neg (by have := hn.out; omega), if_neg (by rw [← HX.out]; omega), if_pos (by rw [← HY.out]; have := hn.out; omega)])
              gi_wp2
              try rw [Exit.noGoto_normal]
              go_end0
              exact ⟨⟨_, rfl⟩, .inl ⟨pre, by rw [HP.out, rest_none HZ.out, List.append_nil], hJs⟩⟩
            · have dy : decide (Y < 2) = false := by simpa using y2
              by_cases yn : Y > (n : Int) - k
              · have dn : decide (Y > ((n - k : Nat) : Int)) = true := by simp; omega
                have HZ := Lib.hid (show optL b k = 0 by rw [optL, if_neg (by have := hn.out; omega), if_neg (by rw [← HX.out]; omega), if_pos (by rw [← HY.out]; have := hn.out; omega)])
                gi_wp2
                try rw [Exit.noGoto_normal]
                go_end0
                exact ⟨⟨_, rfl⟩, .inl ⟨pre, by rw [HP.out, rest_none HZ.out, List.append_nil], hJs⟩⟩
              · have dn : decide (Y > ((n - k : Nat) : Int)) = false := by simp; omega
                obtain ⟨z, hz⟩ : ∃ z : Nat, Y = (z : Int) := ⟨Y.toNat, by omega⟩
                subst hz
                have HS := Lib.hid (show optL b k = z by rw [optL, if_neg (by have := hn.out; omega), if_neg (by rw [← HX.out]; omega), if_neg (by rw [← HY.out]; have := hn.out; omega), ← HY.out]; rfl)
                have HL := Lib.hid (show places b = pre.map (·.at_) ++ k :: rest b (k + z) by rw [HP.out, rest_more (by rw [HS.out]; omega) (by rw [← HX.out]; omega), HS.out])
                have NXT : Hid (∃ more, places b = pre.map (·.at_) ++ k :: more) := Lib.hid ⟨_, HL.out⟩
                obtain ⟨D, hDd⟩ : ∃ l, l = (b.drop k).take z := ⟨_, rfl⟩
                have HDl := Lib.hid (show D.length = z by rw [hDd, List.length_take, List.length_drop]; have := hn.out; omega)
                have hAD : Arg wr wr.heap.size (some ⟨b1, o1 + k, none⟩) (c1 - k) D := by
                  rw [hDd]
                  have hh := (hArg wr hH).cut k (k + z) (by have := hn.out; omega)
                  rw [cutA, if_neg (by have := hn.out; omega)] at hh
                  have e : (b.take (k + z)).drop k = (b.drop k).take z := by rw [List.drop_take]; congr 1; omega
                  rw [e] at hh
                  simpa [add_off] using hh
                have HDD := Lib.hid hDd
                clear hDd
                gi_wp2_with (refine ⟨trivial, ?_⟩; gi_at_call 28; refine (callsIn_wide.2 (freshT_n (some ⟨b1, o1 + k, none⟩) D z (c1 - k) wr.heap.size _ HDl hAD (by omega))).mono ?_; rintro e w2 ⟨P2, p2, rfl, hA2, x2⟩; have hY2 := hY pre ⟨k, P2, p2, z⟩ w2 (hJA pre wr w2 none hJs (grown_none x2) (fun r e => by cases e)) ⟨NXT.out, HS.out.symm, HDD.out ▸ hA2⟩; obtain ⟨fn, tmps, assign, body, hy, hR⟩ := hY2; dsimp only [encO] at hy)
                refine hR.mono ?_
                rintro e W3 (⟨rfl, hJ3, hk3⟩ | ⟨rfl, hJx3⟩)
                · have hH3 := hH.trans ((Holds.of_below x2 (by have := hH.1; omega)).trans hk3)
                  have hb3 := (hH3.cell (p := ⟨Bs, 0, none⟩) hBs.1 hBs.2).trans hb
                  have kx3 := (hH3.cell (p := ⟨b1, o1 + k, none⟩) hb1.1 hb1.2).trans (HC.out k hlt)
                  rw [← HX.out] at kx3
                  clear hb' kx0 hy hR
                  gi_wp2
                  go_roundw
                  case rel => exact ⟨k + z, _, by omega, by simp, Lib.hid (by rw [List.map_append, HL.out, List.append_assoc]; rfl), hJ3, hH3⟩
                  case measure => simp [intOf]; omega
                · clear hb' kx0 hy hR
                  gi_wp2
                  try rw [Exit.noGoto_normal]
                  go_end0
                  exact ⟨⟨_, rfl⟩, .inr ⟨_, by obtain ⟨more, hm_⟩ := NXT.out; exact ⟨more, by rw [List.map_append, hm_, List.append_assoc]; rfl⟩, hJx3⟩⟩
    · have HZ := Lib.hid (show optL b k = 0 by rw [optL, if_pos (by have := hn.out; omega)])
      have dk : decide (k < n) = false := by simpa using hlt
      gi_wp2
      try rw [Exit.noGoto_normal]
      go_end0
      exact ⟨⟨_, rfl⟩, .inl ⟨pre, by rw [HP.out, rest_none HZ.out, List.append_nil], hJs⟩⟩
set_option maxRecDepth 100000 in
set_option maxHeartbeats 4000000 in
theorem opts0_in (m : Nat) (l Bs c1 : Nat) (A1 : Option Addr) (b : List UInt8) (hn : b.length = 0) (J Jx : List OI → World → Prop) (W : World)
    (hb : W.cell? ⟨Bs, 0, none⟩ = some (.slice A1 0 c1)) (hJ : J [] W) :
    CallsIn Fence.wide m Try.prog 38 #[.func (.yield l) #[] #[], .pointer (some ⟨Bs, 0, none⟩)] W fun e W' => (∃ v, e = .returned v) ∧
      ((∃ xs : List OI, xs.map (·.at_) = places b ∧ J xs W') ∨ (∃ pre : List OI, (∃ more, places b = pre.map (·.at_) ++ more) ∧ Jx pre W')) := by
  have HZ := Lib.hid (show places b = [] from rest_none (a := 0) (by unfold optL; rw [if_pos (by omega)]))
  clear hn
  refine callsIn_of_wp Try.func38 rfl trivial ?_ rfl
  simp only [Try.ntmps38, List.size_toArray, List.length_cons, List.length_nil, Nat.reduceAdd, Nat.reduceSub, Array.replicate_succ, Array.replicate_zero, List.push_toArray, List.append_toArray, List.nil_append, List.cons_append]
  refine wpIn_wide.2 (wp_scope_straight ((wpIn_wide (n := m)).1 ?_))
  gi_wp2
  refine wpIn_wide.2 (wp_label ?_)
  gi_wp2
  gi_loopw [3] (fun i wr => i = .int .i64 0 ∧ wr = W) (fun _ _ => 0)
  case atStart => exact ⟨rfl, rfl⟩
  case round =>
    obtain ⟨rfl, rfl⟩ := hrel
    gi_wp2
    try rw [Exit.noGoto_normal]
    go_end0
    exact ⟨⟨_, rfl⟩, .inl ⟨[], by rw [HZ.out]; rfl, hJ⟩⟩
/-- Options: new memory; an iterator that tells the options in order, each in memory of its own. -/
theorem opts_any (A : Option Addr) (bs : List UInt8) (c B : Nat) (w : World) (h : Arg w B A c bs) (hl : bs.length ≤ 1000000) :
    Calls Try.prog 18 #[.slice A bs.length c] w fun e w' => ∃ Bs, e = .returned (.func (.func 38) #[] #[.pointer (some ⟨Bs, 0, none⟩)]) ∧ Below w.heap.size w w' ∧
      (∀ m, 1 ≤ m → SeqTold m Try.prog 38 #[.pointer (some ⟨Bs, 0, none⟩)] encO (GO bs) (Holds w.heap.size w'.heap.size)
        (fun xs => xs.map (·.at_) = places bs) (fun pre => ∃ more, places bs = pre.map (·.at_) ++ more) w') := by
  obtain ⟨n, hn'⟩ : ∃ n, n = bs.length := ⟨_, rfl⟩
  have hn := Lib.hid hn'.symm
  have hfr := freshT_any A bs c B w h (by omega)
  rw [← hn'] at hfr hl ⊢
  clear hn'
  go_enter Try.func18, Try.ntmps18
  go_wp2_with (go_at_call 28; refine hfr.mono ?_; rintro e w1 ⟨v, rfl, hm⟩; obtain ⟨A2, c2, rfl, hle, _, ho, hb1⟩ := hm; rw [hn.out])
  go_ret
  have hbx := Boxed.new w1 22 (.slice A2 n c2)
  have hb2 : Below w.heap.size w (w1.alloc (.cells #[.slice A2 n c2] 22)) := hb1.alloc hb1.size _
  have hs : (w1.alloc (.cells #[.slice A2 n c2] 22)).heap.size = w1.heap.size + 1 := by simp
  have hA2 := Made.arg ho
  refine ⟨w1.heap.size, rfl, hb2, fun m hm l J Jx W hW hJa _ hY hJ => ?_⟩
  have hbW := (hW.cell (p := ⟨w1.heap.size, 0, none⟩) (by rw [hs]; simp)).trans hbx.cell
  by_cases h0 : n = 0
  · subst h0
    exact opts0_in m l w1.heap.size c2 A2 bs hn.out J Jx W hbW hJ
  · obtain ⟨b1, o1, e1, hlt1, hc1⟩ := hA2.rd (by rw [hn.out]; omega)
    subst e1
    have hge : w.heap.size ≤ b1 := by
      rcases ho.2 with ⟨e, _⟩ | ⟨g, cap, cur, e, hg, _⟩
      · cases e
      · cases e; exact hg
    refine opts1_in m hm l w.heap.size _ w1.heap.size b1 o1 c2 n bs hn hl (by rw [← hn.out]; exact hle) ⟨hb1.size, by rw [hs]; omega⟩ ⟨hge, by rw [hs]; omega⟩ J Jx W hW.size hJa hY hbW ?_ hJ
    intro j hj
    exact (hW.cell (p := ⟨b1, o1 + j, none⟩) (by rw [hs]; exact Nat.lt_succ_of_lt hlt1)).trans ((Below.cell ((Below.refl w1.heap.size w1).alloc (Nat.le_refl _) _) hlt1).trans (hc1 j (by rw [hn.out]; exact hj)))
end Go.Proofs.Ytodlfdnegcfhcaa

/-
  Contract of tcp.MSS. Conditions are each theorem's own.
-/
namespace Go.Proofs.Ytodlfdnegcfhcaa
open Go.RowKit Go.Shelf
attribute [local go_sem] Oper.semAt_some
theorem byt_take (b : List UInt8) {n j : Nat} (h : j < n) : byt (b.take n) j = byt b j := by simp [byt, h]
theorem loadv_int {w : World} {g : Nat} {v : Value} (h : Boxed w g 3 v) : (loadVar 3 ⟨g, 0, none⟩).run Try.prog w = .ok v w := by
  have hagg : (isAgg 3).run Try.prog w = .ok false w := by
    unfold isAgg
    rw [Sem.run_bind, run_underlying Try.underlying3 w]; rfl
  have hc := h.cell
  simp [loadVar, Sem.run_bind, hagg, hc]
theorem loadv_bool {w : World} {g : Nat} {v : Value} (h : Boxed w g 4 v) : (loadVar 4 ⟨g, 0, none⟩).run Try.prog w = .ok v w := by
  have hagg : (isAgg 4).run Try.prog w = .ok false w := by
    unfold isAgg
    rw [Sem.run_bind, run_underlying Try.underlying4 w]; rfl
  have hc := h.cell
  simp [loadVar, Sem.run_bind, hagg, hc]
theorem cells3 {fn : Func} {p q r : Tmp} {tmps : Array Value} {w : World} {g : Nat} {x y z : Value} (h : fn.results = #[.cell p 3, .cell q 3, .cell r 4])
    (hp : tmps.getD p undef = .pointer (some ⟨g, 0, none⟩)) (hq : tmps.getD q undef = .pointer (some ⟨g + 1, 0, none⟩)) (hr : tmps.getD r undef = .pointer (some ⟨g + 1 + 1, 0, none⟩))
    (h0 : Boxed w g 3 x) (h1 : Boxed w (g + 1) 3 y) (h2 : Boxed w (g + 1 + 1) 4 z) :
    (results fn tmps).run Try.prog w = .ok (.tuple #[x, y, z]) w := by
  have hp' : tmps[p]?.getD undef = .pointer (some ⟨g, 0, none⟩) := by simpa using hp
  have hq' : tmps[q]?.getD undef = .pointer (some ⟨g + 1, 0, none⟩) := by simpa using hq
  have hr' : tmps[r]?.getD undef = .pointer (some ⟨g + 1 + 1, 0, none⟩) := by simpa using hr
  simp [results, h, hp', hq', hr', asAddr, loadv_int h0, loadv_int h1, loadv_bool h2]
/-- Three results in blocks of their own, in a row. -/
structure Three (W : World) (g : Nat) (x y : Int) (z : Bool) : Prop where
  one : Boxed W g 3 (.int .i64 x)
  two : Boxed W (g + 1) 3 (.int .i64 y)
  three : Boxed W (g + 1 + 1) 4 (.bool z)
theorem Three.below {W V : World} {g n : Nat} {x y : Int} {z : Bool} (h : Three W g x y z) (hb : Below n W V) (hn : g + 1 + 1 < n) : Three V g x y z :=
  ⟨Boxed.below h.one hb (by omega), Boxed.below h.two hb (by omega), Boxed.below h.three hb hn⟩
theorem Three.kept {W V : World} {g n : Nat} {x y : Int} {z : Bool} {r : Option Nat} (h : Three W g x y z) (hg : W.grownBy V r) (hr : ∀ k, r = some k → n ≤ k ∧ ∃ o : Obj, W.heap[k]? = some o ∧ o.isCells = false) : Three V g x y z :=
  ⟨box_keep h.one hg hr, box_keep h.two hg hr, box_keep h.three hg hr⟩
theorem Three.set {W : World} {g : Nat} {x y : Int} {z : Bool} (h : Three W g x y z) (x' y' : Int) (z' : Bool) :
    Three (((W.setCell ⟨g, 0, none⟩ (.int .i64 x')).setCell ⟨g + 1, 0, none⟩ (.int .i64 y')).setCell ⟨g + 1 + 1, 0, none⟩ (.bool z')) g x' y' z' :=
  ⟨(((Boxed.set _ h.one).other (by omega) _).other (by omega) _), ((Boxed.set _ (h.two.other (by omega) _)).other (by omega) _), Boxed.set _ ((h.three.other (by omega) _).other (by omega) _)⟩
theorem find_split {α : Type} {p : α → Bool} {l pre more : List α} (h : l = pre ++ more) (hn : ∀ x ∈ pre, p x = false) : l.find? p = more.find? p := by
  subst h
  rw [List.find?_append, List.find?_eq_none.2 (fun x hx => by simp [hn x hx]), Option.none_or]
section
variable (q : PT) (A A' : Option Addr) (c c' : Nat) (w : World)
set_option maxRecDepth 100000 in
set_option maxHeartbeats 4000000 in
theorem cTmss (B : Nat) (hO : Arg w B A c q.opt) (hB0 : B ≤ w.heap.size) (ho0 : q.opt.length ≤ 1000000) :
    Calls Try.prog 10 #[tsv q A c A' c'] w fun e w' => e = .returned (.tuple #[.int .i64 (mssN q.opt), .int .i64 (mssA q.opt), .bool (mssK q.opt)]) ∧ Below w.heap.size w w' := by
  obtain ⟨W, hW⟩ : ∃ W, W = (((w.alloc (.cells (tsa q A c A' c') 37)).alloc (.cells #[.int .i64 0] 3)).alloc (.cells #[.int .i64 0] 3)).alloc (.cells #[.bool false] 4) := ⟨_, rfl⟩
  have hB : Below w.heap.size w W := by rw [hW]; exact ((((Below.refl w.heap.size w).alloc (Nat.le_refl _) _).alloc (by simp) _).alloc (by simp; omega) _).alloc (by simp; omega) _
  have hs : W.heap.size = w.heap.size + 4 := by rw [hW]; simp
  have k8 : W.cell? ⟨w.heap.size, 8, none⟩ = some (.slice A q.opt.length c) := by
    have h0 := (Atts.new (q := q) (A := A) (c := c) (A' := A') (c' := c') w).opt
    have hb : Below (w.heap.size + 1) (w.alloc (.cells (tsa q A c A' c') 37)) W := by rw [hW]; exact (((Below.refl _ _).alloc (by simp) _).alloc (by simp) _).alloc (by simp) _
    exact (hb.cell (p := ⟨w.heap.size, 8, none⟩) (Nat.lt_succ_self _)).trans h0
  have h3 : Three W (w.heap.size + 1) 0 0 false := by
    have e : ∀ (V : World) (o : Obj), (V.alloc o).heap[V.heap.size]? = some o := World.alloc_heap_new
    have s1 : (w.alloc (.cells (tsa q A c A' c') 37)).heap.size = w.heap.size + 1 := by simp
    have s2 : ((w.alloc (.cells (tsa q A c A' c') 37)).alloc (.cells #[.int .i64 0] 3)).heap.size = w.heap.size + 1 + 1 := by simp
    have s3 : (((w.alloc (.cells (tsa q A c A' c') 37)).alloc (.cells #[.int .i64 0] 3)).alloc (.cells #[.int .i64 0] 3)).heap.size = w.heap.size + 1 + 1 + 1 := by simp
    subst hW
    refine ⟨?_, ?_, ?_⟩
    · have := Boxed.new (w.alloc (.cells (tsa q A c A' c') 37)) 3 (.int .i64 0)
      rw [s1] at this
      exact (this.alloc _).alloc _
    · have := Boxed.new ((w.alloc (.cells (tsa q A c A' c') 37)).alloc (.cells #[.int .i64 0] 3)) 3 (.int .i64 0)
      rw [s2] at this
      exact this.alloc _
    · have := Boxed.new (((w.alloc (.cells (tsa q A c A' c') 37)).alloc (.cells #[.int .i64 0] 3)).alloc (.cells #[.int .i64 0] 3)) 4 (.bool false)
      rw [s3] at this
      exact this
  have hOW := hO.below (hB.mono hB0)
  have HS := Lib.hid hs
  clear hs
  rw [tsv_eq]
  refine (callsIn_wide (n := 4)).1 ?_
  refine callsIn_of_wp_marks Try.func10 rfl trivial ?_ rfl
  simp only [Try.ntmps10, List.size_toArray, List.length_cons, List.length_nil, Nat.reduceAdd, Nat.reduceSub, Array.replicate_succ, Array.replicate_zero, List.push_toArray, List.append_toArray, List.nil_append, List.cons_append]
  subst hW
  gi_wp2_with (refine ⟨trivial, ?_⟩; gi_at_call 18; refine (callsIn_wide.2 (opts_any A q.opt c B _ hOW ho0)).mono ?_; rintro e w1 ⟨Bs, rfl, x1, hseq⟩)
  clear k8
  generalize (((w.alloc (.cells (tsa q A c A' c') 37)).alloc (.cells #[.int .i64 0] 3)).alloc (.cells #[.int .i64 0] 3)).alloc (.cells #[.bool false] 4) = W at *
  have hz1 := x1.size
  have h31 := h3.below x1 (by have := HS.out; omega)
  have hB1 : Below w.heap.size w w1 := hB.trans (x1.mono (by have := HS.out; omega))
  have hz2 : w.heap.size + 4 ≤ w1.heap.size := by have := HS.out; omega
  clear h3 hB HS
  refine range_told (by omega) (gf := 38) (lb := #[.pointer (some ⟨Bs, 0, none⟩)]) rfl (enters_of Try.func38 (by kernel_rfl) rfl)
    (hseq (4 - 1) (by omega)) Holds.trans (fun V l r r' hl hr => Holds.b (Nat.le_refl _) V l _ _ hl hr rfl rfl) (Below.refl _ _) (fun _ => rfl)
    (fun pre x V l r r' h _ hl => GO.turn h hl)
    (fun pre X => (∀ x ∈ pre, mssB q.opt x.at_ = false) ∧ Three X (w.heap.size + 1) 0 0 false ∧ Below w.heap.size w X)
    (fun cd _ X => cd = .ret ∧ ∃ a, mssT q.opt = some a ∧ Three X (w.heap.size + 1) (n2 q.opt (a + 2)) (a : Int) true ∧ Below w.heap.size w X)
    (fun pre X Y r hs hg hr => ⟨hs.1, hs.2.1.kept hg hr, below_keep hs.2.2 hg hr (by omega) (Nat.le_refl _)⟩)
    (fun cd pre X Y r hs hg hr => by obtain ⟨h1, a, h2, h3, h4⟩ := hs; exact ⟨h1, a, h2, h3.kept hg hr, below_keep h4 hg hr (by omega) (Nat.le_refl _)⟩)
    ⟨by simp, h31, hB1⟩
    (fun x => { tmps := #[.agg (tsa q A c A' c'), .pointer (some ⟨w.heap.size, 0, none⟩), .pointer (some ⟨w.heap.size + 1, 0, none⟩), .pointer (some ⟨w.heap.size + 1 + 1, 0, none⟩), .pointer (some ⟨w.heap.size + 1 + 1 + 1, 0, none⟩), .int .i64 (x.at_ : Int), .slice x.A x.n x.c, undef, undef, .pointer (some ⟨w.heap.size, 8, none⟩), .slice A q.opt.length c, .func (.func 38) #[] #[.pointer (some ⟨Bs, 0, none⟩)], .int .i64 (x.at_ : Int), .slice x.A x.n x.c, undef, undef, undef, undef, undef, undef, undef, undef, undef, undef, undef, undef, undef, undef, undef, undef], defers := [] }) ?assign ?body ?done ?stop
  case assign =>
    intro l x X K hK
    dsimp only [encO]
    gi_wp2
    exact hK
  case body =>
    rintro l pre ⟨k, XA, xc, n⟩ X ⟨hpre, h3X, hBX⟩ ⟨hpl, hn, hAX⟩
    dsimp only at hpl hn hAX ⊢
    have hpl' := hpl
    obtain ⟨more, hmore⟩ := hpl
    have hn0 : 0 < optL q.opt k := places_mem (by rw [hmore]; simp)
    have hle := optL_le hn0
    rw [← hn] at hn0 hle
    obtain ⟨D, hD⟩ : ∃ D, D = (q.opt.drop k).take n := ⟨_, rfl⟩
    rw [← hD] at hAX
    have hDl : D.length = n := by rw [hD, List.length_take, List.length_drop]; omega
    have hDb : ∀ j, j < n → byt D j = byt q.opt (k + j) := fun j hj => by rw [hD, byt_take _ hj, byt_drop]
    have hcapX := hAX.cap
    obtain ⟨b0, off, e, hb0, hc0⟩ := hAX.rd (by omega)
    obtain rfl := e
    have kx0 := hc0 0 (by omega)
    rw [hDb 0 hn0, Nat.add_zero, Nat.add_zero] at kx0
    have HN := Lib.hid hn
    have HM := Lib.hid hmore
    have HP := Lib.hid hpre
    have no : mssB q.opt k = false → ∀ x ∈ pre ++ [⟨k, some ⟨b0, off, none⟩, xc, n⟩], mssB q.opt x.at_ = false := fun hk x hx => by
      rcases List.mem_append.1 hx with hx | hx
      · exact HP.out x hx
      · rw [List.mem_singleton.1 hx]; exact hk
    have HNO := Lib.hid no
    have Hle := Lib.hid hle
    clear hmore hn hpre hpl' no hle
    obtain ⟨Z, hZ⟩ : ∃ z, z = byt q.opt k := ⟨_, rfl⟩
    rw [← hZ] at kx0
    have HZ := Lib.hid hZ
    clear hZ
    by_cases z2 : Z = 2
    · subst z2
      by_cases n4 : n = 4
      · subst n4
        have hg := get_any (some ⟨b0, off, none⟩) D xc X.heap.size 2 2 X hAX.rd (by omega) hAX.cap
        rw [hDl, show getV D 2 2 = n2 q.opt (k + 2) from (get_two (b := D) (i := 2) (by omega)).trans (by unfold n2; rw [hDb 2 (by omega), hDb (2 + 1) (by omega)])] at hg
        have HG := Lib.hid hg
        obtain ⟨v, hv⟩ : ∃ v, v = n2 q.opt (k + 2) := ⟨_, rfl⟩
        have HV := Lib.hid hv
        rw [← hv] at hg
        clear hc0 hDb hD hDl HG hv
        have c1 := Boxed.cell h3X.one; have f1 := Boxed.frozen h3X.one
        have t2 := Boxed.other h3X.two (B' := w.heap.size + 1) (by omega) (.int .i64 v)
        have t3 := Boxed.other (Boxed.other h3X.three (B' := w.heap.size + 1) (by omega) (.int .i64 v)) (B' := w.heap.size + 1 + 1) (by omega) (.int .i64 (k : Int))
        have c2 := Boxed.cell t2; have f2 := Boxed.frozen t2
        have c3 := Boxed.cell t3; have f3 := Boxed.frozen t3
        gi_wp2_with (refine ⟨trivial, ?_⟩; gi_at_call 19; refine (callsIn_wide.2 hg).mono ?_; rintro e w' ⟨rfl, rfl⟩)
        have hT : mssT q.opt = some k := by
          unfold mssT
          rw [find_split HM.out (fun x hx => by obtain ⟨y, hy, rfl⟩ := List.mem_map.1 hx; exact HP.out y hy), List.find?_cons_of_pos (by unfold mssB; rw [← HZ.out, ← HN.out]; rfl)]
        exact ⟨(((KeepsOthers.setCell _ _ _).from _).trans ((KeepsOthers.setCell _ _ _).from _)).trans ((KeepsOthers.setCell _ _ _).from _), rfl, k, hT, by rw [← HV.out]; exact Three.set h3X _ _ _,
          ((hBX.setCell (p := ⟨w.heap.size + 1, 0, none⟩) (by simp) _).setCell (p := ⟨w.heap.size + 1 + 1, 0, none⟩) (by simp; omega) _).setCell (p := ⟨w.heap.size + 1 + 1 + 1, 0, none⟩) (by simp; omega) _⟩
      · have e4 : ((n : Int) == 4) = false := by simp; omega
        have hno := HNO.out (by unfold mssB; rw [← HN.out, decide_eq_false n4, Bool.and_false])
        have HNN := Lib.hid hno
        clear hno hc0 hDb hD hDl
        gi_wp2
        exact ⟨KeepsFrom.refl _ _, Holds.refl _ _ _, HNN.out, h3X, hBX⟩
    · have e2 : (Z == 2) = false := by simpa using z2
      have hno := HNO.out (by unfold mssB; rw [← HZ.out, decide_eq_false z2, Bool.false_and])
      have HNN := Lib.hid hno
      clear hno hc0 hDb hD hDl
      gi_wp2
      exact ⟨KeepsFrom.refl _ _, Holds.refl _ _ _, HNN.out, h3X, hBX⟩
  case done =>
    rintro D xs X hD hS ⟨hno, h3X, hBX⟩ hK
    have hT : mssT q.opt = none := by
      unfold mssT
      rw [← hS]
      exact List.find?_eq_none.2 (fun x hx => by obtain ⟨y, hy, rfl⟩ := List.mem_map.1 hx; rw [hno y hy]; simp)
    have HT := Lib.hid hT
    clear hT hno hS hseq hO hOW
    have hm1 : Marks w1.heap.size X.heap.size [{ target := .collected D, args := #[] }] X := (Marks.push (hi := D) (ds := []) trivial (Nat.le_refl _) hD hK).more (heap_lt hK)
    have c1 := Boxed.cell h3X.one; have f1 := Boxed.frozen h3X.one
    have t2 := Boxed.other h3X.two (B' := w.heap.size + 1) (by omega) (.int .i64 0)
    have t3 := Boxed.other (Boxed.other h3X.three (B' := w.heap.size + 1) (by omega) (.int .i64 0)) (B' := w.heap.size + 1 + 1) (by omega) (.int .i64 0)
    have c2 := Boxed.cell t2; have f2 := Boxed.frozen t2
    have c3 := Boxed.cell t3; have f3 := Boxed.frozen t3
    gi_wp2
    refine leaves_marks w1.heap.size (fun Y => Three Y (w.heap.size + 1) 0 0 false ∧ Below w.heap.size w Y) (fun Y D hY h1 h2 => ⟨hY.1.kept (n := w1.heap.size) (grownBy_putObj' Y D _) (fun k e => by cases e; exact ⟨h1, _, h2, rfl⟩), hY.2.trans (belowK_b (w := w) (Nat.le_refl _) Y D _ _ (by omega) h2 rfl rfl)⟩)
      (fun Y hY => ⟨_, cells3 rfl rfl rfl rfl hY.1.one hY.1.two hY.1.three, ?_, hY.2⟩) _ _ _ (hm1.keep (fun k h1 _ => (Below.heap_setCell _ _ _ _ (by simp; omega)).trans ((Below.heap_setCell _ _ _ _ (by simp; omega)).trans (Below.heap_setCell _ _ _ _ (by simp; omega)))))
      ⟨Three.set h3X _ _ _, ((hBX.setCell (p := ⟨w.heap.size + 1, 0, none⟩) (by simp) _).setCell (p := ⟨w.heap.size + 1 + 1, 0, none⟩) (by simp; omega) _).setCell (p := ⟨w.heap.size + 1 + 1 + 1, 0, none⟩) (by simp; omega) _⟩
    unfold mssN mssA mssK
    rw [HT.out]
    rfl
  case stop =>
    rintro D cd pre X hD _ ⟨rfl, a, ha, h3X, hBX⟩ hK
    gi_wp2
    have hm1 : Marks w1.heap.size X.heap.size [{ target := .collected D, args := #[] }] X := (Marks.push (hi := D) (ds := []) trivial (Nat.le_refl _) hD hK).more (heap_lt hK)
    refine leaves_marks w1.heap.size (fun Y => Three Y (w.heap.size + 1) (n2 q.opt (a + 2)) (a : Int) true ∧ Below w.heap.size w Y) (fun Y D hY h1 h2 => ⟨hY.1.kept (n := w1.heap.size) (grownBy_putObj' Y D _) (fun k e => by cases e; exact ⟨h1, _, h2, rfl⟩), hY.2.trans (belowK_b (w := w) (Nat.le_refl _) Y D _ _ (by omega) h2 rfl rfl)⟩)
      (fun Y hY => ⟨_, cells3 rfl rfl rfl rfl hY.1.one hY.1.two hY.1.three, ?_, hY.2⟩) _ _ X hm1 ⟨h3X, hBX⟩
    unfold mssN mssA mssK
    rw [ha]
    rfl
end
end Go.Proofs.Ytodlfdnegcfhcaa

/-
  Layer 8's awake, and what Build answers, in one shape. Conditions are each theorem's own.
-/
namespace Go.Proofs.Ytodlfdnegcfhcaa
open Go.RowKit

def resT (src dst : Int) (q : PT) : List UInt8 := if chkT q = 0 then bldT src dst q else []
theorem resT_shape {src dst : Int} {q : PT} {w w' : World} {v : Value} (h : (chkT q ≠ 0 → v = .slice none 0 0 ∧ Below w.heap.size w w') ∧ (chkT q = 0 → Made w w' v (bldT src dst q))) :
    ∃ P k, v = .slice P (resT src dst q).length k ∧ Rd w' w'.heap.size P (resT src dst q) ∧ Below w.heap.size w w' := by
  by_cases hc : chkT q = 0
  · obtain ⟨A, c, rfl, hl, hr, ho, hb⟩ := h.2 hc
    exact ⟨A, c, by rw [resT, if_pos hc], by rw [resT, if_pos hc]; exact hr, hb⟩
  · obtain ⟨rfl, hb⟩ := h.1 hc
    exact ⟨none, 0, by rw [resT, if_neg hc]; rfl, by rw [resT, if_neg hc]; exact Rd.nil, hb⟩
def qaT : PT := ⟨1, 2, 0, 0, 0, 0, 0, 0, [1, 2, 4, 5, 180, 1, 1, 1], []⟩
theorem argA {B g : Nat} {w : World} (hg : w.heap[g]? = some (.cells #[.int .u8 1, .int .u8 2, .int .u8 4, .int .u8 5, .int .u8 180, .int .u8 1, .int .u8 1, .int .u8 1] 5 (0, 0))) (hB : g < B) : Arg w B (some ⟨g, 0, none⟩) 8 qaT.opt :=
  ⟨Rd.of_block hg hB 0 (fun j hj => by
    have hj : j < 8 := hj
    rcases (by omega : j = 0 ∨ j = 1 ∨ j = 2 ∨ j = 3 ∨ j = 4 ∨ j = 5 ∨ j = 6 ∨ j = 7) with rfl | rfl | rfl | rfl | rfl | rfl | rfl | rfl <;> rfl), by decide, fun e => by cases e⟩
theorem mss_awake (g : Nat) (w : World) (ha : Arg w w.heap.size (some ⟨g, 0, none⟩) 8 qaT.opt) :
    Calls Try.prog 10 #[tsv qaT (some ⟨g, 0, none⟩) 8 none 0] w fun e w' => e = .returned (.tuple #[.int .i64 1460, .int .i64 1, .bool true]) ∧ Below w.heap.size w w' :=
  cTmss qaT (some ⟨g, 0, none⟩) none 8 0 w w.heap.size ha (Nat.le_refl _) (by decide)
theorem buildT_awake (g : Nat) (w : World) (ha : Arg w w.heap.size (some ⟨g, 0, none⟩) 8 qaT.opt) :
    Calls Try.prog 16 #[.int .i64 3, .int .i64 4, tsv qaT (some ⟨g, 0, none⟩) 8 none 0] w fun e w' => ∃ A c, e = .returned (.tuple #[.slice A 28 c, .int .i64 0]) ∧ Arg w' w'.heap.size A c (bldT 3 4 qaT) ∧ Below w.heap.size w w' := by
  have hc : chkT qaT = 0 := by decide
  have hlen : (bldT 3 4 qaT).length = 28 := bldT_len 3 4 qaT
  refine (cTbuild qaT (some ⟨g, 0, none⟩) 8 none 0 3 4 w w.heap.size ha (Arg.nil w _) (Nat.le_refl _) (by decide) (by decide)).mono ?_
  rintro e w' ⟨v, rfl, _, hm⟩
  obtain ⟨A, c, rfl, ha, ho, hb⟩ := made_shape (hm hc)
  exact ⟨A, c, by rw [hc, hlen], ha, hb⟩
theorem parseT_awake (A : Option Addr) (c B : Nat) (w : World) (h : Arg w B A c (bldT 3 4 qaT)) (hB : B ≤ w.heap.size) :
    Calls Try.prog 15 #[.int .i64 3, .int .i64 4, .slice A 28 c] w fun e w' => ∃ P p P' p', e = .returned (.tuple #[tsv qaT P p P' p', .int .i64 0]) ∧ Rd w' w'.heap.size P qaT.opt ∧ Rd w' w'.heap.size P' qaT.dat ∧ Below w.heap.size w w' := by
  have hlen : (bldT 3 4 qaT).length = 28 := bldT_len 3 4 qaT
  have hk := backT (src := 3) (dst := 4) (q := qaT) (by decide)
  have := cTparse (bldT 3 4 qaT) A c 3 4 w B h hB (by rw [hlen]; decide)
  rw [hk.1, hk.2, hlen] at this
  refine this.mono ?_
  rintro e w' ⟨P, p, P', p', rfl, hm, hm'⟩
  refine ⟨P, p, P', p', rfl, ?_, ?_, hm.below⟩
  · obtain ⟨_, _, e1, _, e3, _, _⟩ := id hm; cases e1; exact e3
  · obtain ⟨_, _, e1, _, e3, _, _⟩ := id hm'; cases e1; exact e3
end Go.Proofs.Ytodlfdnegcfhcaa

/-
  The struct api.ICMP as data: its cells, its value, a block that holds one. Conditions are each theorem's own.
-/
namespace Go.Proofs.Ytodlfdnegcfhcaa
open Go.RowKit Go.ChangeShapes Go.WideShapes

structure PI where
  typ : Int
  code : Int
  rest : Int
  dat : List UInt8
def isz : PI := ⟨0, 0, 0, []⟩
/-- Its cells. -/
def isa (q : PI) (A : Option Addr) (c : Nat) : Array Value := #[.int .i64 q.typ, .int .i64 q.code, .int .i64 q.rest, .slice A q.dat.length c]
def isv (q : PI) (A : Option Addr) (c : Nat) : Value := .agg #[.int .i64 q.typ, .int .i64 q.code, .int .i64 q.rest, .slice A q.dat.length c]
theorem isv_eq (q : PI) (A : Option Addr) (c : Nat) : isv q A c = .agg (isa q A c) := rfl
def PI.fits (q : PI) : Prop := ∀ n ∈ [q.typ, q.code, q.rest], (Lit.int .i64 n).wf = true
theorem isa_size (q : PI) (A : Option Addr) (c : Nat) : (isa q A c).size = 4 := rfl
theorem is_one (q : PI) (A : Option Addr) (c : Nat) : (isa q A c).all (·.oneCell') = true := by simp [isa, Value.oneCell']
section
variable {H : Type} {enc : TypeId × Value → H} {w : World} {base : Nat} {v : Value} {d : DataW H} {p : List MemPlace}
set_option maxRecDepth 100000 in
theorem get_is (hv : Value.okWide Try.prog w .any base 104 v) (h : DataW.Trod enc Try.prog w 0 (fun _ => true) true 104 v d p) :
    ∃ q A c, v = isv q A c ∧ Arg w w.heap.size A c q.dat ∧ c ≤ maxLen ∧ q.fits := by
  obtain ⟨cs, rfl, hcs⟩ : ∃ cs, v = .agg cs ∧ cs.size = Try.prog.cellsOf 104 := by
    have := hv
    simp only [Value.okWide, Try.underlying104] at this
    obtain ⟨cs, h1, h2, _⟩ := this
    exact ⟨cs, h1, h2⟩
  obtain ⟨fuel, hf⟩ := h
  obtain ⟨xs, n, _, _, hl, hxs, hall⟩ := DataW.trod_struct Try.underlying104 hf
  have hci : Try.prog.cellsOf 3 = 1 := by kernel_rfl
  have hcy : Try.prog.cellsOf 22 = 1 := by kernel_rfl
  have hcu : Try.prog.cellsOf 5 = 1 := by kernel_rfl
  have hcn : Try.prog.cellsOf 104 = 4 := by kernel_rfl
  obtain ⟨l⟩ := cs
  have hl' : l.length = 4 := by rw [← hcn]; exact hl
  have hall' : ∀ (i : Nat) (f : Field), _ → DataW.trod enc Try.prog w 0 (fun _ => true) true n f.type ((l.drop f.offset).take (Try.prog.cellsOf f.type)) = xs[i]? := hall
  match xs, hxs with
  | [y0, y1, y2, y3], _ =>
    have h0 : DataW.trod enc Try.prog w 0 (fun _ => true) true n 3 ((l.drop 0).take (Try.prog.cellsOf 3)) = some y0 := hall' 0 _ rfl
    rw [hci] at h0
    obtain ⟨a0, e0, f0⟩ := cell_int Try.underlying3 h0
    have h1 : DataW.trod enc Try.prog w 0 (fun _ => true) true n 3 ((l.drop 1).take (Try.prog.cellsOf 3)) = some y1 := hall' 1 _ rfl
    rw [hci] at h1
    obtain ⟨a1, e1, f1⟩ := cell_int Try.underlying3 h1
    have h2 : DataW.trod enc Try.prog w 0 (fun _ => true) true n 3 ((l.drop 2).take (Try.prog.cellsOf 3)) = some y2 := hall' 2 _ rfl
    rw [hci] at h2
    obtain ⟨a2, e2, f2⟩ := cell_int Try.underlying3 h2
    have h3 : DataW.trod enc Try.prog w 0 (fun _ => true) true n 22 ((l.drop 3).take (Try.prog.cellsOf 22)) = some y3 := hall' 3 _ rfl
    rw [hcy] at h3
    obtain ⟨A3, c3, a3, e3, f3, g3⟩ := cell_bytes Try.underlying22 Try.underlying5 hcu h3
    have k0 := piece_get e0
    have k1 := piece_get e1
    have k2 := piece_get e2
    have k3 := piece_get e3
    have el : l = [.int .i64 a0, .int .i64 a1, .int .i64 a2, .slice A3 a3.length c3] := by
      match l, hl' with
      | [x0, x1, x2, x3], _ => simp at k0 k1 k2 k3; simp [k0, k1, k2, k3]
    refine ⟨⟨a0, a1, a2, a3⟩, A3, c3, by rw [el]; rfl, f3, g3, ?_⟩
    intro m hm
    simp only [List.mem_cons, List.not_mem_nil, or_false] at hm
    rcases hm with rfl | rfl | rfl <;> assumption
end
/-- It lies in a block of its own. -/
def Atis (W : World) (g : Nat) (q : PI) (A : Option Addr) (c : Nat) : Prop := W.rangeAt g 0 (isa q A c).toList
section
variable {W : World} {g : Nat} {q : PI} {A : Option Addr} {c : Nat}
theorem Atis.new (w : World) : Atis (w.alloc (.cells (isa q A c) 104)) w.heap.size q A c := fun j v hj => by
  rw [Nat.zero_add, World.cell?_alloc_new, ← hj, Array.getElem?_toList]
theorem Atis.of_heap {t : TypeId} {fr : Nat × Nat} (h : W.heap[g]? = some (.cells (isa q A c) t fr)) : Atis W g q A c := fun j v hj => by
  rw [cell_of_row W g (0 + j) _ _ _ h, Nat.zero_add, ← Array.getElem?_toList]; exact hj
theorem Atis.below {w : World} {B : Nat} (h : Atis W g q A c) (hb : Below B W w) (hg : g < B) : Atis w g q A c := range_below h hg hb
theorem Atis.typ (h : Atis W g q A c) : W.cell? ⟨g, 0, none⟩ = some (.int .i64 q.typ) := h 0 _ rfl
theorem Atis.code (h : Atis W g q A c) : W.cell? ⟨g, 1, none⟩ = some (.int .i64 q.code) := h 1 _ rfl
theorem Atis.rest (h : Atis W g q A c) : W.cell? ⟨g, 2, none⟩ = some (.int .i64 q.rest) := h 2 _ rfl
theorem Atis.dat (h : Atis W g q A c) : W.cell? ⟨g, 3, none⟩ = some (.slice A q.dat.length c) := h 3 _ rfl
end
theorem run_load_is {o : Oper} {a : Act} {w : World} {x : Operand} {g : Nat} {cs : List Value} (ho : o.op = .load 104 x) (hx : a.eval x = .pointer (some ⟨g, 0, none⟩)) (hr : w.rangeAt g 0 cs) (hl : cs.length = 4) :
    (execOp a.eval o).run Try.prog w = .ok (.value (.agg cs.toArray)) w := by
  have h := run_loadVar_mid (P := Try.prog) w g 0 104 cs _ hr Try.underlying104 rfl (by rw [hl]; kernel_rfl)
  unfold execOp
  simp only [ho, hx, Instr.loadAt, Instr.sureAddr, Sem.run_bind, Sem.run_pure, Result.andThen_ok, h]
theorem is_store {ops : Array Oper} {rest : List Oper} {x y : Operand} {ty : TypeId} {pos : String} {af : Array Edge} {a : Act} {w : World} {Q : Exit → Act → World → Prop}
    {g : Nat} {t : TypeId} {cs old : Array Value} (hx : a.eval x = .pointer (some ⟨g, 0, none⟩)) (hy : a.eval y = .agg cs) (hg : w.heap[g]? = some (.cells old t (0, 0))) (ho : old.size = 4) (hl : cs.size = 4) (h1 : cs.all (·.oneCell') = true)
    (h : wpList Try.prog ops Q rest (a.put none undef) (w.setRow g cs)) : wpList Try.prog ops Q (⟨none, .store 104 x y, ty, pos, af, none⟩ :: rest) a w :=
  wpList_plain rfl fun _ hK => wp_store_row 104 x y rfl g cs hx hy t old hg (by rw [hl]; kernel_rfl) (by rw [ho, hl]) h1 (hK _ _ h)
theorem is_store_new {ops : Array Oper} {rest : List Oper} {x y : Operand} {ty : TypeId} {pos : String} {af : Array Edge} {a : Act} {w : World} {Q : Exit → Act → World → Prop}
    {t : TypeId} {cs old : Array Value} (hx : a.eval x = .pointer (some ⟨w.heap.size, 0, none⟩)) (hy : a.eval y = .agg cs) (ho : old.size = 4) (hl : cs.size = 4) (h1 : cs.all (·.oneCell') = true)
    (h : wpList Try.prog ops Q rest (a.put none undef) (w.alloc (.cells cs t))) : wpList Try.prog ops Q (⟨none, .store 104 x y, ty, pos, af, none⟩ :: rest) a (w.alloc (.cells old t)) :=
  is_store hx hy (World.alloc_heap_new w _) ho hl h1 (by rw [World.setRow_alloc_new]; exact h)
theorem is_result {fn : Func} {p : Tmp} {tmps : Array Value} {w : World} {g : Nat} {t : TypeId} {cs : Array Value} {fr : Nat × Nat} (h : fn.results = #[.cell p 104])
    (hp : tmps.getD p undef = .pointer (some ⟨g, 0, none⟩)) (hg : w.heap[g]? = some (.cells cs t fr)) (hl : cs.size = 4) : (results fn tmps).run Try.prog w = .ok (.agg cs) w :=
  results_cell_row h tmps w g t cs fr _ hp hg Try.underlying104 rfl (by rw [hl]; kernel_rfl)
theorem is_load_run {w : World} {g : Nat} {t : TypeId} {cs : Array Value} {fr : Nat × Nat} (hg : w.heap[g]? = some (.cells cs t fr)) (hl : cs.size = 4) : (loadVar 104 ⟨g, 0, none⟩).run Try.prog w = .ok (.agg cs) w :=
  run_loadVar_row w g t 104 cs fr _ hg Try.underlying104 rfl (by rw [hl]; kernel_rfl)
end Go.Proofs.Ytodlfdnegcfhcaa

/-
  Messages of ICMP in plain lists of bytes: what may be, its bytes, what bytes are; of both layers (a sum that is of other bytes, too). No program. Conditions are each theorem's own.
-/
namespace Go.Proofs.Ytodlfdnegcfhcaa
open Go.RowKit

def argI (q : PI) : Prop := 0 ≤ q.typ ∧ q.typ ≤ 255 ∧ 0 ≤ q.code ∧ q.code ≤ 255 ∧ 0 ≤ q.rest ∧ q.rest < 4294967296
instance (q : PI) : Decidable (argI q) := by unfold argI; infer_instance
def chkI (q : PI) : Int := if argI q then (if q.dat.length > 65527 then 6 else 0) else 1
theorem chkI_ok {q : PI} (h : chkI q = 0) : argI q ∧ q.dat.length ≤ 65527 := by
  unfold chkI at h
  split at h
  · rename_i ha
    split at h
    · cases h
    · exact ⟨ha, by omega⟩
  · cases h
theorem argI_iff (q : PI) : argI q ↔ (fitsB q.typ 1 = true ∧ fitsB q.code 1 = true ∧ fitsB q.rest 4 = true) := by
  rw [fitsB_iff, fitsB_iff, fitsB_iff, pw1, pw4, argI]; omega
/-- A head. -/
def hdI (q : PI) (s : Int) : List UInt8 := [u8 q.typ, u8 q.code] ++ be2 s ++ be4 q.rest
theorem hdI_len (q : PI) (s : Int) : (hdI q s).length = 8 := by simp [hdI, be2, be4]
/-- The sum of a message and of other bytes. -/
def smI (p : List UInt8) (q : PI) : Int := 65535 - fold (psum [p, hdI q 0, q.dat])
theorem smI_bd (p : List UInt8) (q : PI) : 0 ≤ smI p q ∧ smI p q ≤ 65535 := by
  have := fold_bd (psum [p, hdI q 0, q.dat]); unfold smI; omega
def bldI (p : List UInt8) (q : PI) : List UInt8 := hdI q (smI p q) ++ q.dat
theorem bldI_len (p : List UInt8) (q : PI) : (bldI p q).length = 8 + q.dat.length := by rw [bldI, List.length_append, hdI_len]
/-- What is wrong with bytes; nothing: 0. -/
def badI (p b : List UInt8) : Int := if b.length < 8 then 3 else if b.length > 65535 then 6 else if rightB [p, b] = false then 5 else 0
def rawI (b : List UInt8) : PI := ⟨byt b 0, byt b 1, n4 b 4, b.drop 8⟩
def prsI (p b : List UInt8) : PI := if badI p b = 0 then rawI b else isz
/-- Are two the same? -/
def sameI (q r : PI) : Bool := (q.typ == r.typ) && (q.code == r.code) && (q.rest == r.rest) && decide (q.dat = r.dat)
theorem sameI_iff {q r : PI} : sameI q r = true ↔ q = r := by
  obtain ⟨a0, a1, a2, a3⟩ := q
  obtain ⟨b0, b1, b2, b3⟩ := r
  simp only [sameI, Bool.and_eq_true, beq_iff_eq, decide_eq_true_eq, PI.mk.injEq]
  constructor
  · rintro ⟨⟨⟨h0, h1⟩, h2⟩, h3⟩; exact ⟨h0, h1, h2, h3⟩
  · rintro ⟨h0, h1, h2, h3⟩; exact ⟨⟨⟨h0, h1⟩, h2⟩, h3⟩
theorem psum_nil (l : List (List UInt8)) : psum ([] :: l) = psum l := by rw [psum_cons]; simp [wall, prs, wsum]
theorem rightB_nil (b : List UInt8) : rightB [[], b] = rightB [b] := by rw [rightB, rightB, psum_nil]
theorem psum_glueI (p : List UInt8) (q : PI) (s : Int) : psum [p, hdI q s, q.dat] = psum [p, hdI q s ++ q.dat] := psum_glue _ _ _ (m := 4) (hdI_len q s)
theorem smI_two (p : List UInt8) (q : PI) : smI p q = 65535 - fold (psum [p, hdI q 0 ++ q.dat]) := by rw [smI, psum_glueI]
theorem smI_one (q : PI) : smI [] q = 65535 - fold (psum [hdI q 0 ++ q.dat]) := by rw [smI_two, psum_nil]
theorem smI_nil (q : PI) : smI [] q = 65535 - fold (psum [hdI q 0, q.dat]) := by rw [smI, psum_nil]
theorem hdI_wall (q : PI) {s : Int} (h0 : 0 ≤ s) (h1 : s ≤ 65535) : wall (hdI q s) = wall (hdI q 0) + s := by
  have z : ∀ n : Int, 0 ≤ n → n ≤ 65535 → wall (hdI q n) = wall [u8 q.typ, u8 q.code] + n + wall (be4 q.rest) := fun n a b => by
    rw [hdI, wall_append (m := 2) (by simp [be2]), wall_append (m := 1) (by simp), be2_wall a b]
  rw [z s h0 h1, z 0 (by omega) (by omega)]; omega
/-- What is built is right. -/
theorem bldI_right (p : List UInt8) (q : PI) : rightB [p, bldI p q] = true := by
  have e : psum [p, bldI p q] = psum [p, hdI q 0, q.dat] + smI p q := by
    rw [bldI, ← psum_glueI]
    simp only [psum_cons]
    rw [hdI_wall q (smI_bd p q).1 (smI_bd p q).2]; omega
  have hs : smI p q = 65535 - fold (psum [p, hdI q 0, q.dat]) := rfl
  rw [rightB, e, right_of (psum_nn _) hs]; rfl
theorem backI {p : List UInt8} {q : PI} (h : chkI q = 0) : badI p (bldI p q) = 0 ∧ prsI p (bldI p q) = q := by
  obtain ⟨⟨a1, a2, a3, a4, a5, a6⟩, hl⟩ := chkI_ok h
  have hlen := bldI_len p q
  have f0 : byt (bldI p q) 0 = q.typ := by
    have e : byt (bldI p q) 0 = q.typ % 256 := u8_val q.typ
    omega
  have f1 : byt (bldI p q) 1 = q.code := by
    have e : byt (bldI p q) 1 = q.code % 256 := u8_val q.code
    omega
  have f4 : n4 (bldI p q) 4 = q.rest := by
    rw [bldI, hdI, List.append_assoc]; exact n4_be4 (a := [u8 q.typ, u8 q.code] ++ be2 (smI p q)) a5 a6 rfl
  have hb : badI p (bldI p q) = 0 := by
    unfold badI
    rw [if_neg (by omega), if_neg (by omega), if_neg (by rw [bldI_right]; simp)]
  refine ⟨hb, ?_⟩
  rw [prsI, if_pos hb, rawI, f0, f1, f4]
  have hd : (bldI p q).drop 8 = q.dat := by rw [bldI, List.drop_left' (hdI_len q _)]
  rw [hd]
/-- What is answered beside an error. -/
def resI (p : List UInt8) (q : PI) : List UInt8 := if chkI q = 0 then bldI p q else []
/-- A sum set in its place. -/
theorem setI (q : PI) (t s : Int) (d : List UInt8) (h0 : 0 ≤ s) (h1 : s ≤ 65535) : setB (hdI q t ++ d) 2 s 2 = hdI q s ++ d := by
  rw [setB, if_pos ⟨fitsB_iff.2 ⟨by omega, by omega, h0, by simp [pw]; omega⟩, by omega, by rw [List.length_append, hdI_len]; omega⟩]
  have e : digs s (2 : Int).toNat = be2 s := digs_two h0
  rw [e, show (2 : Int).toNat = 2 from rfl, hdI, List.append_assoc, List.append_assoc, splice_mid _ _ _ 2 rfl, hdI]
  simp [be2]
/-- What a message's sum is of, too, between two addresses. -/
def psJ (src dst : List UInt8) (next size : Int) : List UInt8 := src ++ dst ++ be4 size ++ [u8 0, u8 0, u8 0, u8 next]
theorem psJ_len {src dst : List UInt8} (next size : Int) (h1 : src.length = 16) (h2 : dst.length = 16) : (psJ src dst next size).length = 40 := by simp [psJ, be4, h1, h2]
def preJ (src dst b : List UInt8) : List UInt8 := psJ src dst 58 (b.length : Int)
/-- A message's bytes between two addresses. -/
def bldJ (src dst : List UInt8) (q : PI) : List UInt8 := bldI (psJ src dst 58 (8 + (q.dat.length : Int))) q
theorem bldJ_len (src dst : List UInt8) (q : PI) : (bldJ src dst q).length = 8 + q.dat.length := bldI_len _ q
theorem preJ_bld (src dst : List UInt8) (q : PI) : preJ src dst (bldJ src dst q) = psJ src dst 58 (8 + (q.dat.length : Int)) := by rw [preJ, bldJ_len]; simp
theorem backJ {src dst : List UInt8} {q : PI} (h : chkI q = 0) : badI (preJ src dst (bldJ src dst q)) (bldJ src dst q) = 0 ∧ prsI (preJ src dst (bldJ src dst q)) (bldJ src dst q) = q := by
  rw [preJ_bld]; exact backI h
/-- Which kinds tell of a fault, which ask. -/
def fltI (k : Int) : Bool := decide (k ∈ [3, 4, 5, 11, 12])
def qryI (k : Int) : Bool := decide (k ∈ [8, 0])
def fltJ (k : Int) : Bool := decide (1 ≤ k ∧ k ≤ 127)
theorem fltqry (k : Int) : (fltI k && qryI k) = false := by
  cases h : fltI k
  · rfl
  · cases h2 : qryI k
    · rfl
    · simp [fltI] at h; simp [qryI] at h2; omega
/-- A message's identifier, and the message with another one. -/
def idI (q : PI) : Int := q.rest / 65536 % 65536
def wdI (q : PI) (id : Int) : PI := ⟨q.typ, q.code, id % 65536 * 65536 + q.rest % 65536, q.dat⟩
end Go.Proofs.Ytodlfdnegcfhcaa
