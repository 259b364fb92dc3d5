/-
  Contracts and lemmas on which the proofs of this seat stand (several texts in one). Conditions are each theorem's own.
-/
import Derived.Test.YtodlfdnegcfhcaaGreatMd1
import Derived.Handy

/-
  A packet from another endpoint, to another endpoint. Conditions are each theorem's own.
-/
namespace Go.Proofs.YtodlfdnegcfhcaaGreat
open Go.RowKit

def srcP (q : P4) (a : Int) : P4 := ⟨q.tos, q.id, q.off, q.ttl, q.proto, a, q.dst, q.df, q.mf, q.opt, q.dat⟩
def dstP (q : P4) (a : Int) : P4 := ⟨q.tos, q.id, q.off, q.ttl, q.proto, q.src, a, q.df, q.mf, q.opt, q.dat⟩
/-- TwoB blocks of a function's own: a parameter as it stands, a result that may be anything yet. -/
def TwoB (w : World) (U : Array Value) (t : TypeId) (n : Nat) (w' : World) : Prop := Below w.heap.size w w' ∧ w'.heap[w.heap.size]? = some (.cells U t (0, 0)) ∧ ∃ cs : Array Value, cs.size = n ∧ w'.heap[w.heap.size + 1]? = some (.cells cs t (0, 0))
section
variable {w w1 w2 : World} {U : Array Value} {t n : Nat}
theorem TwoB.lt (h : TwoB w U t n w1) : w.heap.size + 1 < w1.heap.size := by obtain ⟨_, _, cs, _, hg⟩ := h; exact heap_lt hg
theorem TwoB.drew (h : TwoB w U t n w1) : TwoB w U t n w1.drew := ⟨h.1.drew, h.2⟩
theorem TwoB.step (h : TwoB w U t n w1) (hb : Below w1.heap.size w1 w2) : TwoB w U t n w2 := by
  have hl := h.lt
  obtain ⟨hB, hu, cs, hn, hg⟩ := h
  exact ⟨hB.trans (hb.mono hB.size), (hb.block _ (by omega)).trans hu, cs, hn, (hb.block _ hl).trans hg⟩
theorem TwoB.row (h : TwoB w U t n w1) (cs : Array Value) (hc : cs.size = n) : TwoB w U t n (w1.setRow (w.heap.size + 1) cs) := by
  obtain ⟨hB, hu, cs', _, hg⟩ := h
  refine ⟨below_row hB (by omega), ?_, cs, hc, setRow_heap _ _ _ _ _ _ hg⟩
  exact (setRow_other w1 (w.heap.size + 1) w.heap.size cs (by omega)).trans hu
end
section
variable (q : P4) (A : Option Addr) (c : Nat) (A' : Option Addr) (c' : Nat) (w : World)
set_option maxRecDepth 100000 in
set_option maxHeartbeats 4000000 in
theorem cFromE (ho : q.opt.length ≤ 1000000) (hl : q.dat.length ≤ 900000) (B : Nat) (hD : Arg w B A' c' q.dat) (hB0 : B ≤ w.heap.size) (ad n : Int) (he : ofE q ≠ 0) : Calls Tryz.prog 11 #[v4v q A c A' c', .int .i64 ad, .int .i64 n] w fun e w' => ∃ P p P' p', e = .returned (.tuple #[v4v p4z P p P' p', .int .i64 (ofE q)]) ∧ Made w w' (.slice P p4z.opt.length p) p4z.opt ∧ Made w w' (.slice P' p4z.dat.length p') p4z.dat := by
  obtain ⟨E, hE⟩ : ∃ n, n = ofE q := ⟨_, rfl⟩
  have HE := Lib.hid hE
  have dE : (E != 0) = true := by simpa [hE] using he
  rw [← hE]
  clear he hE
  have hB : Below w.heap.size w ((w.alloc (.cells (v4a q A c A' c') 24)).alloc (.cells (v4a p4z none 0 none 0) 24)) := below_two w _ _
  have hU0 : ((w.alloc (.cells (v4a q A c A' c') 24)).alloc (.cells (v4a p4z none 0 none 0) 24)).heap[w.heap.size]? = some (.cells (v4a q A c A' c') 24 (0, 0)) := (Below.heap_alloc (w.alloc (.cells (v4a q A c A' c') 24)) _ w.heap.size (by simp)).trans (World.alloc_heap_new w _)
  have hR0 : ((w.alloc (.cells (v4a q A c A' c') 24)).alloc (.cells (v4a p4z none 0 none 0) 24)).heap[w.heap.size + 1]? = some (.cells (v4a p4z none 0 none 0) 24 (0, 0)) := by
    have := World.alloc_heap_new (w.alloc (.cells (v4a q A c A' c') 24)) (.cells (v4a p4z none 0 none 0) 24)
    rwa [World.size_alloc] at this
  rw [v4q_eq]
  go_enter Tryz.func11, Tryz.ntmps11
  go_upto_region 1 with fail
  rw [show #[.int .i64 0, .int .i64 0, .int .i64 0, .int .i64 0, .int .i64 0, .int .i64 0, .int .i64 0, .bool false, .bool false, .slice none 0 0, .slice none 0 0] = v4a p4z none 0 none 0 from rfl]
  generalize (w.alloc (.cells (v4a q A c A' c') 24)).alloc (.cells (v4a p4z none 0 none 0) 24) = W at *
  have at0 := At4.of_heap hU0
  have hD0 := hD.below (hB.mono hB0)
  go_wp2_with (first
    | ((with_reducible show wpList _ _ _ (Oper.mk _ (Op.load 24 _) _ _ _ _ :: _) _ _); refine wpList_val rfl (run_load_v4 rfl rfl at0 rfl) ?_)
    | (go_at_call 30; refine (cOpen q A c A' c' W ho hl B hD0 (Nat.le_trans hB0 hB.size)).mono ?_; rintro e w1 ⟨v, rfl, hOp⟩; rw [← HE.out]; have x1 := hOp.1; have hR1 := (x1.block (w.heap.size + 1) (heap_lt hR0)).trans hR0; have b1 := hB.trans (x1.mono hB.size))
    | ((with_reducible show wpList _ _ _ (Oper.mk _ (Op.store 24 _ _) _ _ _ _ :: _) _ _); refine v4_store (g := w.heap.size + 1) (cs := v4a p4z none 0 none 0) rfl rfl hR1 rfl rfl (v4a_one _ _ _ _ _) ?_))
  exact bodyPost_ret (res2 rfl rfl (run_loadVar_row _ _ _ 24 (v4a p4z none 0 none 0) _ _ (setRow_heap _ _ _ _ _ _ hR1) Tryz.underlying24 rfl (by kernel_rfl))) rfl ⟨none, 0, none, 0, rfl, Made.nil _ _ (below_row b1 (by omega)), Made.nil _ _ (below_row b1 (by omega))⟩
set_option maxRecDepth 100000 in
set_option maxHeartbeats 4000000 in
theorem cFromA (ho : q.opt.length ≤ 1000000) (hl : q.dat.length ≤ 900000) (B : Nat) (hD : Arg w B A' c' q.dat) (hB0 : B ≤ w.heap.size) (ad n : Int) (he : ofE q = 0) (ha : ¬ (isAd ad ∧ isPt n)) : Calls Tryz.prog 11 #[v4v q A c A' c', .int .i64 ad, .int .i64 n] w fun e w' => ∃ P p P' p', e = .returned (.tuple #[v4v p4z P p P' p', .int .i64 1]) ∧ Made w w' (.slice P p4z.opt.length p) p4z.opt ∧ Made w w' (.slice P' p4z.dat.length p') p4z.dat := by
  have HE := Lib.hid he
  have hc4 := (of_ok he).1
  have HM := Lib.hid (show decide (chk4 (srcP q ad) = 0 ∧ isPt n) = false by
    rw [decide_eq_false_iff_not]
    rintro ⟨h1, h2⟩
    exact ha ⟨(of_ad h1).1, h2⟩)
  clear he ha hc4
  have hB : Below w.heap.size w ((w.alloc (.cells (v4a q A c A' c') 24)).alloc (.cells (v4a p4z none 0 none 0) 24)) := below_two w _ _
  have hU0 : ((w.alloc (.cells (v4a q A c A' c') 24)).alloc (.cells (v4a p4z none 0 none 0) 24)).heap[w.heap.size]? = some (.cells (v4a q A c A' c') 24 (0, 0)) := (Below.heap_alloc (w.alloc (.cells (v4a q A c A' c') 24)) _ w.heap.size (by simp)).trans (World.alloc_heap_new w _)
  have hR0 : ((w.alloc (.cells (v4a q A c A' c') 24)).alloc (.cells (v4a p4z none 0 none 0) 24)).heap[w.heap.size + 1]? = some (.cells (v4a p4z none 0 none 0) 24 (0, 0)) := by
    have := World.alloc_heap_new (w.alloc (.cells (v4a q A c A' c') 24)) (.cells (v4a p4z none 0 none 0) 24)
    rwa [World.size_alloc] at this
  rw [v4q_eq]
  go_enter Tryz.func11, Tryz.ntmps11
  go_upto_region 1 with fail
  rw [show #[.int .i64 0, .int .i64 0, .int .i64 0, .int .i64 0, .int .i64 0, .int .i64 0, .int .i64 0, .bool false, .bool false, .slice none 0 0, .slice none 0 0] = v4a p4z none 0 none 0 from rfl]
  generalize (w.alloc (.cells (v4a q A c A' c') 24)).alloc (.cells (v4a p4z none 0 none 0) 24) = W at *
  have at0 := At4.of_heap hU0
  have hD0 := hD.below (hB.mono hB0)
  go_upto_region 4 with (first
    | ((with_reducible show wpList _ _ _ (Oper.mk _ (Op.load 24 _) _ _ _ _ :: _) _ _); refine wpList_val rfl (run_load_v4 rfl rfl at0 rfl) ?_)
    | (go_at_call 30; refine (cOpen q A c A' c' W ho hl B hD0 (Nat.le_trans hB0 hB.size)).mono ?_; rintro e w1 ⟨v, rfl, hOp⟩; rw [HE.out]))
  have x1 := hOp.1
  have b1 := hB.trans (x1.mono hB.size)
  have hR1 := (x1.block (w.heap.size + 1) (heap_lt hR0)).trans hR0
  have hU1 := (x1.block w.heap.size (heap_lt hU0)).trans hU0
  have zR := heap_lt hR0
  have zx := x1.size
  have ka := (At4.of_heap hU1).src
  have fa := heap_frozen hU1 5
  go_upto_region 5 with fail
  have hU2 : (w1.setCell ⟨w.heap.size, 5, none⟩ (.int .i64 ad)).heap[w.heap.size]? = some (.cells (v4a (srcP q ad) A c A' c') 24 (0, 0)) := heap_setCell_same w1 w.heap.size 5 _ _ (.int .i64 ad) hU1
  have hR2 := (heap_setCell_other w1 ⟨w.heap.size, 5, none⟩ (w.heap.size + 1) (.int .i64 ad) (by show w.heap.size + 1 ≠ w.heap.size; omega)).trans hR1
  have b2 := b1.setCell (p := ⟨w.heap.size, 5, none⟩) (Nat.le_refl _) (.int .i64 ad)
  clear ka fa hU1 hR1 hU0 hR0
  have at2 := At4.of_heap hU2
  go_wp2_with (first
    | ((with_reducible show wpList _ _ _ (Oper.mk _ (Op.load 24 _) _ _ _ _ :: _) _ _); refine wpList_val rfl (run_load_v4 rfl rfl at2 rfl) ?_)
    | (go_at_call 36; refine (cMay (srcP q ad) A c A' c' _ n ho hl).mono ?_; rintro e w3 ⟨rfl, x3⟩; rw [HM.out]; have hR3 := (x3.block (w.heap.size + 1) (heap_lt hR2)).trans hR2; have b3 := b2.trans (x3.mono b2.size))
    | ((with_reducible show wpList _ _ _ (Oper.mk _ (Op.store 24 _ _) _ _ _ _ :: _) _ _); refine v4_store (g := w.heap.size + 1) (cs := v4a p4z none 0 none 0) rfl rfl hR3 rfl rfl (v4a_one _ _ _ _ _) ?_))
  exact bodyPost_ret (res2 rfl rfl (run_loadVar_row _ _ _ 24 (v4a p4z none 0 none 0) _ _ (setRow_heap _ _ _ _ _ _ hR3) Tryz.underlying24 rfl (by kernel_rfl))) rfl ⟨none, 0, none, 0, rfl, Made.nil _ _ (below_row b3 (by omega)), Made.nil _ _ (below_row b3 (by omega))⟩
set_option maxRecDepth 100000 in
set_option maxHeartbeats 4000000 in
theorem cFrom17 (ho : q.opt.length ≤ 1000000) (hl : q.dat.length ≤ 900000) (B : Nat) (hO : Arg w B A c q.opt) (hD : Arg w B A' c' q.dat) (hB0 : B ≤ w.heap.size) (ad n : Int) (he : ofE q = 0) (hk : q.proto = 17) (ha : isAd ad) (hn : isPt n) : Calls Tryz.prog 11 #[v4v q A c A' c', .int .i64 ad, .int .i64 n] w fun e w' =>
    ∃ P p P' p', e = .returned (.tuple #[v4v (datP (srcP q ad) (bldU ad q.dst (srcU (inU q) n))) P p P' p', .int .i64 0]) ∧ Made w w' (.slice P q.opt.length p) q.opt ∧ Made w w' (.slice P' (bldU ad q.dst (srcU (inU q) n)).length p') (bldU ad q.dst (srcU (inU q) n)) := by
  have HE := Lib.hid he
  have HK := Lib.hid hk
  have hc4 := (of_ok he).1
  have HX := Lib.hid ((fr_chk he hn).1 hk)
  have hin := in_len he
  have HM := Lib.hid (show decide (chk4 (srcP q ad) = 0 ∧ isPt n) = true by
    rw [decide_eq_true_iff]
    exact ⟨chk4_same hc4 rfl rfl rfl rfl rfl rfl rfl rfl ha (of_ad hc4).2, hn⟩)
  clear he hk ha hn hc4
  have hB : Below w.heap.size w ((w.alloc (.cells (v4a q A c A' c') 24)).alloc (.cells (v4a p4z none 0 none 0) 24)) := below_two w _ _
  have hU0 : ((w.alloc (.cells (v4a q A c A' c') 24)).alloc (.cells (v4a p4z none 0 none 0) 24)).heap[w.heap.size]? = some (.cells (v4a q A c A' c') 24 (0, 0)) := (Below.heap_alloc (w.alloc (.cells (v4a q A c A' c') 24)) _ w.heap.size (by simp)).trans (World.alloc_heap_new w _)
  have hR0 : ((w.alloc (.cells (v4a q A c A' c') 24)).alloc (.cells (v4a p4z none 0 none 0) 24)).heap[w.heap.size + 1]? = some (.cells (v4a p4z none 0 none 0) 24 (0, 0)) := by
    have := World.alloc_heap_new (w.alloc (.cells (v4a q A c A' c') 24)) (.cells (v4a p4z none 0 none 0) 24)
    rwa [World.size_alloc] at this
  rw [v4q_eq]
  go_enter Tryz.func11, Tryz.ntmps11
  go_upto_region 1 with fail
  rw [show #[.int .i64 0, .int .i64 0, .int .i64 0, .int .i64 0, .int .i64 0, .int .i64 0, .int .i64 0, .bool false, .bool false, .slice none 0 0, .slice none 0 0] = v4a p4z none 0 none 0 from rfl]
  generalize (w.alloc (.cells (v4a q A c A' c') 24)).alloc (.cells (v4a p4z none 0 none 0) 24) = W at *
  have at0 := At4.of_heap hU0
  have hD0 := hD.below (hB.mono hB0)
  go_upto_region 4 with (first
    | ((with_reducible show wpList _ _ _ (Oper.mk _ (Op.load 24 _) _ _ _ _ :: _) _ _); refine wpList_val rfl (run_load_v4 rfl rfl at0 rfl) ?_)
    | (go_at_call 30; refine (cOpen q A c A' c' W ho hl B hD0 (Nat.le_trans hB0 hB.size)).mono ?_; rintro e w1 ⟨v, rfl, hOp⟩; rw [HE.out]; obtain ⟨P, p, rfl, m1⟩ := hOp.2.2.1 HE.out HK.out))
  have x1 := hOp.1
  have b1 := hB.trans (x1.mono hB.size)
  have hR1 := (x1.block (w.heap.size + 1) (heap_lt hR0)).trans hR0
  have hU1 := (x1.block w.heap.size (heap_lt hU0)).trans hU0
  have zR := heap_lt hR0
  have zx := x1.size
  have ka := (At4.of_heap hU1).src
  have fa := heap_frozen hU1 5
  go_upto_region 5 with fail
  have hU2 : (w1.setCell ⟨w.heap.size, 5, none⟩ (.int .i64 ad)).heap[w.heap.size]? = some (.cells (v4a (srcP q ad) A c A' c') 24 (0, 0)) := heap_setCell_same w1 w.heap.size 5 _ _ (.int .i64 ad) hU1
  have hR2 := (heap_setCell_other w1 ⟨w.heap.size, 5, none⟩ (w.heap.size + 1) (.int .i64 ad) (by show w.heap.size + 1 ≠ w.heap.size; omega)).trans hR1
  have b2 := b1.setCell (p := ⟨w.heap.size, 5, none⟩) (Nat.le_refl _) (.int .i64 ad)
  clear ka fa hU1 hR1 hU0 hR0
  have at2 := At4.of_heap hU2
  have om1 := own_setCell (made_own m1) (p := ⟨w.heap.size, 5, none⟩) (u := .int .i64 ad) (by show w.heap.size < _; omega)
  generalize w1.setCell ⟨w.heap.size, 5, none⟩ (.int .i64 ad) = V at *
  go_upto_region 7 with (first
    | ((with_reducible show wpList _ _ _ (Oper.mk _ (Op.load 24 _) _ _ _ _ :: _) _ _); refine wpList_val rfl (run_load_v4 rfl rfl at2 rfl) ?_)
    | (go_at_call 36; refine (cMay (srcP q ad) A c A' c' _ n ho hl).mono ?_; rintro e w3 ⟨rfl, x3⟩; rw [HM.out]))
  have hR3 := (x3.block (w.heap.size + 1) (heap_lt hR2)).trans hR2
  have hU3 := (x3.block w.heap.size (heap_lt hU2)).trans hU2
  have b3 := b2.trans (x3.mono b2.size)
  have om1 := own_below om1 x3
  have hTw : TwoB w (v4a (srcP q ad) A c A' c') 24 11 w3 := ⟨b3, hU3, _, rfl, hR3⟩
  clear hOp at0 at2 hU2 hR2 hU3 hR3 hD0 m1
  refine wp_region_held_drew (S := fun w' => TwoB w (v4a (srcP q ad) A c A' c') 24 11 w' ∧ w'.ownsRow W.heap.size 5 1 (.slice P (inU q).dat.length p) (inU q).dat.length (row (inU q).dat)) (by kernel_rfl) ⟨hTw.drew, own_below om1 (Below.refl _ w3).drew⟩ (fun hS => ?_)
  refine held_pure (i := 0) (oi := ⟨some 26, _, _, _, _, _⟩) rfl (by kernel_rfl) (by kernel_rfl) (by kernel_rfl) (fun _ _ _ h => h) (by rfl) (fun w hSw => run_load_v4 rfl rfl (At4.of_heap hSw.1.2.1) rfl) hS (fun hS => ?_)
  try go_frame
  refine held_pure (i := 1) (oi := ⟨some 27, _, _, _, _, _⟩) rfl (by kernel_rfl) (by kernel_rfl) (by kernel_rfl) (fun _ _ _ h => h) (by rfl) (v := ?_) (fun w hSw => ?_) hS (fun hS => ?_)
  rotate_left
  · go_simp; try with_reducible rfl
  try go_frame
  refine held_pure (i := 2) (oi := ⟨some 28, _, _, _, _, _⟩) rfl (by kernel_rfl) (by kernel_rfl) (by kernel_rfl) (fun _ _ _ h => h) (by rfl) (v := ?_) (fun w hSw => ?_) hS (fun hS => ?_)
  rotate_left
  · go_simp; try with_reducible rfl
  try go_frame
  refine wpAnyH_ready (rs := [3]) (by kernel_rfl) (by simp) (AllReadyH.cons (o := ⟨some 29, _, _, _, _, _⟩) rfl (fun K hK => ?_) AllReadyH.nil)
  rw [if_pos (by rfl)]
  go_simp
  go_invoke
  go_simp
  refine (cDfrom (inU q) P p n _).mono ?_
  rintro e y4 ⟨rfl, x4⟩
  show K _ _
  refine hK.out _ _ ⟨hS.1.step x4, own_below hS.2 x4⟩ (fun hS => ?_)
  clear hK K
  try go_frame
  refine wpAnyH_ready (rs := [4]) (by kernel_rfl) (by simp) (AllReadyH.cons (o := ⟨some 30, _, _, _, _, _⟩) rfl (fun K hK => ?_) AllReadyH.nil)
  rw [if_pos (by rfl)]
  go_simp
  refine (cWith17 (srcP q ad) A c A' c' (srcU (inU q) n) P p _ _ ((hO.below (hS.1.1.mono hB0)).more (Nat.le_trans hB0 hS.1.1.size)) (Nat.le_refl _) ho (arg_own hS.2) (by show (inU q).dat.length ≤ _; omega) HX.out).mono ?_
  rintro e y5 ⟨O, o, D, d, rfl, mO, mD⟩
  have x5 := mO.below
  have oO := made_own mO
  have oD := made_own mD
  have lt5 := hS.1.lt
  show K _ _
  refine hK.out _ _ ⟨hS.1.step x5, own_below hS.2 x5⟩ (fun hS => ?_)
  clear hK K
  try go_frame
  refine held_pure (i := 5) (oi := ⟨some 31, _, _, _, _, _⟩) rfl (by kernel_rfl) (by kernel_rfl) (by kernel_rfl) (fun _ _ _ h => h) (by rfl) (v := ?_) (fun w hSw => ?_) hS (fun hS => ?_)
  rotate_left
  · go_simp; try with_reducible rfl
  try go_frame
  refine held_pure (i := 6) (oi := ⟨some 32, _, _, _, _, _⟩) rfl (by kernel_rfl) (by kernel_rfl) (by kernel_rfl) (fun _ _ _ h => h) (by rfl) (v := ?_) (fun w hSw => ?_) hS (fun hS => ?_)
  rotate_left
  · go_simp; try with_reducible rfl
  try go_frame
  refine wpAnyH_ready (rs := [7]) (by kernel_rfl) (by simp) (AllReadyH.cons (o := ⟨none, _, _, _, _, _⟩) rfl (fun K hK => ?_) AllReadyH.nil)
  rw [if_pos (by rfl)]
  obtain ⟨bT, uT, old, hold, hgo⟩ := id hS.1
  have hrow := hS.1.row (v4a (datP (srcP q ad) (bldU ad q.dst (srcU (inU q) n))) O o D d) rfl
  refine wp_store_row 24 _ _ rfl (w.heap.size + 1) (v4a (datP (srcP q ad) (bldU ad q.dst (srcU (inU q) n))) O o D d) rfl rfl 24 old hgo (by kernel_rfl) hold (v4a_one _ _ _ _ _) ?_
  have hgz := setRow_heap _ _ _ (v4a (datP (srcP q ad) (bldU ad q.dst (srcU (inU q) n))) O o D d) _ _ hgo
  refine hK.out _ _ ⟨hrow, own_setRow hS.2 (by omega)⟩ (fun hS => ?_)
  clear hK K
  try go_frame
  refine held_pure (i := 8) (oi := ⟨some 7, _, _, _, _, _⟩) rfl (by kernel_rfl) (by kernel_rfl) (by kernel_rfl) (fun _ _ _ h => h) (by rfl) (v := ?_) (fun w hSw => ?_) hS (fun hS => ?_)
  rotate_left
  · go_simp; try with_reducible rfl
  try go_frame
  refine wpAnyH_done (by kernel_rfl) ?_ _
  go_wp2_with fail
  have oO5 := own_setRow oO (g := w.heap.size + 1) (cs := v4a (datP (srcP q ad) (bldU ad q.dst (srcU (inU q) n))) O o D d) (by omega)
  have oD5 := own_setRow oD (g := w.heap.size + 1) (cs := v4a (datP (srcP q ad) (bldU ad q.dst (srcU (inU q) n))) O o D d) (by omega)
  exact bodyPost_ret (res2 rfl rfl (run_loadVar_row _ _ _ 24 (v4a (datP (srcP q ad) (bldU ad q.dst (srcU (inU q) n))) O o D d) _ _ hgz Tryz.underlying24 rfl (by kernel_rfl))) rfl ⟨O, o, D, d, rfl, Made.of_own (own_base oO5 (by omega)) hS.1.1, Made.of_own (own_base oD5 (by omega)) hS.1.1⟩
set_option maxRecDepth 100000 in
set_option maxHeartbeats 4000000 in
theorem cFrom6 (ho : q.opt.length ≤ 1000000) (hl : q.dat.length ≤ 900000) (B : Nat) (hO : Arg w B A c q.opt) (hD : Arg w B A' c' q.dat) (hB0 : B ≤ w.heap.size) (ad n : Int) (he : ofE q = 0) (hk : q.proto = 6) (ha : isAd ad) (hn : isPt n) : Calls Tryz.prog 11 #[v4v q A c A' c', .int .i64 ad, .int .i64 n] w fun e w' =>
    ∃ P p P' p', e = .returned (.tuple #[v4v (datP (srcP q ad) (bldT ad q.dst (srcT (inT q) n))) P p P' p', .int .i64 0]) ∧ Made w w' (.slice P q.opt.length p) q.opt ∧ Made w w' (.slice P' (bldT ad q.dst (srcT (inT q) n)).length p') (bldT ad q.dst (srcT (inT q) n)) := by
  have HE := Lib.hid he
  have HK := Lib.hid hk
  have hc4 := (of_ok he).1
  have HX := Lib.hid ((fr_chk he hn).2.1 hk)
  have hin := in_len he
  have HM := Lib.hid (show decide (chk4 (srcP q ad) = 0 ∧ isPt n) = true by
    rw [decide_eq_true_iff]
    exact ⟨chk4_same hc4 rfl rfl rfl rfl rfl rfl rfl rfl ha (of_ad hc4).2, hn⟩)
  clear he hk ha hn hc4
  have hB : Below w.heap.size w ((w.alloc (.cells (v4a q A c A' c') 24)).alloc (.cells (v4a p4z none 0 none 0) 24)) := below_two w _ _
  have hU0 : ((w.alloc (.cells (v4a q A c A' c') 24)).alloc (.cells (v4a p4z none 0 none 0) 24)).heap[w.heap.size]? = some (.cells (v4a q A c A' c') 24 (0, 0)) := (Below.heap_alloc (w.alloc (.cells (v4a q A c A' c') 24)) _ w.heap.size (by simp)).trans (World.alloc_heap_new w _)
  have hR0 : ((w.alloc (.cells (v4a q A c A' c') 24)).alloc (.cells (v4a p4z none 0 none 0) 24)).heap[w.heap.size + 1]? = some (.cells (v4a p4z none 0 none 0) 24 (0, 0)) := by
    have := World.alloc_heap_new (w.alloc (.cells (v4a q A c A' c') 24)) (.cells (v4a p4z none 0 none 0) 24)
    rwa [World.size_alloc] at this
  rw [v4q_eq]
  go_enter Tryz.func11, Tryz.ntmps11
  go_upto_region 1 with fail
  rw [show #[.int .i64 0, .int .i64 0, .int .i64 0, .int .i64 0, .int .i64 0, .int .i64 0, .int .i64 0, .bool false, .bool false, .slice none 0 0, .slice none 0 0] = v4a p4z none 0 none 0 from rfl]
  generalize (w.alloc (.cells (v4a q A c A' c') 24)).alloc (.cells (v4a p4z none 0 none 0) 24) = W at *
  have at0 := At4.of_heap hU0
  have hD0 := hD.below (hB.mono hB0)
  go_upto_region 4 with (first
    | ((with_reducible show wpList _ _ _ (Oper.mk _ (Op.load 24 _) _ _ _ _ :: _) _ _); refine wpList_val rfl (run_load_v4 rfl rfl at0 rfl) ?_)
    | (go_at_call 30; refine (cOpen q A c A' c' W ho hl B hD0 (Nat.le_trans hB0 hB.size)).mono ?_; rintro e w1 ⟨v, rfl, hOp⟩; rw [HE.out]; obtain ⟨P, p, P', p', rfl, m1, m2⟩ := hOp.2.2.2.1 HE.out HK.out))
  have x1 := hOp.1
  have b1 := hB.trans (x1.mono hB.size)
  have hR1 := (x1.block (w.heap.size + 1) (heap_lt hR0)).trans hR0
  have hU1 := (x1.block w.heap.size (heap_lt hU0)).trans hU0
  have zR := heap_lt hR0
  have zx := x1.size
  have ka := (At4.of_heap hU1).src
  have fa := heap_frozen hU1 5
  go_upto_region 5 with fail
  have hU2 : (w1.setCell ⟨w.heap.size, 5, none⟩ (.int .i64 ad)).heap[w.heap.size]? = some (.cells (v4a (srcP q ad) A c A' c') 24 (0, 0)) := heap_setCell_same w1 w.heap.size 5 _ _ (.int .i64 ad) hU1
  have hR2 := (heap_setCell_other w1 ⟨w.heap.size, 5, none⟩ (w.heap.size + 1) (.int .i64 ad) (by show w.heap.size + 1 ≠ w.heap.size; omega)).trans hR1
  have b2 := b1.setCell (p := ⟨w.heap.size, 5, none⟩) (Nat.le_refl _) (.int .i64 ad)
  clear ka fa hU1 hR1 hU0 hR0
  have at2 := At4.of_heap hU2
  have om1 := own_setCell (made_own m1) (p := ⟨w.heap.size, 5, none⟩) (u := .int .i64 ad) (by show w.heap.size < _; omega)
  have om2 := own_setCell (made_own m2) (p := ⟨w.heap.size, 5, none⟩) (u := .int .i64 ad) (by show w.heap.size < _; omega)
  generalize w1.setCell ⟨w.heap.size, 5, none⟩ (.int .i64 ad) = V at *
  go_upto_region 7 with (first
    | ((with_reducible show wpList _ _ _ (Oper.mk _ (Op.load 24 _) _ _ _ _ :: _) _ _); refine wpList_val rfl (run_load_v4 rfl rfl at2 rfl) ?_)
    | (go_at_call 36; refine (cMay (srcP q ad) A c A' c' _ n ho hl).mono ?_; rintro e w3 ⟨rfl, x3⟩; rw [HM.out]))
  have hR3 := (x3.block (w.heap.size + 1) (heap_lt hR2)).trans hR2
  have hU3 := (x3.block w.heap.size (heap_lt hU2)).trans hU2
  have b3 := b2.trans (x3.mono b2.size)
  have om1 := own_below om1 x3
  have om2 := own_below om2 x3
  have hTw : TwoB w (v4a (srcP q ad) A c A' c') 24 11 w3 := ⟨b3, hU3, _, rfl, hR3⟩
  clear hOp at0 at2 hU2 hR2 hU3 hR3 hD0 m1 m2
  refine wp_region_held_drew (S := fun w' => TwoB w (v4a (srcP q ad) A c A' c') 24 11 w' ∧ w'.ownsRow W.heap.size 5 1 (.slice P (inT q).opt.length p) (inT q).opt.length (row (inT q).opt) ∧ w'.ownsRow W.heap.size 5 1 (.slice P' (inT q).dat.length p') (inT q).dat.length (row (inT q).dat)) (by kernel_rfl) ⟨hTw.drew, ⟨own_below om1 (Below.refl _ w3).drew, own_below om2 (Below.refl _ w3).drew⟩⟩ (fun hS => ?_)
  refine held_pure (i := 0) (oi := ⟨some 26, _, _, _, _, _⟩) rfl (by kernel_rfl) (by kernel_rfl) (by kernel_rfl) (fun _ _ _ h => h) (by rfl) (fun w hSw => run_load_v4 rfl rfl (At4.of_heap hSw.1.2.1) rfl) hS (fun hS => ?_)
  try go_frame
  refine held_pure (i := 1) (oi := ⟨some 27, _, _, _, _, _⟩) rfl (by kernel_rfl) (by kernel_rfl) (by kernel_rfl) (fun _ _ _ h => h) (by rfl) (v := ?_) (fun w hSw => ?_) hS (fun hS => ?_)
  rotate_left
  · go_simp; try with_reducible rfl
  try go_frame
  refine held_pure (i := 2) (oi := ⟨some 28, _, _, _, _, _⟩) rfl (by kernel_rfl) (by kernel_rfl) (by kernel_rfl) (fun _ _ _ h => h) (by rfl) (v := ?_) (fun w hSw => ?_) hS (fun hS => ?_)
  rotate_left
  · go_simp; try with_reducible rfl
  try go_frame
  refine wpAnyH_ready (rs := [3]) (by kernel_rfl) (by simp) (AllReadyH.cons (o := ⟨some 29, _, _, _, _, _⟩) rfl (fun K hK => ?_) AllReadyH.nil)
  rw [if_pos (by rfl)]
  go_simp
  go_invoke
  go_simp
  refine (cSfrom (inT q) P p P' p' n _).mono ?_
  rintro e y4 ⟨rfl, x4⟩
  show K _ _
  refine hK.out _ _ ⟨hS.1.step x4, ⟨own_below hS.2.1 x4, own_below hS.2.2 x4⟩⟩ (fun hS => ?_)
  clear hK K
  try go_frame
  refine wpAnyH_ready (rs := [4]) (by kernel_rfl) (by simp) (AllReadyH.cons (o := ⟨some 30, _, _, _, _, _⟩) rfl (fun K hK => ?_) AllReadyH.nil)
  rw [if_pos (by rfl)]
  go_simp
  refine (cWith6 (srcP q ad) A c A' c' (srcT (inT q) n) P p P' p' _ _ ((hO.below (hS.1.1.mono hB0)).more (Nat.le_trans hB0 hS.1.1.size)) (Nat.le_refl _) ho (arg_own hS.2.1) (arg_own hS.2.2) (by show (inT q).opt.length ≤ _; omega) (by show (inT q).dat.length ≤ _; omega) HX.out).mono ?_
  rintro e y5 ⟨O, o, D, d, rfl, mO, mD⟩
  have x5 := mO.below
  have oO := made_own mO
  have oD := made_own mD
  have lt5 := hS.1.lt
  show K _ _
  refine hK.out _ _ ⟨hS.1.step x5, ⟨own_below hS.2.1 x5, own_below hS.2.2 x5⟩⟩ (fun hS => ?_)
  clear hK K
  try go_frame
  refine held_pure (i := 5) (oi := ⟨some 31, _, _, _, _, _⟩) rfl (by kernel_rfl) (by kernel_rfl) (by kernel_rfl) (fun _ _ _ h => h) (by rfl) (v := ?_) (fun w hSw => ?_) hS (fun hS => ?_)
  rotate_left
  · go_simp; try with_reducible rfl
  try go_frame
  refine held_pure (i := 6) (oi := ⟨some 32, _, _, _, _, _⟩) rfl (by kernel_rfl) (by kernel_rfl) (by kernel_rfl) (fun _ _ _ h => h) (by rfl) (v := ?_) (fun w hSw => ?_) hS (fun hS => ?_)
  rotate_left
  · go_simp; try with_reducible rfl
  try go_frame
  refine wpAnyH_ready (rs := [7]) (by kernel_rfl) (by simp) (AllReadyH.cons (o := ⟨none, _, _, _, _, _⟩) rfl (fun K hK => ?_) AllReadyH.nil)
  rw [if_pos (by rfl)]
  obtain ⟨bT, uT, old, hold, hgo⟩ := id hS.1
  have hrow := hS.1.row (v4a (datP (srcP q ad) (bldT ad q.dst (srcT (inT q) n))) O o D d) rfl
  refine wp_store_row 24 _ _ rfl (w.heap.size + 1) (v4a (datP (srcP q ad) (bldT ad q.dst (srcT (inT q) n))) O o D d) rfl rfl 24 old hgo (by kernel_rfl) hold (v4a_one _ _ _ _ _) ?_
  have hgz := setRow_heap _ _ _ (v4a (datP (srcP q ad) (bldT ad q.dst (srcT (inT q) n))) O o D d) _ _ hgo
  refine hK.out _ _ ⟨hrow, ⟨own_setRow hS.2.1 (by omega), own_setRow hS.2.2 (by omega)⟩⟩ (fun hS => ?_)
  clear hK K
  try go_frame
  refine held_pure (i := 8) (oi := ⟨some 7, _, _, _, _, _⟩) rfl (by kernel_rfl) (by kernel_rfl) (by kernel_rfl) (fun _ _ _ h => h) (by rfl) (v := ?_) (fun w hSw => ?_) hS (fun hS => ?_)
  rotate_left
  · go_simp; try with_reducible rfl
  try go_frame
  refine wpAnyH_done (by kernel_rfl) ?_ _
  go_wp2_with fail
  have oO5 := own_setRow oO (g := w.heap.size + 1) (cs := v4a (datP (srcP q ad) (bldT ad q.dst (srcT (inT q) n))) O o D d) (by omega)
  have oD5 := own_setRow oD (g := w.heap.size + 1) (cs := v4a (datP (srcP q ad) (bldT ad q.dst (srcT (inT q) n))) O o D d) (by omega)
  exact bodyPost_ret (res2 rfl rfl (run_loadVar_row _ _ _ 24 (v4a (datP (srcP q ad) (bldT ad q.dst (srcT (inT q) n))) O o D d) _ _ hgz Tryz.underlying24 rfl (by kernel_rfl))) rfl ⟨O, o, D, d, rfl, Made.of_own (own_base oO5 (by omega)) hS.1.1, Made.of_own (own_base oD5 (by omega)) hS.1.1⟩
set_option maxRecDepth 100000 in
set_option maxHeartbeats 4000000 in
theorem cFrom1 (ho : q.opt.length ≤ 1000000) (hl : q.dat.length ≤ 900000) (B : Nat) (hO : Arg w B A c q.opt) (hD : Arg w B A' c' q.dat) (hB0 : B ≤ w.heap.size) (ad n : Int) (he : ofE q = 0) (hk : q.proto = 1) (ha : isAd ad) (hn : isPt n) : Calls Tryz.prog 11 #[v4v q A c A' c', .int .i64 ad, .int .i64 n] w fun e w' =>
    ∃ P p P' p', e = .returned (.tuple #[v4v (datP (srcP q ad) (bldI [] (wdI (inI q) n))) P p P' p', .int .i64 0]) ∧ Made w w' (.slice P q.opt.length p) q.opt ∧ Made w w' (.slice P' (bldI [] (wdI (inI q) n)).length p') (bldI [] (wdI (inI q) n)) := by
  have HE := Lib.hid he
  have HK := Lib.hid hk
  have hc4 := (of_ok he).1
  have HX := Lib.hid ((fr_chk he hn).2.2 hk)
  have hin := in_len he
  have HM := Lib.hid (show decide (chk4 (srcP q ad) = 0 ∧ isPt n) = true by
    rw [decide_eq_true_iff]
    exact ⟨chk4_same hc4 rfl rfl rfl rfl rfl rfl rfl rfl ha (of_ad hc4).2, hn⟩)
  clear he hk ha hn hc4
  have hB : Below w.heap.size w ((w.alloc (.cells (v4a q A c A' c') 24)).alloc (.cells (v4a p4z none 0 none 0) 24)) := below_two w _ _
  have hU0 : ((w.alloc (.cells (v4a q A c A' c') 24)).alloc (.cells (v4a p4z none 0 none 0) 24)).heap[w.heap.size]? = some (.cells (v4a q A c A' c') 24 (0, 0)) := (Below.heap_alloc (w.alloc (.cells (v4a q A c A' c') 24)) _ w.heap.size (by simp)).trans (World.alloc_heap_new w _)
  have hR0 : ((w.alloc (.cells (v4a q A c A' c') 24)).alloc (.cells (v4a p4z none 0 none 0) 24)).heap[w.heap.size + 1]? = some (.cells (v4a p4z none 0 none 0) 24 (0, 0)) := by
    have := World.alloc_heap_new (w.alloc (.cells (v4a q A c A' c') 24)) (.cells (v4a p4z none 0 none 0) 24)
    rwa [World.size_alloc] at this
  rw [v4q_eq]
  go_enter Tryz.func11, Tryz.ntmps11
  go_upto_region 1 with fail
  rw [show #[.int .i64 0, .int .i64 0, .int .i64 0, .int .i64 0, .int .i64 0, .int .i64 0, .int .i64 0, .bool false, .bool false, .slice none 0 0, .slice none 0 0] = v4a p4z none 0 none 0 from rfl]
  generalize (w.alloc (.cells (v4a q A c A' c') 24)).alloc (.cells (v4a p4z none 0 none 0) 24) = W at *
  have at0 := At4.of_heap hU0
  have hD0 := hD.below (hB.mono hB0)
  go_upto_region 4 with (first
    | ((with_reducible show wpList _ _ _ (Oper.mk _ (Op.load 24 _) _ _ _ _ :: _) _ _); refine wpList_val rfl (run_load_v4 rfl rfl at0 rfl) ?_)
    | (go_at_call 30; refine (cOpen q A c A' c' W ho hl B hD0 (Nat.le_trans hB0 hB.size)).mono ?_; rintro e w1 ⟨v, rfl, hOp⟩; rw [HE.out]; obtain ⟨P, p, rfl, m1⟩ := hOp.2.2.2.2 HE.out HK.out))
  have x1 := hOp.1
  have b1 := hB.trans (x1.mono hB.size)
  have hR1 := (x1.block (w.heap.size + 1) (heap_lt hR0)).trans hR0
  have hU1 := (x1.block w.heap.size (heap_lt hU0)).trans hU0
  have zR := heap_lt hR0
  have zx := x1.size
  have ka := (At4.of_heap hU1).src
  have fa := heap_frozen hU1 5
  go_upto_region 5 with fail
  have hU2 : (w1.setCell ⟨w.heap.size, 5, none⟩ (.int .i64 ad)).heap[w.heap.size]? = some (.cells (v4a (srcP q ad) A c A' c') 24 (0, 0)) := heap_setCell_same w1 w.heap.size 5 _ _ (.int .i64 ad) hU1
  have hR2 := (heap_setCell_other w1 ⟨w.heap.size, 5, none⟩ (w.heap.size + 1) (.int .i64 ad) (by show w.heap.size + 1 ≠ w.heap.size; omega)).trans hR1
  have b2 := b1.setCell (p := ⟨w.heap.size, 5, none⟩) (Nat.le_refl _) (.int .i64 ad)
  clear ka fa hU1 hR1 hU0 hR0
  have at2 := At4.of_heap hU2
  have om1 := own_setCell (made_own m1) (p := ⟨w.heap.size, 5, none⟩) (u := .int .i64 ad) (by show w.heap.size < _; omega)
  generalize w1.setCell ⟨w.heap.size, 5, none⟩ (.int .i64 ad) = V at *
  go_upto_region 7 with (first
    | ((with_reducible show wpList _ _ _ (Oper.mk _ (Op.load 24 _) _ _ _ _ :: _) _ _); refine wpList_val rfl (run_load_v4 rfl rfl at2 rfl) ?_)
    | (go_at_call 36; refine (cMay (srcP q ad) A c A' c' _ n ho hl).mono ?_; rintro e w3 ⟨rfl, x3⟩; rw [HM.out]))
  have hR3 := (x3.block (w.heap.size + 1) (heap_lt hR2)).trans hR2
  have hU3 := (x3.block w.heap.size (heap_lt hU2)).trans hU2
  have b3 := b2.trans (x3.mono b2.size)
  have om1 := own_below om1 x3
  have hTw : TwoB w (v4a (srcP q ad) A c A' c') 24 11 w3 := ⟨b3, hU3, _, rfl, hR3⟩
  clear hOp at0 at2 hU2 hR2 hU3 hR3 hD0 m1
  refine wp_region_held_drew (S := fun w' => TwoB w (v4a (srcP q ad) A c A' c') 24 11 w' ∧ w'.ownsRow W.heap.size 5 1 (.slice P (inI q).dat.length p) (inI q).dat.length (row (inI q).dat)) (by kernel_rfl) ⟨hTw.drew, own_below om1 (Below.refl _ w3).drew⟩ (fun hS => ?_)
  refine held_pure (i := 0) (oi := ⟨some 26, _, _, _, _, _⟩) rfl (by kernel_rfl) (by kernel_rfl) (by kernel_rfl) (fun _ _ _ h => h) (by rfl) (fun w hSw => run_load_v4 rfl rfl (At4.of_heap hSw.1.2.1) rfl) hS (fun hS => ?_)
  try go_frame
  refine held_pure (i := 1) (oi := ⟨some 27, _, _, _, _, _⟩) rfl (by kernel_rfl) (by kernel_rfl) (by kernel_rfl) (fun _ _ _ h => h) (by rfl) (v := ?_) (fun w hSw => ?_) hS (fun hS => ?_)
  rotate_left
  · go_simp; try with_reducible rfl
  try go_frame
  refine held_pure (i := 2) (oi := ⟨some 28, _, _, _, _, _⟩) rfl (by kernel_rfl) (by kernel_rfl) (by kernel_rfl) (fun _ _ _ h => h) (by rfl) (v := ?_) (fun w hSw => ?_) hS (fun hS => ?_)
  rotate_left
  · go_simp; try with_reducible rfl
  try go_frame
  refine wpAnyH_ready (rs := [3]) (by kernel_rfl) (by simp) (AllReadyH.cons (o := ⟨some 29, _, _, _, _, _⟩) rfl (fun K hK => ?_) AllReadyH.nil)
  rw [if_pos (by rfl)]
  go_simp
  go_invoke
  go_simp
  refine (cQfrom (inI q) P p n _ _ (arg_own hS.2) (Nat.le_refl _) (by omega)).mono ?_
  rintro e y4 ⟨P4, p4, rfl, m4⟩
  have x4 := m4.below
  have am4 := made_arg m4
  show K _ _
  refine hK.out _ _ ⟨hS.1.step x4, own_below hS.2 x4⟩ (fun hS => ?_)
  clear hK K
  try go_frame
  refine wpAnyH_ready (rs := [4]) (by kernel_rfl) (by simp) (AllReadyH.cons (o := ⟨some 30, _, _, _, _, _⟩) rfl (fun K hK => ?_) AllReadyH.nil)
  rw [if_pos (by rfl)]
  go_simp
  refine (cWith1 (srcP q ad) A c A' c' (wdI (inI q) n) P4 p4 _ _ ((hO.below (hS.1.1.mono hB0)).more (Nat.le_trans hB0 hS.1.1.size)) (Nat.le_refl _) ho am4 (by show (inI q).dat.length ≤ _; omega) HX.out).mono ?_
  rintro e y5 ⟨O, o, D, d, rfl, mO, mD⟩
  have x5 := mO.below
  have oO := made_own mO
  have oD := made_own mD
  have lt5 := hS.1.lt
  show K _ _
  refine hK.out _ _ ⟨hS.1.step x5, own_below hS.2 x5⟩ (fun hS => ?_)
  clear hK K
  try go_frame
  refine held_pure (i := 5) (oi := ⟨some 31, _, _, _, _, _⟩) rfl (by kernel_rfl) (by kernel_rfl) (by kernel_rfl) (fun _ _ _ h => h) (by rfl) (v := ?_) (fun w hSw => ?_) hS (fun hS => ?_)
  rotate_left
  · go_simp; try with_reducible rfl
  try go_frame
  refine held_pure (i := 6) (oi := ⟨some 32, _, _, _, _, _⟩) rfl (by kernel_rfl) (by kernel_rfl) (by kernel_rfl) (fun _ _ _ h => h) (by rfl) (v := ?_) (fun w hSw => ?_) hS (fun hS => ?_)
  rotate_left
  · go_simp; try with_reducible rfl
  try go_frame
  refine wpAnyH_ready (rs := [7]) (by kernel_rfl) (by simp) (AllReadyH.cons (o := ⟨none, _, _, _, _, _⟩) rfl (fun K hK => ?_) AllReadyH.nil)
  rw [if_pos (by rfl)]
  obtain ⟨bT, uT, old, hold, hgo⟩ := id hS.1
  have hrow := hS.1.row (v4a (datP (srcP q ad) (bldI [] (wdI (inI q) n))) O o D d) rfl
  refine wp_store_row 24 _ _ rfl (w.heap.size + 1) (v4a (datP (srcP q ad) (bldI [] (wdI (inI q) n))) O o D d) rfl rfl 24 old hgo (by kernel_rfl) hold (v4a_one _ _ _ _ _) ?_
  have hgz := setRow_heap _ _ _ (v4a (datP (srcP q ad) (bldI [] (wdI (inI q) n))) O o D d) _ _ hgo
  refine hK.out _ _ ⟨hrow, own_setRow hS.2 (by omega)⟩ (fun hS => ?_)
  clear hK K
  try go_frame
  refine held_pure (i := 8) (oi := ⟨some 7, _, _, _, _, _⟩) rfl (by kernel_rfl) (by kernel_rfl) (by kernel_rfl) (fun _ _ _ h => h) (by rfl) (v := ?_) (fun w hSw => ?_) hS (fun hS => ?_)
  rotate_left
  · go_simp; try with_reducible rfl
  try go_frame
  refine wpAnyH_done (by kernel_rfl) ?_ _
  go_wp2_with fail
  have oO5 := own_setRow oO (g := w.heap.size + 1) (cs := v4a (datP (srcP q ad) (bldI [] (wdI (inI q) n))) O o D d) (by omega)
  have oD5 := own_setRow oD (g := w.heap.size + 1) (cs := v4a (datP (srcP q ad) (bldI [] (wdI (inI q) n))) O o D d) (by omega)
  exact bodyPost_ret (res2 rfl rfl (run_loadVar_row _ _ _ 24 (v4a (datP (srcP q ad) (bldI [] (wdI (inI q) n))) O o D d) _ _ hgz Tryz.underlying24 rfl (by kernel_rfl))) rfl ⟨O, o, D, d, rfl, Made.of_own (own_base oO5 (by omega)) hS.1.1, Made.of_own (own_base oD5 (by omega)) hS.1.1⟩
set_option maxRecDepth 100000 in
set_option maxHeartbeats 4000000 in
theorem cToE (ho : q.opt.length ≤ 1000000) (hl : q.dat.length ≤ 900000) (B : Nat) (hD : Arg w B A' c' q.dat) (hB0 : B ≤ w.heap.size) (ad n : Int) (he : ofE q ≠ 0) : Calls Tryz.prog 13 #[v4v q A c A' c', .int .i64 ad, .int .i64 n] w fun e w' => ∃ P p P' p', e = .returned (.tuple #[v4v p4z P p P' p', .int .i64 (ofE q)]) ∧ Made w w' (.slice P p4z.opt.length p) p4z.opt ∧ Made w w' (.slice P' p4z.dat.length p') p4z.dat := by
  obtain ⟨E, hE⟩ : ∃ n, n = ofE q := ⟨_, rfl⟩
  have HE := Lib.hid hE
  have dE : (E != 0) = true := by simpa [hE] using he
  rw [← hE]
  clear he hE
  have hB : Below w.heap.size w ((w.alloc (.cells (v4a q A c A' c') 24)).alloc (.cells (v4a p4z none 0 none 0) 24)) := below_two w _ _
  have hU0 : ((w.alloc (.cells (v4a q A c A' c') 24)).alloc (.cells (v4a p4z none 0 none 0) 24)).heap[w.heap.size]? = some (.cells (v4a q A c A' c') 24 (0, 0)) := (Below.heap_alloc (w.alloc (.cells (v4a q A c A' c') 24)) _ w.heap.size (by simp)).trans (World.alloc_heap_new w _)
  have hR0 : ((w.alloc (.cells (v4a q A c A' c') 24)).alloc (.cells (v4a p4z none 0 none 0) 24)).heap[w.heap.size + 1]? = some (.cells (v4a p4z none 0 none 0) 24 (0, 0)) := by
    have := World.alloc_heap_new (w.alloc (.cells (v4a q A c A' c') 24)) (.cells (v4a p4z none 0 none 0) 24)
    rwa [World.size_alloc] at this
  rw [v4q_eq]
  go_enter Tryz.func13, Tryz.ntmps13
  go_upto_region 1 with fail
  rw [show #[.int .i64 0, .int .i64 0, .int .i64 0, .int .i64 0, .int .i64 0, .int .i64 0, .int .i64 0, .bool false, .bool false, .slice none 0 0, .slice none 0 0] = v4a p4z none 0 none 0 from rfl]
  generalize (w.alloc (.cells (v4a q A c A' c') 24)).alloc (.cells (v4a p4z none 0 none 0) 24) = W at *
  have at0 := At4.of_heap hU0
  have hD0 := hD.below (hB.mono hB0)
  go_wp2_with (first
    | ((with_reducible show wpList _ _ _ (Oper.mk _ (Op.load 24 _) _ _ _ _ :: _) _ _); refine wpList_val rfl (run_load_v4 rfl rfl at0 rfl) ?_)
    | (go_at_call 30; refine (cOpen q A c A' c' W ho hl B hD0 (Nat.le_trans hB0 hB.size)).mono ?_; rintro e w1 ⟨v, rfl, hOp⟩; rw [← HE.out]; have x1 := hOp.1; have hR1 := (x1.block (w.heap.size + 1) (heap_lt hR0)).trans hR0; have b1 := hB.trans (x1.mono hB.size))
    | ((with_reducible show wpList _ _ _ (Oper.mk _ (Op.store 24 _ _) _ _ _ _ :: _) _ _); refine v4_store (g := w.heap.size + 1) (cs := v4a p4z none 0 none 0) rfl rfl hR1 rfl rfl (v4a_one _ _ _ _ _) ?_))
  exact bodyPost_ret (res2 rfl rfl (run_loadVar_row _ _ _ 24 (v4a p4z none 0 none 0) _ _ (setRow_heap _ _ _ _ _ _ hR1) Tryz.underlying24 rfl (by kernel_rfl))) rfl ⟨none, 0, none, 0, rfl, Made.nil _ _ (below_row b1 (by omega)), Made.nil _ _ (below_row b1 (by omega))⟩
set_option maxRecDepth 100000 in
set_option maxHeartbeats 4000000 in
theorem cToA (ho : q.opt.length ≤ 1000000) (hl : q.dat.length ≤ 900000) (B : Nat) (hD : Arg w B A' c' q.dat) (hB0 : B ≤ w.heap.size) (ad n : Int) (he : ofE q = 0) (ha : ¬ (isAd ad ∧ isPt n)) : Calls Tryz.prog 13 #[v4v q A c A' c', .int .i64 ad, .int .i64 n] w fun e w' => ∃ P p P' p', e = .returned (.tuple #[v4v p4z P p P' p', .int .i64 1]) ∧ Made w w' (.slice P p4z.opt.length p) p4z.opt ∧ Made w w' (.slice P' p4z.dat.length p') p4z.dat := by
  have HE := Lib.hid he
  have hc4 := (of_ok he).1
  have HM := Lib.hid (show decide (chk4 (dstP q ad) = 0 ∧ isPt n) = false by
    rw [decide_eq_false_iff_not]
    rintro ⟨h1, h2⟩
    exact ha ⟨(of_ad h1).2, h2⟩)
  clear he ha hc4
  have hB : Below w.heap.size w ((w.alloc (.cells (v4a q A c A' c') 24)).alloc (.cells (v4a p4z none 0 none 0) 24)) := below_two w _ _
  have hU0 : ((w.alloc (.cells (v4a q A c A' c') 24)).alloc (.cells (v4a p4z none 0 none 0) 24)).heap[w.heap.size]? = some (.cells (v4a q A c A' c') 24 (0, 0)) := (Below.heap_alloc (w.alloc (.cells (v4a q A c A' c') 24)) _ w.heap.size (by simp)).trans (World.alloc_heap_new w _)
  have hR0 : ((w.alloc (.cells (v4a q A c A' c') 24)).alloc (.cells (v4a p4z none 0 none 0) 24)).heap[w.heap.size + 1]? = some (.cells (v4a p4z none 0 none 0) 24 (0, 0)) := by
    have := World.alloc_heap_new (w.alloc (.cells (v4a q A c A' c') 24)) (.cells (v4a p4z none 0 none 0) 24)
    rwa [World.size_alloc] at this
  rw [v4q_eq]
  go_enter Tryz.func13, Tryz.ntmps13
  go_upto_region 1 with fail
  rw [show #[.int .i64 0, .int .i64 0, .int .i64 0, .int .i64 0, .int .i64 0, .int .i64 0, .int .i64 0, .bool false, .bool false, .slice none 0 0, .slice none 0 0] = v4a p4z none 0 none 0 from rfl]
  generalize (w.alloc (.cells (v4a q A c A' c') 24)).alloc (.cells (v4a p4z none 0 none 0) 24) = W at *
  have at0 := At4.of_heap hU0
  have hD0 := hD.below (hB.mono hB0)
  go_upto_region 4 with (first
    | ((with_reducible show wpList _ _ _ (Oper.mk _ (Op.load 24 _) _ _ _ _ :: _) _ _); refine wpList_val rfl (run_load_v4 rfl rfl at0 rfl) ?_)
    | (go_at_call 30; refine (cOpen q A c A' c' W ho hl B hD0 (Nat.le_trans hB0 hB.size)).mono ?_; rintro e w1 ⟨v, rfl, hOp⟩; rw [HE.out]))
  have x1 := hOp.1
  have b1 := hB.trans (x1.mono hB.size)
  have hR1 := (x1.block (w.heap.size + 1) (heap_lt hR0)).trans hR0
  have hU1 := (x1.block w.heap.size (heap_lt hU0)).trans hU0
  have zR := heap_lt hR0
  have zx := x1.size
  have ka := (At4.of_heap hU1).dst
  have fa := heap_frozen hU1 6
  go_upto_region 5 with fail
  have hU2 : (w1.setCell ⟨w.heap.size, 6, none⟩ (.int .i64 ad)).heap[w.heap.size]? = some (.cells (v4a (dstP q ad) A c A' c') 24 (0, 0)) := heap_setCell_same w1 w.heap.size 6 _ _ (.int .i64 ad) hU1
  have hR2 := (heap_setCell_other w1 ⟨w.heap.size, 6, none⟩ (w.heap.size + 1) (.int .i64 ad) (by show w.heap.size + 1 ≠ w.heap.size; omega)).trans hR1
  have b2 := b1.setCell (p := ⟨w.heap.size, 6, none⟩) (Nat.le_refl _) (.int .i64 ad)
  clear ka fa hU1 hR1 hU0 hR0
  have at2 := At4.of_heap hU2
  go_wp2_with (first
    | ((with_reducible show wpList _ _ _ (Oper.mk _ (Op.load 24 _) _ _ _ _ :: _) _ _); refine wpList_val rfl (run_load_v4 rfl rfl at2 rfl) ?_)
    | (go_at_call 36; refine (cMay (dstP q ad) A c A' c' _ n ho hl).mono ?_; rintro e w3 ⟨rfl, x3⟩; rw [HM.out]; have hR3 := (x3.block (w.heap.size + 1) (heap_lt hR2)).trans hR2; have b3 := b2.trans (x3.mono b2.size))
    | ((with_reducible show wpList _ _ _ (Oper.mk _ (Op.store 24 _ _) _ _ _ _ :: _) _ _); refine v4_store (g := w.heap.size + 1) (cs := v4a p4z none 0 none 0) rfl rfl hR3 rfl rfl (v4a_one _ _ _ _ _) ?_))
  exact bodyPost_ret (res2 rfl rfl (run_loadVar_row _ _ _ 24 (v4a p4z none 0 none 0) _ _ (setRow_heap _ _ _ _ _ _ hR3) Tryz.underlying24 rfl (by kernel_rfl))) rfl ⟨none, 0, none, 0, rfl, Made.nil _ _ (below_row b3 (by omega)), Made.nil _ _ (below_row b3 (by omega))⟩
set_option maxRecDepth 100000 in
set_option maxHeartbeats 4000000 in
theorem cTo17 (ho : q.opt.length ≤ 1000000) (hl : q.dat.length ≤ 900000) (B : Nat) (hO : Arg w B A c q.opt) (hD : Arg w B A' c' q.dat) (hB0 : B ≤ w.heap.size) (ad n : Int) (he : ofE q = 0) (hk : q.proto = 17) (ha : isAd ad) (hn : isPt n) : Calls Tryz.prog 13 #[v4v q A c A' c', .int .i64 ad, .int .i64 n] w fun e w' =>
    ∃ P p P' p', e = .returned (.tuple #[v4v (datP (dstP q ad) (bldU q.src ad (dstU (inU q) n))) P p P' p', .int .i64 0]) ∧ Made w w' (.slice P q.opt.length p) q.opt ∧ Made w w' (.slice P' (bldU q.src ad (dstU (inU q) n)).length p') (bldU q.src ad (dstU (inU q) n)) := by
  have HE := Lib.hid he
  have HK := Lib.hid hk
  have hc4 := (of_ok he).1
  have HX := Lib.hid ((to_chk he hn).1 hk)
  have hin := in_len he
  have HM := Lib.hid (show decide (chk4 (dstP q ad) = 0 ∧ isPt n) = true by
    rw [decide_eq_true_iff]
    exact ⟨chk4_same hc4 rfl rfl rfl rfl rfl rfl rfl rfl (of_ad hc4).1 ha, hn⟩)
  clear he hk ha hn hc4
  have hB : Below w.heap.size w ((w.alloc (.cells (v4a q A c A' c') 24)).alloc (.cells (v4a p4z none 0 none 0) 24)) := below_two w _ _
  have hU0 : ((w.alloc (.cells (v4a q A c A' c') 24)).alloc (.cells (v4a p4z none 0 none 0) 24)).heap[w.heap.size]? = some (.cells (v4a q A c A' c') 24 (0, 0)) := (Below.heap_alloc (w.alloc (.cells (v4a q A c A' c') 24)) _ w.heap.size (by simp)).trans (World.alloc_heap_new w _)
  have hR0 : ((w.alloc (.cells (v4a q A c A' c') 24)).alloc (.cells (v4a p4z none 0 none 0) 24)).heap[w.heap.size + 1]? = some (.cells (v4a p4z none 0 none 0) 24 (0, 0)) := by
    have := World.alloc_heap_new (w.alloc (.cells (v4a q A c A' c') 24)) (.cells (v4a p4z none 0 none 0) 24)
    rwa [World.size_alloc] at this
  rw [v4q_eq]
  go_enter Tryz.func13, Tryz.ntmps13
  go_upto_region 1 with fail
  rw [show #[.int .i64 0, .int .i64 0, .int .i64 0, .int .i64 0, .int .i64 0, .int .i64 0, .int .i64 0, .bool false, .bool false, .slice none 0 0, .slice none 0 0] = v4a p4z none 0 none 0 from rfl]
  generalize (w.alloc (.cells (v4a q A c A' c') 24)).alloc (.cells (v4a p4z none 0 none 0) 24) = W at *
  have at0 := At4.of_heap hU0
  have hD0 := hD.below (hB.mono hB0)
  go_upto_region 4 with (first
    | ((with_reducible show wpList _ _ _ (Oper.mk _ (Op.load 24 _) _ _ _ _ :: _) _ _); refine wpList_val rfl (run_load_v4 rfl rfl at0 rfl) ?_)
    | (go_at_call 30; refine (cOpen q A c A' c' W ho hl B hD0 (Nat.le_trans hB0 hB.size)).mono ?_; rintro e w1 ⟨v, rfl, hOp⟩; rw [HE.out]; obtain ⟨P, p, rfl, m1⟩ := hOp.2.2.1 HE.out HK.out))
  have x1 := hOp.1
  have b1 := hB.trans (x1.mono hB.size)
  have hR1 := (x1.block (w.heap.size + 1) (heap_lt hR0)).trans hR0
  have hU1 := (x1.block w.heap.size (heap_lt hU0)).trans hU0
  have zR := heap_lt hR0
  have zx := x1.size
  have ka := (At4.of_heap hU1).dst
  have fa := heap_frozen hU1 6
  go_upto_region 5 with fail
  have hU2 : (w1.setCell ⟨w.heap.size, 6, none⟩ (.int .i64 ad)).heap[w.heap.size]? = some (.cells (v4a (dstP q ad) A c A' c') 24 (0, 0)) := heap_setCell_same w1 w.heap.size 6 _ _ (.int .i64 ad) hU1
  have hR2 := (heap_setCell_other w1 ⟨w.heap.size, 6, none⟩ (w.heap.size + 1) (.int .i64 ad) (by show w.heap.size + 1 ≠ w.heap.size; omega)).trans hR1
  have b2 := b1.setCell (p := ⟨w.heap.size, 6, none⟩) (Nat.le_refl _) (.int .i64 ad)
  clear ka fa hU1 hR1 hU0 hR0
  have at2 := At4.of_heap hU2
  have om1 := own_setCell (made_own m1) (p := ⟨w.heap.size, 6, none⟩) (u := .int .i64 ad) (by show w.heap.size < _; omega)
  generalize w1.setCell ⟨w.heap.size, 6, none⟩ (.int .i64 ad) = V at *
  go_upto_region 7 with (first
    | ((with_reducible show wpList _ _ _ (Oper.mk _ (Op.load 24 _) _ _ _ _ :: _) _ _); refine wpList_val rfl (run_load_v4 rfl rfl at2 rfl) ?_)
    | (go_at_call 36; refine (cMay (dstP q ad) A c A' c' _ n ho hl).mono ?_; rintro e w3 ⟨rfl, x3⟩; rw [HM.out]))
  have hR3 := (x3.block (w.heap.size + 1) (heap_lt hR2)).trans hR2
  have hU3 := (x3.block w.heap.size (heap_lt hU2)).trans hU2
  have b3 := b2.trans (x3.mono b2.size)
  have om1 := own_below om1 x3
  have hTw : TwoB w (v4a (dstP q ad) A c A' c') 24 11 w3 := ⟨b3, hU3, _, rfl, hR3⟩
  clear hOp at0 at2 hU2 hR2 hU3 hR3 hD0 m1
  refine wp_region_held_drew (S := fun w' => TwoB w (v4a (dstP q ad) A c A' c') 24 11 w' ∧ w'.ownsRow W.heap.size 5 1 (.slice P (inU q).dat.length p) (inU q).dat.length (row (inU q).dat)) (by kernel_rfl) ⟨hTw.drew, own_below om1 (Below.refl _ w3).drew⟩ (fun hS => ?_)
  refine held_pure (i := 0) (oi := ⟨some 26, _, _, _, _, _⟩) rfl (by kernel_rfl) (by kernel_rfl) (by kernel_rfl) (fun _ _ _ h => h) (by rfl) (fun w hSw => run_load_v4 rfl rfl (At4.of_heap hSw.1.2.1) rfl) hS (fun hS => ?_)
  try go_frame
  refine held_pure (i := 1) (oi := ⟨some 27, _, _, _, _, _⟩) rfl (by kernel_rfl) (by kernel_rfl) (by kernel_rfl) (fun _ _ _ h => h) (by rfl) (v := ?_) (fun w hSw => ?_) hS (fun hS => ?_)
  rotate_left
  · go_simp; try with_reducible rfl
  try go_frame
  refine held_pure (i := 2) (oi := ⟨some 28, _, _, _, _, _⟩) rfl (by kernel_rfl) (by kernel_rfl) (by kernel_rfl) (fun _ _ _ h => h) (by rfl) (v := ?_) (fun w hSw => ?_) hS (fun hS => ?_)
  rotate_left
  · go_simp; try with_reducible rfl
  try go_frame
  refine wpAnyH_ready (rs := [3]) (by kernel_rfl) (by simp) (AllReadyH.cons (o := ⟨some 29, _, _, _, _, _⟩) rfl (fun K hK => ?_) AllReadyH.nil)
  rw [if_pos (by rfl)]
  go_simp
  go_invoke
  go_simp
  refine (cDto (inU q) P p n _).mono ?_
  rintro e y4 ⟨rfl, x4⟩
  show K _ _
  refine hK.out _ _ ⟨hS.1.step x4, own_below hS.2 x4⟩ (fun hS => ?_)
  clear hK K
  try go_frame
  refine wpAnyH_ready (rs := [4]) (by kernel_rfl) (by simp) (AllReadyH.cons (o := ⟨some 30, _, _, _, _, _⟩) rfl (fun K hK => ?_) AllReadyH.nil)
  rw [if_pos (by rfl)]
  go_simp
  refine (cWith17 (dstP q ad) A c A' c' (dstU (inU q) n) P p _ _ ((hO.below (hS.1.1.mono hB0)).more (Nat.le_trans hB0 hS.1.1.size)) (Nat.le_refl _) ho (arg_own hS.2) (by show (inU q).dat.length ≤ _; omega) HX.out).mono ?_
  rintro e y5 ⟨O, o, D, d, rfl, mO, mD⟩
  have x5 := mO.below
  have oO := made_own mO
  have oD := made_own mD
  have lt5 := hS.1.lt
  show K _ _
  refine hK.out _ _ ⟨hS.1.step x5, own_below hS.2 x5⟩ (fun hS => ?_)
  clear hK K
  try go_frame
  refine held_pure (i := 5) (oi := ⟨some 31, _, _, _, _, _⟩) rfl (by kernel_rfl) (by kernel_rfl) (by kernel_rfl) (fun _ _ _ h => h) (by rfl) (v := ?_) (fun w hSw => ?_) hS (fun hS => ?_)
  rotate_left
  · go_simp; try with_reducible rfl
  try go_frame
  refine held_pure (i := 6) (oi := ⟨some 32, _, _, _, _, _⟩) rfl (by kernel_rfl) (by kernel_rfl) (by kernel_rfl) (fun _ _ _ h => h) (by rfl) (v := ?_) (fun w hSw => ?_) hS (fun hS => ?_)
  rotate_left
  · go_simp; try with_reducible rfl
  try go_frame
  refine wpAnyH_ready (rs := [7]) (by kernel_rfl) (by simp) (AllReadyH.cons (o := ⟨none, _, _, _, _, _⟩) rfl (fun K hK => ?_) AllReadyH.nil)
  rw [if_pos (by rfl)]
  obtain ⟨bT, uT, old, hold, hgo⟩ := id hS.1
  have hrow := hS.1.row (v4a (datP (dstP q ad) (bldU q.src ad (dstU (inU q) n))) O o D d) rfl
  refine wp_store_row 24 _ _ rfl (w.heap.size + 1) (v4a (datP (dstP q ad) (bldU q.src ad (dstU (inU q) n))) O o D d) rfl rfl 24 old hgo (by kernel_rfl) hold (v4a_one _ _ _ _ _) ?_
  have hgz := setRow_heap _ _ _ (v4a (datP (dstP q ad) (bldU q.src ad (dstU (inU q) n))) O o D d) _ _ hgo
  refine hK.out _ _ ⟨hrow, own_setRow hS.2 (by omega)⟩ (fun hS => ?_)
  clear hK K
  try go_frame
  refine held_pure (i := 8) (oi := ⟨some 7, _, _, _, _, _⟩) rfl (by kernel_rfl) (by kernel_rfl) (by kernel_rfl) (fun _ _ _ h => h) (by rfl) (v := ?_) (fun w hSw => ?_) hS (fun hS => ?_)
  rotate_left
  · go_simp; try with_reducible rfl
  try go_frame
  refine wpAnyH_done (by kernel_rfl) ?_ _
  go_wp2_with fail
  have oO5 := own_setRow oO (g := w.heap.size + 1) (cs := v4a (datP (dstP q ad) (bldU q.src ad (dstU (inU q) n))) O o D d) (by omega)
  have oD5 := own_setRow oD (g := w.heap.size + 1) (cs := v4a (datP (dstP q ad) (bldU q.src ad (dstU (inU q) n))) O o D d) (by omega)
  exact bodyPost_ret (res2 rfl rfl (run_loadVar_row _ _ _ 24 (v4a (datP (dstP q ad) (bldU q.src ad (dstU (inU q) n))) O o D d) _ _ hgz Tryz.underlying24 rfl (by kernel_rfl))) rfl ⟨O, o, D, d, rfl, Made.of_own (own_base oO5 (by omega)) hS.1.1, Made.of_own (own_base oD5 (by omega)) hS.1.1⟩
set_option maxRecDepth 100000 in
set_option maxHeartbeats 4000000 in
theorem cTo6 (ho : q.opt.length ≤ 1000000) (hl : q.dat.length ≤ 900000) (B : Nat) (hO : Arg w B A c q.opt) (hD : Arg w B A' c' q.dat) (hB0 : B ≤ w.heap.size) (ad n : Int) (he : ofE q = 0) (hk : q.proto = 6) (ha : isAd ad) (hn : isPt n) : Calls Tryz.prog 13 #[v4v q A c A' c', .int .i64 ad, .int .i64 n] w fun e w' =>
    ∃ P p P' p', e = .returned (.tuple #[v4v (datP (dstP q ad) (bldT q.src ad (dstT (inT q) n))) P p P' p', .int .i64 0]) ∧ Made w w' (.slice P q.opt.length p) q.opt ∧ Made w w' (.slice P' (bldT q.src ad (dstT (inT q) n)).length p') (bldT q.src ad (dstT (inT q) n)) := by
  have HE := Lib.hid he
  have HK := Lib.hid hk
  have hc4 := (of_ok he).1
  have HX := Lib.hid ((to_chk he hn).2.1 hk)
  have hin := in_len he
  have HM := Lib.hid (show decide (chk4 (dstP q ad) = 0 ∧ isPt n) = true by
    rw [decide_eq_true_iff]
    exact ⟨chk4_same hc4 rfl rfl rfl rfl rfl rfl rfl rfl (of_ad hc4).1 ha, hn⟩)
  clear he hk ha hn hc4
  have hB : Below w.heap.size w ((w.alloc (.cells (v4a q A c A' c') 24)).alloc (.cells (v4a p4z none 0 none 0) 24)) := below_two w _ _
  have hU0 : ((w.alloc (.cells (v4a q A c A' c') 24)).alloc (.cells (v4a p4z none 0 none 0) 24)).heap[w.heap.size]? = some (.cells (v4a q A c A' c') 24 (0, 0)) := (Below.heap_alloc (w.alloc (.cells (v4a q A c A' c') 24)) _ w.heap.size (by simp)).trans (World.alloc_heap_new w _)
  have hR0 : ((w.alloc (.cells (v4a q A c A' c') 24)).alloc (.cells (v4a p4z none 0 none 0) 24)).heap[w.heap.size + 1]? = some (.cells (v4a p4z none 0 none 0) 24 (0, 0)) := by
    have := World.alloc_heap_new (w.alloc (.cells (v4a q A c A' c') 24)) (.cells (v4a p4z none 0 none 0) 24)
    rwa [World.size_alloc] at this
  rw [v4q_eq]
  go_enter Tryz.func13, Tryz.ntmps13
  go_upto_region 1 with fail
  rw [show #[.int .i64 0, .int .i64 0, .int .i64 0, .int .i64 0, .int .i64 0, .int .i64 0, .int .i64 0, .bool false, .bool false, .slice none 0 0, .slice none 0 0] = v4a p4z none 0 none 0 from rfl]
  generalize (w.alloc (.cells (v4a q A c A' c') 24)).alloc (.cells (v4a p4z none 0 none 0) 24) = W at *
  have at0 := At4.of_heap hU0
  have hD0 := hD.below (hB.mono hB0)
  go_upto_region 4 with (first
    | ((with_reducible show wpList _ _ _ (Oper.mk _ (Op.load 24 _) _ _ _ _ :: _) _ _); refine wpList_val rfl (run_load_v4 rfl rfl at0 rfl) ?_)
    | (go_at_call 30; refine (cOpen q A c A' c' W ho hl B hD0 (Nat.le_trans hB0 hB.size)).mono ?_; rintro e w1 ⟨v, rfl, hOp⟩; rw [HE.out]; obtain ⟨P, p, P', p', rfl, m1, m2⟩ := hOp.2.2.2.1 HE.out HK.out))
  have x1 := hOp.1
  have b1 := hB.trans (x1.mono hB.size)
  have hR1 := (x1.block (w.heap.size + 1) (heap_lt hR0)).trans hR0
  have hU1 := (x1.block w.heap.size (heap_lt hU0)).trans hU0
  have zR := heap_lt hR0
  have zx := x1.size
  have ka := (At4.of_heap hU1).dst
  have fa := heap_frozen hU1 6
  go_upto_region 5 with fail
  have hU2 : (w1.setCell ⟨w.heap.size, 6, none⟩ (.int .i64 ad)).heap[w.heap.size]? = some (.cells (v4a (dstP q ad) A c A' c') 24 (0, 0)) := heap_setCell_same w1 w.heap.size 6 _ _ (.int .i64 ad) hU1
  have hR2 := (heap_setCell_other w1 ⟨w.heap.size, 6, none⟩ (w.heap.size + 1) (.int .i64 ad) (by show w.heap.size + 1 ≠ w.heap.size; omega)).trans hR1
  have b2 := b1.setCell (p := ⟨w.heap.size, 6, none⟩) (Nat.le_refl _) (.int .i64 ad)
  clear ka fa hU1 hR1 hU0 hR0
  have at2 := At4.of_heap hU2
  have om1 := own_setCell (made_own m1) (p := ⟨w.heap.size, 6, none⟩) (u := .int .i64 ad) (by show w.heap.size < _; omega)
  have om2 := own_setCell (made_own m2) (p := ⟨w.heap.size, 6, none⟩) (u := .int .i64 ad) (by show w.heap.size < _; omega)
  generalize w1.setCell ⟨w.heap.size, 6, none⟩ (.int .i64 ad) = V at *
  go_upto_region 7 with (first
    | ((with_reducible show wpList _ _ _ (Oper.mk _ (Op.load 24 _) _ _ _ _ :: _) _ _); refine wpList_val rfl (run_load_v4 rfl rfl at2 rfl) ?_)
    | (go_at_call 36; refine (cMay (dstP q ad) A c A' c' _ n ho hl).mono ?_; rintro e w3 ⟨rfl, x3⟩; rw [HM.out]))
  have hR3 := (x3.block (w.heap.size + 1) (heap_lt hR2)).trans hR2
  have hU3 := (x3.block w.heap.size (heap_lt hU2)).trans hU2
  have b3 := b2.trans (x3.mono b2.size)
  have om1 := own_below om1 x3
  have om2 := own_below om2 x3
  have hTw : TwoB w (v4a (dstP q ad) A c A' c') 24 11 w3 := ⟨b3, hU3, _, rfl, hR3⟩
  clear hOp at0 at2 hU2 hR2 hU3 hR3 hD0 m1 m2
  refine wp_region_held_drew (S := fun w' => TwoB w (v4a (dstP q ad) A c A' c') 24 11 w' ∧ w'.ownsRow W.heap.size 5 1 (.slice P (inT q).opt.length p) (inT q).opt.length (row (inT q).opt) ∧ w'.ownsRow W.heap.size 5 1 (.slice P' (inT q).dat.length p') (inT q).dat.length (row (inT q).dat)) (by kernel_rfl) ⟨hTw.drew, ⟨own_below om1 (Below.refl _ w3).drew, own_below om2 (Below.refl _ w3).drew⟩⟩ (fun hS => ?_)
  refine held_pure (i := 0) (oi := ⟨some 26, _, _, _, _, _⟩) rfl (by kernel_rfl) (by kernel_rfl) (by kernel_rfl) (fun _ _ _ h => h) (by rfl) (fun w hSw => run_load_v4 rfl rfl (At4.of_heap hSw.1.2.1) rfl) hS (fun hS => ?_)
  try go_frame
  refine held_pure (i := 1) (oi := ⟨some 27, _, _, _, _, _⟩) rfl (by kernel_rfl) (by kernel_rfl) (by kernel_rfl) (fun _ _ _ h => h) (by rfl) (v := ?_) (fun w hSw => ?_) hS (fun hS => ?_)
  rotate_left
  · go_simp; try with_reducible rfl
  try go_frame
  refine held_pure (i := 2) (oi := ⟨some 28, _, _, _, _, _⟩) rfl (by kernel_rfl) (by kernel_rfl) (by kernel_rfl) (fun _ _ _ h => h) (by rfl) (v := ?_) (fun w hSw => ?_) hS (fun hS => ?_)
  rotate_left
  · go_simp; try with_reducible rfl
  try go_frame
  refine wpAnyH_ready (rs := [3]) (by kernel_rfl) (by simp) (AllReadyH.cons (o := ⟨some 29, _, _, _, _, _⟩) rfl (fun K hK => ?_) AllReadyH.nil)
  rw [if_pos (by rfl)]
  go_simp
  go_invoke
  go_simp
  refine (cSto (inT q) P p P' p' n _).mono ?_
  rintro e y4 ⟨rfl, x4⟩
  show K _ _
  refine hK.out _ _ ⟨hS.1.step x4, ⟨own_below hS.2.1 x4, own_below hS.2.2 x4⟩⟩ (fun hS => ?_)
  clear hK K
  try go_frame
  refine wpAnyH_ready (rs := [4]) (by kernel_rfl) (by simp) (AllReadyH.cons (o := ⟨some 30, _, _, _, _, _⟩) rfl (fun K hK => ?_) AllReadyH.nil)
  rw [if_pos (by rfl)]
  go_simp
  refine (cWith6 (dstP q ad) A c A' c' (dstT (inT q) n) P p P' p' _ _ ((hO.below (hS.1.1.mono hB0)).more (Nat.le_trans hB0 hS.1.1.size)) (Nat.le_refl _) ho (arg_own hS.2.1) (arg_own hS.2.2) (by show (inT q).opt.length ≤ _; omega) (by show (inT q).dat.length ≤ _; omega) HX.out).mono ?_
  rintro e y5 ⟨O, o, D, d, rfl, mO, mD⟩
  have x5 := mO.below
  have oO := made_own mO
  have oD := made_own mD
  have lt5 := hS.1.lt
  show K _ _
  refine hK.out _ _ ⟨hS.1.step x5, ⟨own_below hS.2.1 x5, own_below hS.2.2 x5⟩⟩ (fun hS => ?_)
  clear hK K
  try go_frame
  refine held_pure (i := 5) (oi := ⟨some 31, _, _, _, _, _⟩) rfl (by kernel_rfl) (by kernel_rfl) (by kernel_rfl) (fun _ _ _ h => h) (by rfl) (v := ?_) (fun w hSw => ?_) hS (fun hS => ?_)
  rotate_left
  · go_simp; try with_reducible rfl
  try go_frame
  refine held_pure (i := 6) (oi := ⟨some 32, _, _, _, _, _⟩) rfl (by kernel_rfl) (by kernel_rfl) (by kernel_rfl) (fun _ _ _ h => h) (by rfl) (v := ?_) (fun w hSw => ?_) hS (fun hS => ?_)
  rotate_left
  · go_simp; try with_reducible rfl
  try go_frame
  refine wpAnyH_ready (rs := [7]) (by kernel_rfl) (by simp) (AllReadyH.cons (o := ⟨none, _, _, _, _, _⟩) rfl (fun K hK => ?_) AllReadyH.nil)
  rw [if_pos (by rfl)]
  obtain ⟨bT, uT, old, hold, hgo⟩ := id hS.1
  have hrow := hS.1.row (v4a (datP (dstP q ad) (bldT q.src ad (dstT (inT q) n))) O o D d) rfl
  refine wp_store_row 24 _ _ rfl (w.heap.size + 1) (v4a (datP (dstP q ad) (bldT q.src ad (dstT (inT q) n))) O o D d) rfl rfl 24 old hgo (by kernel_rfl) hold (v4a_one _ _ _ _ _) ?_
  have hgz := setRow_heap _ _ _ (v4a (datP (dstP q ad) (bldT q.src ad (dstT (inT q) n))) O o D d) _ _ hgo
  refine hK.out _ _ ⟨hrow, ⟨own_setRow hS.2.1 (by omega), own_setRow hS.2.2 (by omega)⟩⟩ (fun hS => ?_)
  clear hK K
  try go_frame
  refine held_pure (i := 8) (oi := ⟨some 7, _, _, _, _, _⟩) rfl (by kernel_rfl) (by kernel_rfl) (by kernel_rfl) (fun _ _ _ h => h) (by rfl) (v := ?_) (fun w hSw => ?_) hS (fun hS => ?_)
  rotate_left
  · go_simp; try with_reducible rfl
  try go_frame
  refine wpAnyH_done (by kernel_rfl) ?_ _
  go_wp2_with fail
  have oO5 := own_setRow oO (g := w.heap.size + 1) (cs := v4a (datP (dstP q ad) (bldT q.src ad (dstT (inT q) n))) O o D d) (by omega)
  have oD5 := own_setRow oD (g := w.heap.size + 1) (cs := v4a (datP (dstP q ad) (bldT q.src ad (dstT (inT q) n))) O o D d) (by omega)
  exact bodyPost_ret (res2 rfl rfl (run_loadVar_row _ _ _ 24 (v4a (datP (dstP q ad) (bldT q.src ad (dstT (inT q) n))) O o D d) _ _ hgz Tryz.underlying24 rfl (by kernel_rfl))) rfl ⟨O, o, D, d, rfl, Made.of_own (own_base oO5 (by omega)) hS.1.1, Made.of_own (own_base oD5 (by omega)) hS.1.1⟩
set_option maxRecDepth 100000 in
set_option maxHeartbeats 4000000 in
theorem cTo1 (ho : q.opt.length ≤ 1000000) (hl : q.dat.length ≤ 900000) (B : Nat) (hO : Arg w B A c q.opt) (hD : Arg w B A' c' q.dat) (hB0 : B ≤ w.heap.size) (ad n : Int) (he : ofE q = 0) (hk : q.proto = 1) (ha : isAd ad) (hn : isPt n) : Calls Tryz.prog 13 #[v4v q A c A' c', .int .i64 ad, .int .i64 n] w fun e w' =>
    ∃ P p P' p', e = .returned (.tuple #[v4v (datP (dstP q ad) (bldI [] (wdI (inI q) n))) P p P' p', .int .i64 0]) ∧ Made w w' (.slice P q.opt.length p) q.opt ∧ Made w w' (.slice P' (bldI [] (wdI (inI q) n)).length p') (bldI [] (wdI (inI q) n)) := by
  have HE := Lib.hid he
  have HK := Lib.hid hk
  have hc4 := (of_ok he).1
  have HX := Lib.hid ((to_chk he hn).2.2 hk)
  have hin := in_len he
  have HM := Lib.hid (show decide (chk4 (dstP q ad) = 0 ∧ isPt n) = true by
    rw [decide_eq_true_iff]
    exact ⟨chk4_same hc4 rfl rfl rfl rfl rfl rfl rfl rfl (of_ad hc4).1 ha, hn⟩)
  clear he hk ha hn hc4
  have hB : Below w.heap.size w ((w.alloc (.cells (v4a q A c A' c') 24)).alloc (.cells (v4a p4z none 0 none 0) 24)) := below_two w _ _
  have hU0 : ((w.alloc (.cells (v4a q A c A' c') 24)).alloc (.cells (v4a p4z none 0 none 0) 24)).heap[w.heap.size]? = some (.cells (v4a q A c A' c') 24 (0, 0)) := (Below.heap_alloc (w.alloc (.cells (v4a q A c A' c') 24)) _ w.heap.size (by simp)).trans (World.alloc_heap_new w _)
  have hR0 : ((w.alloc (.cells (v4a q A c A' c') 24)).alloc (.cells (v4a p4z none 0 none 0) 24)).heap[w.heap.size + 1]? = some (.cells (v4a p4z none 0 none 0) 24 (0, 0)) := by
    have := World.alloc_heap_new (w.alloc (.cells (v4a q A c A' c') 24)) (.cells (v4a p4z none 0 none 0) 24)
    rwa [World.size_alloc] at this
  rw [v4q_eq]
  go_enter Tryz.func13, Tryz.ntmps13
  go_upto_region 1 with fail
  rw [show #[.int .i64 0, .int .i64 0, .int .i64 0, .int .i64 0, .int .i64 0, .int .i64 0, .int .i64 0, .bool false, .bool false, .slice none 0 0, .slice none 0 0] = v4a p4z none 0 none 0 from rfl]
  generalize (w.alloc (.cells (v4a q A c A' c') 24)).alloc (.cells (v4a p4z none 0 none 0) 24) = W at *
  have at0 := At4.of_heap hU0
  have hD0 := hD.below (hB.mono hB0)
  go_upto_region 4 with (first
    | ((with_reducible show wpList _ _ _ (Oper.mk _ (Op.load 24 _) _ _ _ _ :: _) _ _); refine wpList_val rfl (run_load_v4 rfl rfl at0 rfl) ?_)
    | (go_at_call 30; refine (cOpen q A c A' c' W ho hl B hD0 (Nat.le_trans hB0 hB.size)).mono ?_; rintro e w1 ⟨v, rfl, hOp⟩; rw [HE.out]; obtain ⟨P, p, rfl, m1⟩ := hOp.2.2.2.2 HE.out HK.out))
  have x1 := hOp.1
  have b1 := hB.trans (x1.mono hB.size)
  have hR1 := (x1.block (w.heap.size + 1) (heap_lt hR0)).trans hR0
  have hU1 := (x1.block w.heap.size (heap_lt hU0)).trans hU0
  have zR := heap_lt hR0
  have zx := x1.size
  have ka := (At4.of_heap hU1).dst
  have fa := heap_frozen hU1 6
  go_upto_region 5 with fail
  have hU2 : (w1.setCell ⟨w.heap.size, 6, none⟩ (.int .i64 ad)).heap[w.heap.size]? = some (.cells (v4a (dstP q ad) A c A' c') 24 (0, 0)) := heap_setCell_same w1 w.heap.size 6 _ _ (.int .i64 ad) hU1
  have hR2 := (heap_setCell_other w1 ⟨w.heap.size, 6, none⟩ (w.heap.size + 1) (.int .i64 ad) (by show w.heap.size + 1 ≠ w.heap.size; omega)).trans hR1
  have b2 := b1.setCell (p := ⟨w.heap.size, 6, none⟩) (Nat.le_refl _) (.int .i64 ad)
  clear ka fa hU1 hR1 hU0 hR0
  have at2 := At4.of_heap hU2
  have om1 := own_setCell (made_own m1) (p := ⟨w.heap.size, 6, none⟩) (u := .int .i64 ad) (by show w.heap.size < _; omega)
  generalize w1.setCell ⟨w.heap.size, 6, none⟩ (.int .i64 ad) = V at *
  go_upto_region 7 with (first
    | ((with_reducible show wpList _ _ _ (Oper.mk _ (Op.load 24 _) _ _ _ _ :: _) _ _); refine wpList_val rfl (run_load_v4 rfl rfl at2 rfl) ?_)
    | (go_at_call 36; refine (cMay (dstP q ad) A c A' c' _ n ho hl).mono ?_; rintro e w3 ⟨rfl, x3⟩; rw [HM.out]))
  have hR3 := (x3.block (w.heap.size + 1) (heap_lt hR2)).trans hR2
  have hU3 := (x3.block w.heap.size (heap_lt hU2)).trans hU2
  have b3 := b2.trans (x3.mono b2.size)
  have om1 := own_below om1 x3
  have hTw : TwoB w (v4a (dstP q ad) A c A' c') 24 11 w3 := ⟨b3, hU3, _, rfl, hR3⟩
  clear hOp at0 at2 hU2 hR2 hU3 hR3 hD0 m1
  refine wp_region_held_drew (S := fun w' => TwoB w (v4a (dstP q ad) A c A' c') 24 11 w' ∧ w'.ownsRow W.heap.size 5 1 (.slice P (inI q).dat.length p) (inI q).dat.length (row (inI q).dat)) (by kernel_rfl) ⟨hTw.drew, own_below om1 (Below.refl _ w3).drew⟩ (fun hS => ?_)
  refine held_pure (i := 0) (oi := ⟨some 26, _, _, _, _, _⟩) rfl (by kernel_rfl) (by kernel_rfl) (by kernel_rfl) (fun _ _ _ h => h) (by rfl) (fun w hSw => run_load_v4 rfl rfl (At4.of_heap hSw.1.2.1) rfl) hS (fun hS => ?_)
  try go_frame
  refine held_pure (i := 1) (oi := ⟨some 27, _, _, _, _, _⟩) rfl (by kernel_rfl) (by kernel_rfl) (by kernel_rfl) (fun _ _ _ h => h) (by rfl) (v := ?_) (fun w hSw => ?_) hS (fun hS => ?_)
  rotate_left
  · go_simp; try with_reducible rfl
  try go_frame
  refine held_pure (i := 2) (oi := ⟨some 28, _, _, _, _, _⟩) rfl (by kernel_rfl) (by kernel_rfl) (by kernel_rfl) (fun _ _ _ h => h) (by rfl) (v := ?_) (fun w hSw => ?_) hS (fun hS => ?_)
  rotate_left
  · go_simp; try with_reducible rfl
  try go_frame
  refine wpAnyH_ready (rs := [3]) (by kernel_rfl) (by simp) (AllReadyH.cons (o := ⟨some 29, _, _, _, _, _⟩) rfl (fun K hK => ?_) AllReadyH.nil)
  rw [if_pos (by rfl)]
  go_simp
  go_invoke
  go_simp
  refine (cQto (inI q) P p n _ _ (arg_own hS.2) (Nat.le_refl _) (by omega)).mono ?_
  rintro e y4 ⟨P4, p4, rfl, m4⟩
  have x4 := m4.below
  have am4 := made_arg m4
  show K _ _
  refine hK.out _ _ ⟨hS.1.step x4, own_below hS.2 x4⟩ (fun hS => ?_)
  clear hK K
  try go_frame
  refine wpAnyH_ready (rs := [4]) (by kernel_rfl) (by simp) (AllReadyH.cons (o := ⟨some 30, _, _, _, _, _⟩) rfl (fun K hK => ?_) AllReadyH.nil)
  rw [if_pos (by rfl)]
  go_simp
  refine (cWith1 (dstP q ad) A c A' c' (wdI (inI q) n) P4 p4 _ _ ((hO.below (hS.1.1.mono hB0)).more (Nat.le_trans hB0 hS.1.1.size)) (Nat.le_refl _) ho am4 (by show (inI q).dat.length ≤ _; omega) HX.out).mono ?_
  rintro e y5 ⟨O, o, D, d, rfl, mO, mD⟩
  have x5 := mO.below
  have oO := made_own mO
  have oD := made_own mD
  have lt5 := hS.1.lt
  show K _ _
  refine hK.out _ _ ⟨hS.1.step x5, own_below hS.2 x5⟩ (fun hS => ?_)
  clear hK K
  try go_frame
  refine held_pure (i := 5) (oi := ⟨some 31, _, _, _, _, _⟩) rfl (by kernel_rfl) (by kernel_rfl) (by kernel_rfl) (fun _ _ _ h => h) (by rfl) (v := ?_) (fun w hSw => ?_) hS (fun hS => ?_)
  rotate_left
  · go_simp; try with_reducible rfl
  try go_frame
  refine held_pure (i := 6) (oi := ⟨some 32, _, _, _, _, _⟩) rfl (by kernel_rfl) (by kernel_rfl) (by kernel_rfl) (fun _ _ _ h => h) (by rfl) (v := ?_) (fun w hSw => ?_) hS (fun hS => ?_)
  rotate_left
  · go_simp; try with_reducible rfl
  try go_frame
  refine wpAnyH_ready (rs := [7]) (by kernel_rfl) (by simp) (AllReadyH.cons (o := ⟨none, _, _, _, _, _⟩) rfl (fun K hK => ?_) AllReadyH.nil)
  rw [if_pos (by rfl)]
  obtain ⟨bT, uT, old, hold, hgo⟩ := id hS.1
  have hrow := hS.1.row (v4a (datP (dstP q ad) (bldI [] (wdI (inI q) n))) O o D d) rfl
  refine wp_store_row 24 _ _ rfl (w.heap.size + 1) (v4a (datP (dstP q ad) (bldI [] (wdI (inI q) n))) O o D d) rfl rfl 24 old hgo (by kernel_rfl) hold (v4a_one _ _ _ _ _) ?_
  have hgz := setRow_heap _ _ _ (v4a (datP (dstP q ad) (bldI [] (wdI (inI q) n))) O o D d) _ _ hgo
  refine hK.out _ _ ⟨hrow, own_setRow hS.2 (by omega)⟩ (fun hS => ?_)
  clear hK K
  try go_frame
  refine held_pure (i := 8) (oi := ⟨some 7, _, _, _, _, _⟩) rfl (by kernel_rfl) (by kernel_rfl) (by kernel_rfl) (fun _ _ _ h => h) (by rfl) (v := ?_) (fun w hSw => ?_) hS (fun hS => ?_)
  rotate_left
  · go_simp; try with_reducible rfl
  try go_frame
  refine wpAnyH_done (by kernel_rfl) ?_ _
  go_wp2_with fail
  have oO5 := own_setRow oO (g := w.heap.size + 1) (cs := v4a (datP (dstP q ad) (bldI [] (wdI (inI q) n))) O o D d) (by omega)
  have oD5 := own_setRow oD (g := w.heap.size + 1) (cs := v4a (datP (dstP q ad) (bldI [] (wdI (inI q) n))) O o D d) (by omega)
  exact bodyPost_ret (res2 rfl rfl (run_loadVar_row _ _ _ 24 (v4a (datP (dstP q ad) (bldI [] (wdI (inI q) n))) O o D d) _ _ hgz Tryz.underlying24 rfl (by kernel_rfl))) rfl ⟨O, o, D, d, rfl, Made.of_own (own_base oO5 (by omega)) hS.1.1, Made.of_own (own_base oD5 (by omega)) hS.1.1⟩
end
end Go.Proofs.YtodlfdnegcfhcaaGreat

/-
  A packet from another endpoint, to another endpoint: all ways in one. Conditions are each theorem's own.
-/
namespace Go.Proofs.YtodlfdnegcfhcaaGreat
open Go.RowKit

section
variable (q : P4) (A : Option Addr) (c : Nat) (A' : Option Addr) (c' : Nat) (w : World)
theorem cFrom (ho : q.opt.length ≤ 1000000) (hl : q.dat.length ≤ 900000) (B : Nat) (hO : Arg w B A c q.opt) (hD : Arg w B A' c' q.dat) (hB0 : B ≤ w.heap.size) (ad n : Int) : Calls Tryz.prog 11 #[v4v q A c A' c', .int .i64 ad, .int .i64 n] w fun e w' => ∃ P p P' p', e = .returned (.tuple #[v4v (frV q ad n) P p P' p', .int .i64 (mayE q ad n)]) ∧ Made w w' (.slice P (frV q ad n).opt.length p) (frV q ad n).opt ∧ Made w w' (.slice P' (frV q ad n).dat.length p') (frV q ad n).dat := by
  by_cases he : ofE q = 0
  · by_cases ha : isAd ad ∧ isPt n
    · have hm : mayE q ad n = 0 := by rw [mayE, if_neg (by omega), if_pos ha]
      rw [frV, if_pos hm, hm]
      obtain ⟨_, _, h⟩ := of_ok he
      rcases h with ⟨hk, _⟩ | ⟨hk, _⟩ | ⟨hk, _⟩
      · have e : frP q ad n = datP (srcP q ad) (bldU ad q.dst (srcU (inU q) n)) := by simp [frP, nwP, nwD, datP, srcP, hk]
        rw [e]; exact cFrom17 q A c A' c' w ho hl B hO hD hB0 ad n he hk ha.1 ha.2
      · have e : frP q ad n = datP (srcP q ad) (bldT ad q.dst (srcT (inT q) n)) := by simp [frP, nwP, nwD, datP, srcP, hk]
        rw [e]; exact cFrom6 q A c A' c' w ho hl B hO hD hB0 ad n he hk ha.1 ha.2
      · have e : frP q ad n = datP (srcP q ad) (bldI [] (wdI (inI q) n)) := by simp [frP, nwP, nwD, datP, srcP, hk]
        rw [e]; exact cFrom1 q A c A' c' w ho hl B hO hD hB0 ad n he hk ha.1 ha.2
    · have hm : mayE q ad n = 1 := by rw [mayE, if_neg (by omega), if_neg ha]
      rw [frV, if_neg (by omega), hm]
      exact cFromA q A c A' c' w ho hl B hD hB0 ad n he ha
  · have hm : mayE q ad n = ofE q := by rw [mayE, if_pos he]
    rw [frV, if_neg (by omega), hm]
    exact cFromE q A c A' c' w ho hl B hD hB0 ad n he
theorem cTo (ho : q.opt.length ≤ 1000000) (hl : q.dat.length ≤ 900000) (B : Nat) (hO : Arg w B A c q.opt) (hD : Arg w B A' c' q.dat) (hB0 : B ≤ w.heap.size) (ad n : Int) : Calls Tryz.prog 13 #[v4v q A c A' c', .int .i64 ad, .int .i64 n] w fun e w' => ∃ P p P' p', e = .returned (.tuple #[v4v (toV q ad n) P p P' p', .int .i64 (mayE q ad n)]) ∧ Made w w' (.slice P (toV q ad n).opt.length p) (toV q ad n).opt ∧ Made w w' (.slice P' (toV q ad n).dat.length p') (toV q ad n).dat := by
  by_cases he : ofE q = 0
  · by_cases ha : isAd ad ∧ isPt n
    · have hm : mayE q ad n = 0 := by rw [mayE, if_neg (by omega), if_pos ha]
      rw [toV, if_pos hm, hm]
      obtain ⟨_, _, h⟩ := of_ok he
      rcases h with ⟨hk, _⟩ | ⟨hk, _⟩ | ⟨hk, _⟩
      · have e : toP q ad n = datP (dstP q ad) (bldU q.src ad (dstU (inU q) n)) := by simp [toP, nwP, nwD, datP, dstP, hk]
        rw [e]; exact cTo17 q A c A' c' w ho hl B hO hD hB0 ad n he hk ha.1 ha.2
      · have e : toP q ad n = datP (dstP q ad) (bldT q.src ad (dstT (inT q) n)) := by simp [toP, nwP, nwD, datP, dstP, hk]
        rw [e]; exact cTo6 q A c A' c' w ho hl B hO hD hB0 ad n he hk ha.1 ha.2
      · have e : toP q ad n = datP (dstP q ad) (bldI [] (wdI (inI q) n)) := by simp [toP, nwP, nwD, datP, dstP, hk]
        rw [e]; exact cTo1 q A c A' c' w ho hl B hO hD hB0 ad n he hk ha.1 ha.2
    · have hm : mayE q ad n = 1 := by rw [mayE, if_neg (by omega), if_neg ha]
      rw [toV, if_neg (by omega), hm]
      exact cToA q A c A' c' w ho hl B hD hB0 ad n he ha
  · have hm : mayE q ad n = ofE q := by rw [mayE, if_pos he]
    rw [toV, if_neg (by omega), hm]
    exact cToE q A c A' c' w ho hl B hD hB0 ad n he
end
end Go.Proofs.YtodlfdnegcfhcaaGreat
