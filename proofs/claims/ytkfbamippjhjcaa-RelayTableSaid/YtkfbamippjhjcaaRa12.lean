/-
  Contracts and lemmas on which the proofs of this seat stand (several texts in one). Conditions are each theorem's own.
-/
import Derived.Test.YtkfbamippjhjcaaRa11
import Derived.Test.YtkfbamippjhjcaaRa7

/-
  Contracts of layer 29, the program's and the document's: Wrap, Unwrap, Hop, Room. Conditions are each theorem's own.
-/
namespace Go.Proofs.Ytkfbamippjhjcaa
open Go.RowKit
theorem own_cellR {w : World} {base g c i : Nat} {bs : List UInt8} (h : w.ownsRow base 5 1 (.slice (some ⟨g, 0, none⟩) bs.length c) bs.length (row bs)) (_hi : i < bs.length) : base ≤ g ∧ g < w.heap.size := by
  rcases h.2 with ⟨h0, _⟩ | ⟨k, cap, cur, hv, hb, hh, hle, _, hs, ht⟩
  · cases h0
  · cases hv; exact ⟨hb, heap_lt hh⟩
theorem wp_valR {o : Oper} {a : Act} {w : World} {K : Act → World → Prop} {Q : Exit → Act → World → Prop} {v : Value} (hrun : (execOp a.eval o).run Try.prog w = .ok (.value v) w) (h : K (a.put o.dst v) w) : o.wp Try.prog a w K Q := by
  unfold Oper.wp; rw [hrun]; exact h
theorem store_slR_wp {o : Oper} {a : Act} {w : World} {K : Act → World → Prop} {Q : Exit → Act → World → Prop} {x y : Operand} {p : Addr} {v0 : Value} {A : Option Addr} {n c : Nat} (ho : o.op = .store 24 x y) (hx : a.eval x = .pointer (some p)) (hy : a.eval y = .slice A n c) (hc : w.cell? p = some v0) (hf : w.frozen? p = false) (h : K (a.put o.dst undef) (w.setCell p (.slice A n c))) : o.wp Try.prog a w K Q := by
  unfold Oper.wp execOp
  simp only [ho, hx, hy]
  go_simp
  exact h
theorem own_setRowR {w : World} {base e sz n t : Nat} {v : Value} {xs : List Value} {cs cs' : Array Value} (h : w.ownsRow base e sz v n xs) {g : Nat} (hg : w.heap[g]? = some (.cells cs t (0, 0))) (hte : t ≠ e) : (w.setRow g cs').ownsRow base e sz v n xs := by
  refine ⟨h.1, ?_⟩
  rcases h.2 with hn | ⟨g', cap, cur, hv, hb, hg', rest⟩
  · exact .inl hn
  · refine .inr ⟨g', cap, cur, hv, hb, (setRow_other w g g' cs' (fun e' => ?_)).trans hg', rest⟩
    subst e'
    rw [hg'] at hg
    cases hg; exact hte rfl
theorem three_boxes (w : World) (x y z : Obj) : Below w.heap.size w (((w.alloc x).alloc y).alloc z) ∧ (((w.alloc x).alloc y).alloc z).heap[w.heap.size]? = some x ∧ (((w.alloc x).alloc y).alloc z).heap[w.heap.size + 1]? = some y ∧ (((w.alloc x).alloc y).alloc z).heap[w.heap.size + 2]? = some z ∧ w.heap.size + 2 < (((w.alloc x).alloc y).alloc z).heap.size := by
  have e1 : (w.alloc x).heap.size = w.heap.size + 1 := by simp
  have e2 : ((w.alloc x).alloc y).heap.size = w.heap.size + 2 := by simp
  refine ⟨(((Below.refl _ w).alloc (Nat.le_refl _) x).alloc (by omega) y).alloc (by omega) z, ?_, ?_, ?_, by simp⟩
  · exact (Below.heap_alloc _ _ _ (by omega)).trans ((Below.heap_alloc _ _ _ (by omega)).trans (World.alloc_heap_new w x))
  · refine (Below.heap_alloc _ _ _ (by omega)).trans ?_
    have := World.alloc_heap_new (w.alloc x) y
    rwa [e1] at this
  · have := World.alloc_heap_new ((w.alloc x).alloc y) z
    rwa [e2] at this
theorem range_heap {W : World} {g : Nat} {cs : Array Value} {t : TypeId} {fr : Nat × Nat} (h : W.heap[g]? = some (.cells cs t fr)) : W.rangeAt g 0 cs.toList := fun j v hj => by
  rw [cell_of_row W g (0 + j) _ _ _ h, Nat.zero_add, ← Array.getElem?_toList]; exact hj
theorem v6a_size (q : P6) (A : Option Addr) (c : Nat) (hs : q.src.length = 16) (hd : q.dst.length = 16) : (v6a q A c).size = 37 := by rw [v6a, List.size_toArray]; exact v6l_len hs hd
theorem v6a_set (q : P6) (A A' : Option Addr) (c c' : Nat) (hs : q.src.length = 16) (hd : q.dst.length = 16) : (v6a q A c).setIfInBounds 36 (.slice A' q.dat.length c') = v6a q A' c' := by
  apply Array.ext'
  rw [Array.toList_setIfInBounds]
  have hl : ∀ X Y, v6l q X Y = ([.int .i64 q.traffic, .int .i64 q.flow, .int .i64 q.next, .int .i64 q.hop] ++ row q.src ++ row q.dst) ++ [.slice X q.dat.length Y] := fun X Y => by simp [v6l]
  have hn : ([.int .i64 q.traffic, .int .i64 q.flow, .int .i64 q.next, .int .i64 q.hop] ++ row q.src ++ row q.dst : List Value).length = 36 := by simp [row_length, hs, hd]
  show (v6l q A c).set 36 _ = v6l q A' c'
  rw [hl, hl, List.set_append_right _ _ (by omega), hn]
  rfl
set_option maxRecDepth 100000 in
theorem run_build_wr {o : Oper} {a : Act} {w : World} {p h x y z : Operand} {s d b : List UInt8} {hop : Int} {q : P6} {A : Option Addr} {c : Nat} (ho : o.op = .build 26 #[(2, p), (3, h), (4, x), (5, y), (6, z)]) (hp : a.eval p = .int .i64 4) (hh : a.eval h = .int .i64 hop)
    (hx : a.eval x = .agg (cel s)) (hy : a.eval y = .agg (cel d)) (hz : a.eval z = .slice A b.length c) (hs : s.length = 16) (hd : d.length = 16) (hq : q = wrP s d hop b) :
    (execOp a.eval o).run Try.prog w = .ok (.value (v6v q A c)) w := by
  subst hq
  match s, hs, d, hd with
  | [s0, s1, s2, s3, s4, s5, s6, s7, s8, s9, s10, s11, s12, s13, s14, s15], _, [d0, d1, d2, d3, d4, d5, d6, d7, d8, d9, d10, d11, d12, d13, d14, d15], _ =>
    have e : (Array.map (fun y : Nat × Operand => (y.1, a.eval y.2)) #[(2, p), (3, h), (4, x), (5, y), (6, z)]) = #[(2, .int .i64 4), (3, .int .i64 hop), (4, .agg (cel [s0, s1, s2, s3, s4, s5, s6, s7, s8, s9, s10, s11, s12, s13, s14, s15])), (5, .agg (cel [d0, d1, d2, d3, d4, d5, d6, d7, d8, d9, d10, d11, d12, d13, d14, d15])), (6, .slice A b.length c)] := by simp [hp, hh, hx, hy, hz]
    have hb : (Instr.build 26 #[(2, .int .i64 4), (3, .int .i64 hop), (4, .agg (cel [s0, s1, s2, s3, s4, s5, s6, s7, s8, s9, s10, s11, s12, s13, s14, s15])), (5, .agg (cel [d0, d1, d2, d3, d4, d5, d6, d7, d8, d9, d10, d11, d12, d13, d14, d15])), (6, .slice A b.length c)]).run Try.prog w = .ok (v6v (wrP [s0, s1, s2, s3, s4, s5, s6, s7, s8, s9, s10, s11, s12, s13, s14, s15] [d0, d1, d2, d3, d4, d5, d6, d7, d8, d9, d10, d11, d12, d13, d14, d15] hop b) A c) w := by kernel_rfl
    unfold execOp
    simp only [ho, e, Sem.run_bind, hb]
    rfl
set_option maxHeartbeats 1000000 in
theorem cloneS_any (A : Option Addr) (bs : List UInt8) (c B : Nat) (w : World) (h : Arg w B A c bs) (hB : B ≤ w.heap.size) (hl : bs.length ≤ 1099511627776) :
    Calls Try.prog 32 #[.slice A bs.length c] w fun e w' => ∃ v, e = .returned v ∧ Made w w' v bs := by
  have q22 : ∀ (w : World) (a : Option Addr) (n c n' c' : Nat), (binOp .eql 24 (.slice a n c) (.slice none n' c')).run Try.prog w = .ok (.bool a.isNone) w := fun w a n c n' c' => Lib.run_eql_slice_nil w _ _ a n c n' c' Try.underlying24
  rcases A with _ | ad
  · have h0 : bs = [] := by
      rcases Nat.eq_zero_or_pos bs.length with e | e
      · exact List.eq_nil_of_length_eq_zero e
      · obtain ⟨_, _, e', _⟩ := h.rd e; cases e'
    subst h0
    go_enter Try.func32, Try.ntmps32
    go_wp2
    go_ret
    exact ⟨_, rfl, Made.nil _ _ (Below.refl _ _)⟩
  · have hr := h.rd
    have hn := h.none_
    go_enter Try.func32, Try.ntmps32
    go_wp2_with (at_builtin; refine append_rd rfl _ _ rfl w.heap.size _ _ _ rfl (World.ownsRow_made w #[] 0 (Nat.le_refl _) (Nat.zero_le _) rfl) B (some ad) c bs rfl hn (hr.alloc hB _) (by omega) (by simp) ?_; intro v' w1 hown hgrow)
    go_ret
    refine ⟨_, rfl, Made.of_own (by simpa using hown) (((Below.refl _ w).alloc (Nat.le_refl _) _).grown hgrow (by simp) (fun k hk => own_block_ge (World.ownsRow_made (base := w.heap.size) (e := 5) (size := 1) w #[] 0 (Nat.le_refl _) (Nat.zero_le _) rfl) k hk))⟩
theorem v4q_eqR (q : P4) (A : Option Addr) (c : Nat) (A' : Option Addr) (c' : Nat) : v4v q A c A' c' = .agg (v4a q A c A' c') := rfl
theorem At4.of_heapR {W : World} {g : Nat} {q : P4} {A : Option Addr} {c : Nat} {A' : Option Addr} {c' : Nat} {t : TypeId} {fr : Nat × Nat} (h : W.heap[g]? = some (.cells (v4a q A c A' c') t fr)) : At4 W g q A c A' c' := ofhE h
set_option maxRecDepth 100000 in
set_option maxHeartbeats 4000000 in
theorem cWwrap (s d : List UInt8) (hop : Int) (b : List UInt8) (A : Option Addr) (c B : Nat) (w : World) (hs : s.length = 16) (hd : d.length = 16) (hD : Arg w B A c b) (hB : B ≤ w.heap.size) (hl : b.length ≤ 1000000) :
    Calls Try.prog 10 #[.agg (cel s), .agg (cel d), .int .i64 hop, .slice A b.length c] w fun e w' => ∃ P p, e = .returned (.tuple #[v6v (wrV s d hop b) P p, .int .i64 (chk6 (wrP s d hop b))]) ∧ Made w w' (.slice P (wrV s d hop b).dat.length p) (wrV s d hop b).dat := by
  obtain ⟨q, hq⟩ : ∃ q, q = wrP s d hop b := ⟨_, rfl⟩
  have hqs : q.src.length = 16 := by rw [hq]; exact hs
  have hqd : q.dst.length = 16 := by rw [hq]; exact hd
  have hqb : q.dat = b := by rw [hq]; rfl
  have HW : Hid (wrV s d hop b = if chk6 q = 0 then q else p6z) := Lib.hid (by rw [hq]; rfl)
  have HQ := Lib.hid hq
  have HQB := Lib.hid hqb
  rw [← hq]
  obtain ⟨E, hE⟩ : ∃ x, x = chk6 q := ⟨_, rfl⟩
  have HE := Lib.hid hE
  rw [← hE]
  have HQL : Hid (q.dat.length ≤ 1000000) := Lib.hid (by rw [hqb]; exact hl)
  have HQS := Lib.hid hqs
  have HQD := Lib.hid hqd
  clear hq hE hqb hqs hqd
  go_enter Try.func10, Try.ntmps10
  go_upto_region 1 with fail
  rw [show #[.int .i64 0, .int .i64 0, .int .i64 0, .int .i64 0, .int .u8 0, .int .u8 0, .int .u8 0, .int .u8 0, .int .u8 0, .int .u8 0, .int .u8 0, .int .u8 0, .int .u8 0, .int .u8 0, .int .u8 0, .int .u8 0, .int .u8 0, .int .u8 0, .int .u8 0, .int .u8 0, .int .u8 0, .int .u8 0, .int .u8 0, .int .u8 0, .int .u8 0, .int .u8 0, .int .u8 0, .int .u8 0, .int .u8 0, .int .u8 0, .int .u8 0, .int .u8 0, .int .u8 0, .int .u8 0, .int .u8 0, .int .u8 0, .slice none 0 0] = v6a p6z none 0 from rfl]
  obtain ⟨hB3, k1, k2, k3, z3⟩ := three_boxes w (.cells (cel s) 23) (.cells (cel d) 23) (.cells (v6a p6z none 0) 26)
  generalize ((w.alloc (.cells (cel s) 23)).alloc (.cells (cel d) 23)).alloc (.cells (v6a p6z none 0) 26) = W at *
  have rS : W.rangeAt w.heap.size 0 (row s) := range_heap k1
  have rD : W.rangeAt (w.heap.size + 1) 0 (row d) := range_heap k2
  have zS : w.heap.size < W.heap.size := by omega
  have zD : w.heap.size + 1 < W.heap.size := by omega
  have hDW := hD.below (hB3.mono hB)
  have hBW := Nat.le_trans hB hB3.size
  go_upto_region 2 with (first
    | ((with_reducible show wpList _ _ _ (Oper.mk (some 13) (Op.load 23 _) _ _ _ _ :: _) _ _); refine wpList_val rfl (run_load_six rfl rfl rS hs) ?_)
    | ((with_reducible show wpList _ _ _ (Oper.mk (some 14) (Op.load 23 _) _ _ _ _ :: _) _ _); refine wpList_val rfl (run_load_six rfl rfl rD hd) ?_)
    | ((with_reducible show wpList _ _ _ (Oper.mk _ (Op.build 26 _) _ _ _ _ :: _) _ _); refine wpList_val rfl (run_build_wr (A := A) (c := c) rfl rfl rfl rfl rfl rfl hs hd HQ.out) ?_)
    | ((with_reducible show wpList _ _ _ (Oper.mk _ (Op.store 26 _ _) _ _ _ _ :: _) _ _); refine v6_store_new (cs := v6a q A c) rfl rfl rfl (by rw [v6a_size _ _ _ HQS.out HQD.out]) (v6a_one _ _ _) ?_))
  have kq := World.alloc_heap_new W (.cells (v6a q A c) 26)
  have j4 : Below W.heap.size W (W.alloc (.cells (v6a q A c) 26)) := (Below.refl _ W).alloc (Nat.le_refl _) _
  have z4 := heap_lt kq
  generalize W.alloc (.cells (v6a q A c) 26) = X at *
  have at4 : At6 X W.heap.size q A c := range_heap kq
  go_upto_region 3 with (first
    | ((with_reducible show wpList _ _ _ (Oper.mk _ (Op.load 26 _) _ _ _ _ :: _) _ _); refine wpList_val rfl (run_load_v6 rfl rfl at4 (v6l_len HQS.out HQD.out)) ?_)
    | (go_at_call 31; refine (c6check q A c _ HQS.out HQD.out HQL.out).mono ?_; rintro e w5 ⟨rfl, x5⟩; rw [← HE.out]))
  have kq5 := (x5.block W.heap.size z4).trans kq
  have j5 : Below W.heap.size W w5 := j4.trans (x5.mono j4.size)
  have k35 := (j5.block (w.heap.size + 2) z3).trans k3
  have b5 := hB3.trans (j5.mono hB3.size)
  have z5 := Nat.lt_of_lt_of_le z4 x5.size
  clear at4 kq j4 x5 rS rD k1 k2 k3
  by_cases h0 : E = 0
  · have dE : (E != 0) = false := by simp [h0]
    have HV : Hid (wrV s d hop b = q) := Lib.hid (by rw [HW.out, ← HE.out, if_pos h0])
    have H0 := Lib.hid h0
    clear h0
    go_upto_region 6 with (go_at_call 32; refine (cloneS_any A b c B _ (hD.below (b5.mono hB)) (Nat.le_trans hB b5.size) (by omega)).mono ?_; rintro e w6 ⟨v6, rfl, m6⟩; obtain ⟨P, p, rfl, g6, o6, y6⟩ := made_shape m6; have kq6 := (y6.block W.heap.size z5).trans kq5; have k36 : w6.cell? ⟨W.heap.size, 36, none⟩ = some (.slice A q.dat.length c) := At6.dat (range_heap kq6) HQS.out HQD.out; have f36 := heap_frozen kq6 36)
    have kq7 := heap_setCell_same w6 W.heap.size 36 _ _ (.slice P b.length p) kq6
    rw [← HQB.out, v6a_set _ _ _ _ _ HQS.out HQD.out] at kq7
    have k37 := (heap_setCell_other w6 ⟨W.heap.size, 36, none⟩ (w.heap.size + 2) (.slice P q.dat.length p) (by show w.heap.size + 2 ≠ W.heap.size; omega)).trans ((y6.block _ (Nat.lt_of_lt_of_le z3 j5.size)).trans k35)
    have o7 := own_setCell o6 (p := ⟨W.heap.size, 36, none⟩) (u := .slice P q.dat.length p) z5
    have b7 := (b5.trans (y6.mono b5.size)).setCell (p := ⟨W.heap.size, 36, none⟩) (by show w.heap.size ≤ W.heap.size; omega) (.slice P q.dat.length p)
    rw [← HQB.out] at o7
    rw [← HQB.out]
    clear k36 f36 kq6 kq5 g6 m6
    generalize w6.setCell ⟨W.heap.size, 36, none⟩ (.slice P q.dat.length p) = w7 at *
    have at7 : At6 w7 W.heap.size q P p := range_heap kq7
    go_wp2_with (first
      | ((with_reducible show wpList _ _ _ (Oper.mk _ (Op.load 26 _) _ _ _ _ :: _) _ _); refine wpList_val rfl (run_load_v6 rfl rfl at7 (v6l_len HQS.out HQD.out)) ?_)
      | ((with_reducible show wpList _ _ _ (Oper.mk _ (Op.store 26 _ _) _ _ _ _ :: _) _ _); refine v6_store (g := w.heap.size + 2) (cs := v6a q P p) rfl rfl k37 rfl (by rw [v6a_size _ _ _ HQS.out HQD.out]) (v6a_one _ _ _) ?_))
    have oR := own_setRow o7 (g := w.heap.size + 2) (cs := v6a q P p) (by have := j5.size; omega)
    exact bodyPost_ret (res2 rfl rfl (run_loadVar_row _ _ _ 26 (v6a q P p) _ _ (setRow_heap _ _ _ _ _ _ k37) Try.underlying26 rfl (by rw [v6a_size _ _ _ HQS.out HQD.out]; kernel_rfl))) rfl ⟨P, p, by rw [HQB.out, HV.out, H0.out]; rfl, by rw [HV.out]; exact Made.of_own (own_base oR b5.size) (below_row b7 (by omega))⟩
  · have dE : (E != 0) = true := by simp [h0]
    have HV : Hid (wrV s d hop b = p6z) := Lib.hid (by rw [HW.out, ← HE.out, if_neg h0])
    clear h0
    go_wp2_with (first | ((with_reducible show wpList _ _ _ (Oper.mk _ (Op.store 26 _ _) _ _ _ _ :: _) _ _); refine v6_store (g := w.heap.size + 2) (cs := v6a p6z none 0) rfl rfl k35 rfl rfl (v6a_one _ _ _) ?_))
    exact bodyPost_ret (res2 rfl rfl (run_loadVar_row _ _ _ 26 (v6a p6z none 0) _ _ (setRow_heap _ _ _ _ _ _ k35) Try.underlying26 rfl (by kernel_rfl))) rfl ⟨none, 0, by rw [HV.out]; rfl, by rw [HV.out]; exact Made.nil _ _ (below_row b5 (by omega))⟩
set_option maxRecDepth 100000 in
set_option maxHeartbeats 4000000 in
theorem rWwrap (s d : List UInt8) (hop : Int) (b : List UInt8) (A : Option Addr) (c B : Nat) (w : World) (hs : s.length = 16) (hd : d.length = 16) (hD : Arg w B A c b) (hB : B ≤ w.heap.size) (hl : b.length ≤ 1000000) :
    Calls Try.prog 11 #[.agg (cel s), .agg (cel d), .int .i64 hop, .slice A b.length c] w fun e w' => ∃ P p, e = .returned (.tuple #[v6v (wrV s d hop b) P p, .int .i64 (chk6 (wrP s d hop b))]) ∧ Made w w' (.slice P (wrV s d hop b).dat.length p) (wrV s d hop b).dat := by
  obtain ⟨q, hq⟩ : ∃ q, q = wrP s d hop b := ⟨_, rfl⟩
  have hqs : q.src.length = 16 := by rw [hq]; exact hs
  have hqd : q.dst.length = 16 := by rw [hq]; exact hd
  have hqb : q.dat = b := by rw [hq]; rfl
  have HW : Hid (wrV s d hop b = if chk6 q = 0 then q else p6z) := Lib.hid (by rw [hq]; rfl)
  have HQ := Lib.hid hq
  have HQB := Lib.hid hqb
  rw [← hq]
  obtain ⟨E, hE⟩ : ∃ x, x = chk6 q := ⟨_, rfl⟩
  have HE := Lib.hid hE
  rw [← hE]
  have HQL : Hid (q.dat.length ≤ 1000000) := Lib.hid (by rw [hqb]; exact hl)
  have HQS := Lib.hid hqs
  have HQD := Lib.hid hqd
  clear hq hE hqb hqs hqd
  go_enter Try.func11, Try.ntmps11
  go_upto_region 1 with fail
  rw [show #[.int .i64 0, .int .i64 0, .int .i64 0, .int .i64 0, .int .u8 0, .int .u8 0, .int .u8 0, .int .u8 0, .int .u8 0, .int .u8 0, .int .u8 0, .int .u8 0, .int .u8 0, .int .u8 0, .int .u8 0, .int .u8 0, .int .u8 0, .int .u8 0, .int .u8 0, .int .u8 0, .int .u8 0, .int .u8 0, .int .u8 0, .int .u8 0, .int .u8 0, .int .u8 0, .int .u8 0, .int .u8 0, .int .u8 0, .int .u8 0, .int .u8 0, .int .u8 0, .int .u8 0, .int .u8 0, .int .u8 0, .int .u8 0, .slice none 0 0] = v6a p6z none 0 from rfl]
  obtain ⟨hB3, k1, k2, k3, z3⟩ := three_boxes w (.cells (cel s) 23) (.cells (cel d) 23) (.cells (v6a p6z none 0) 26)
  generalize ((w.alloc (.cells (cel s) 23)).alloc (.cells (cel d) 23)).alloc (.cells (v6a p6z none 0) 26) = W at *
  have rS : W.rangeAt w.heap.size 0 (row s) := range_heap k1
  have rD : W.rangeAt (w.heap.size + 1) 0 (row d) := range_heap k2
  have zS : w.heap.size < W.heap.size := by omega
  have zD : w.heap.size + 1 < W.heap.size := by omega
  have hDW := hD.below (hB3.mono hB)
  have hBW := Nat.le_trans hB hB3.size
  refine wp_region_held_drew (S := Below W.heap.size W) (by kernel_rfl) (Below.refl _ W).drew (fun hS => ?_)
  refine held_pure (i := 0) (oi := ⟨some 12, _, _, _, _, _⟩) rfl (by kernel_rfl) (by kernel_rfl) (by kernel_rfl) (fun _ _ _ h => h) (by rfl) (v := ?_) (fun w hSw => ?_) hS (fun hS => ?_)
  rotate_left
  · go_simp; try with_reducible rfl
  try go_frame
  refine held_pure (i := 1) (oi := ⟨some 13, _, _, _, _, _⟩) rfl (by kernel_rfl) (by kernel_rfl) (by kernel_rfl) (fun _ _ _ h => h) (by rfl) (fun w hSw => run_load_six rfl rfl (range_below rS zS hSw) hs) hS (fun hS => ?_)
  try go_frame
  refine held_pure (i := 2) (oi := ⟨some 14, _, _, _, _, _⟩) rfl (by kernel_rfl) (by kernel_rfl) (by kernel_rfl) (fun _ _ _ h => h) (by rfl) (fun w hSw => run_load_six rfl rfl (range_below rD zD hSw) hd) hS (fun hS => ?_)
  try go_frame
  refine held_pure (i := 3) (oi := ⟨some 15, _, _, _, _, _⟩) rfl (by kernel_rfl) (by kernel_rfl) (by kernel_rfl) (fun _ _ _ h => h) (by rfl) (v := ?_) (fun w hSw => ?_) hS (fun hS => ?_)
  rotate_left
  · go_simp; try with_reducible rfl
  try go_frame
  refine wpAnyH_ready (rs := [4, 6]) (by kernel_rfl) (by simp) (AllReadyH.cons (o := ⟨some 16, _, _, _, _, _⟩) rfl (fun K hK => ?_) (AllReadyH.cons (o := ⟨some 10, _, _, _, _, _⟩) rfl (fun K hK => ?_) AllReadyH.nil))
  · rw [if_pos (by rfl)]
    refine append_wp _ _ rfl W.heap.size (.slice none 0 0) 0 [] rfl (World.ownsRow_nil _ _ _ _) B A c b rfl hDW.none_ (hDW.below (hS.mono hBW)).rd (by omega) hS.size ?_
    intro v2 w2 own2 grow2
    obtain ⟨O, o, rfl, o2⟩ := own_made (bs := b) own2 (Nat.zero_add _) (List.nil_append _)
    have y2 : Below W.heap.size W w2 := hS.grown grow2 hS.size (fun k hk => by cases hk)
    refine hK.out _ _ y2 (fun hS => ?_)
    clear hK K own2 grow2
    try go_frame
    refine held_pure (i := 5) (oi := ⟨some 17, _, _, _, _, _⟩) rfl (by kernel_rfl) (by kernel_rfl) (by kernel_rfl) (fun _ _ _ h => h) (by rfl) (v := v6v q O o) (fun w hSw => by exact run_build_wr rfl rfl rfl rfl rfl rfl hs hd HQ.out) hS (fun hS => ?_)
    try go_frame
    refine wpAnyH_ready (rs := [6]) (by kernel_rfl) (by simp) (AllReadyH.cons (o := ⟨some 10, _, _, _, _, _⟩) rfl (fun K hK => ?_) AllReadyH.nil)
    rw [if_pos (by rfl)]
    go_simp
    change K _ (w2.alloc (.cells (v6a p6z none 0) 26))
    have kz := World.alloc_heap_new w2 (.cells (v6a p6z none 0) 26)
    have oX := own_below o2 ((Below.refl w2.heap.size w2).alloc (Nat.le_refl _) (.cells (v6a p6z none 0) 26))
    have yX : Below W.heap.size W (w2.alloc (.cells (v6a p6z none 0) 26)) := y2.alloc y2.size _
    have zB : W.heap.size ≤ w2.heap.size := y2.size
    refine hK.out _ _ yX (fun hS => ?_)
    clear hK K
    generalize w2.alloc (.cells (v6a p6z none 0) 26) = Y at *
    generalize w2.heap.size = gB at *
    try go_frame
    refine wpAnyH_ready (rs := [7]) (by kernel_rfl) (by simp) (AllReadyH.cons (o := ⟨none, _, _, _, _, _⟩) rfl (fun K hK => ?_) AllReadyH.nil)
    rw [if_pos (by rfl)]
    refine wp_store_row 26 _ _ rfl gB (v6a q O o) rfl rfl 26 _ kz (by rw [v6a_size _ _ _ HQS.out HQD.out]; kernel_rfl) (by rw [v6a_size _ _ _ HQS.out HQD.out]; rfl) (v6a_one _ _ _) ?_
    have kq := setRow_heap Y gB _ (v6a q O o) _ _ kz
    have oQ := own_setRowR (cs' := v6a q O o) oX kz (by decide)
    have zq := heap_lt kq
    have j4 : Below W.heap.size W (Y.setRow gB (v6a q O o)) := below_row yX zB
    refine hK.out _ _ j4 (fun hS => ?_)
    clear hK K kz oX yX
    generalize Y.setRow gB (v6a q O o) = X at *
    try go_frame
    refine wpAnyH_done (by kernel_rfl) ?_ _
    have at4 : At6 X gB q O o := range_heap kq
    rw [← HQB.out] at oQ
    go_upto_region 3 with (first
      | ((with_reducible show wpList _ _ _ (Oper.mk _ (Op.load 26 _) _ _ _ _ :: _) _ _); refine wpList_val rfl (run_load_v6 rfl rfl at4 (v6l_len HQS.out HQD.out)) ?_)
      | (go_at_call 33; refine (r6check q O o _ HQS.out HQD.out HQL.out).mono ?_; rintro e w5 ⟨rfl, x5⟩; rw [← HE.out]))
    have kq5 := (x5.block gB zq).trans kq
    have j5 : Below W.heap.size W w5 := j4.trans (x5.mono j4.size)
    have k35 := (j5.block (w.heap.size + 2) z3).trans k3
    have b5 := hB3.trans (j5.mono hB3.size)
    have o5 := own_below oQ x5
    have at5 : At6 w5 gB q O o := range_heap kq5
    clear at4 kq oQ x5
    by_cases h0 : E = 0
    · have dE : (E != 0) = false := by simp [h0]
      have HV : Hid (wrV s d hop b = q) := Lib.hid (by rw [HW.out, ← HE.out, if_pos h0])
      have H0 := Lib.hid h0
      clear h0
      go_wp2_with (first
        | ((with_reducible show wpList _ _ _ (Oper.mk _ (Op.load 26 _) _ _ _ _ :: _) _ _); refine wpList_val rfl (run_load_v6 rfl rfl at5 (v6l_len HQS.out HQD.out)) ?_)
        | ((with_reducible show wpList _ _ _ (Oper.mk _ (Op.store 26 _ _) _ _ _ _ :: _) _ _); refine v6_store (g := w.heap.size + 2) (cs := v6a q O o) rfl rfl k35 rfl (by rw [v6a_size _ _ _ HQS.out HQD.out]) (v6a_one _ _ _) ?_))
      have oR := own_setRow o5 (g := w.heap.size + 2) (cs := v6a q O o) z3
      exact bodyPost_ret (res2 rfl rfl (run_loadVar_row _ _ _ 26 (v6a q O o) _ _ (setRow_heap _ _ _ _ _ _ k35) Try.underlying26 rfl (by rw [v6a_size _ _ _ HQS.out HQD.out]; kernel_rfl))) rfl ⟨O, o, by rw [HV.out, H0.out]; rfl, by rw [HV.out]; exact Made.of_own (own_base oR hB3.size) (below_row b5 (by omega))⟩
    · have dE : (E != 0) = true := by simp [h0]
      have HV : Hid (wrV s d hop b = p6z) := Lib.hid (by rw [HW.out, ← HE.out, if_neg h0])
      clear h0
      go_wp2_with (first | ((with_reducible show wpList _ _ _ (Oper.mk _ (Op.store 26 _ _) _ _ _ _ :: _) _ _); refine v6_store (g := w.heap.size + 2) (cs := v6a p6z none 0) rfl rfl k35 rfl rfl (v6a_one _ _ _) ?_))
      exact bodyPost_ret (res2 rfl rfl (run_loadVar_row _ _ _ 26 (v6a p6z none 0) _ _ (setRow_heap _ _ _ _ _ _ k35) Try.underlying26 rfl (by kernel_rfl))) rfl ⟨none, 0, by rw [HV.out]; rfl, by rw [HV.out]; exact Made.nil _ _ (below_row b5 (by omega))⟩
  · rw [if_pos (by rfl)]
    go_simp
    change K _ (W.drew.alloc (.cells (v6a p6z none 0) 26))
    have kz := World.alloc_heap_new W.drew (.cells (v6a p6z none 0) 26)
    have zB : W.heap.size ≤ W.drew.heap.size := Nat.le_refl _
    have yV : Below W.heap.size W (W.drew.alloc (.cells (v6a p6z none 0) 26)) := hS.alloc hS.size _
    refine hK.out _ _ yV (fun hS => ?_)
    clear hK K yV
    generalize W.drew.alloc (.cells (v6a p6z none 0) 26) = V at *
    have kz : V.heap[W.heap.size]? = _ := kz
    try go_frame
    refine wpAnyH_ready (rs := [4]) (by kernel_rfl) (by simp) (AllReadyH.cons (o := ⟨some 16, _, _, _, _, _⟩) rfl (fun K hK => ?_) AllReadyH.nil)
    rw [if_pos (by rfl)]
    refine append_wp _ _ rfl W.heap.size (.slice none 0 0) 0 [] rfl (World.ownsRow_nil _ _ _ _) B A c b rfl hDW.none_ (hDW.below (hS.mono hBW)).rd (by omega) hS.size ?_
    intro v2 w2 own2 grow2
    obtain ⟨O, o, rfl, o2⟩ := own_made (bs := b) own2 (Nat.zero_add _) (List.nil_append _)
    have y2 := (Below.refl V.heap.size V).grown grow2 (Nat.le_refl _) (fun k hk => by cases hk)
    have kz := (y2.block W.heap.size (heap_lt kz)).trans kz
    have yX : Below W.heap.size W w2 := hS.trans (y2.mono hS.size)
    have oX := o2
    clear o2 y2
    refine hK.out _ _ yX (fun hS => ?_)
    clear hK K own2 grow2
    generalize w2 = Y at *
    try go_frame
    refine held_pure (i := 5) (oi := ⟨some 17, _, _, _, _, _⟩) rfl (by kernel_rfl) (by kernel_rfl) (by kernel_rfl) (fun _ _ _ h => h) (by rfl) (v := v6v q O o) (fun w hSw => by exact run_build_wr rfl rfl rfl rfl rfl rfl hs hd HQ.out) hS (fun hS => ?_)
    try go_frame
    refine wpAnyH_ready (rs := [7]) (by kernel_rfl) (by simp) (AllReadyH.cons (o := ⟨none, _, _, _, _, _⟩) rfl (fun K hK => ?_) AllReadyH.nil)
    rw [if_pos (by rfl)]
    refine wp_store_row 26 _ _ rfl W.heap.size (v6a q O o) rfl rfl 26 _ kz (by rw [v6a_size _ _ _ HQS.out HQD.out]; kernel_rfl) (by rw [v6a_size _ _ _ HQS.out HQD.out]; rfl) (v6a_one _ _ _) ?_
    have kq := setRow_heap Y W.heap.size _ (v6a q O o) _ _ kz
    have oQ := own_setRowR (cs' := v6a q O o) oX kz (by decide)
    have zq := heap_lt kq
    have j4 : Below W.heap.size W (Y.setRow W.heap.size (v6a q O o)) := below_row yX zB
    refine hK.out _ _ j4 (fun hS => ?_)
    clear hK K kz oX yX
    generalize Y.setRow W.heap.size (v6a q O o) = X at *
    try go_frame
    refine wpAnyH_done (by kernel_rfl) ?_ _
    have at4 : At6 X W.heap.size q O o := range_heap kq
    rw [← HQB.out] at oQ
    go_upto_region 3 with (first
      | ((with_reducible show wpList _ _ _ (Oper.mk _ (Op.load 26 _) _ _ _ _ :: _) _ _); refine wpList_val rfl (run_load_v6 rfl rfl at4 (v6l_len HQS.out HQD.out)) ?_)
      | (go_at_call 33; refine (r6check q O o _ HQS.out HQD.out HQL.out).mono ?_; rintro e w5 ⟨rfl, x5⟩; rw [← HE.out]))
    have kq5 := (x5.block W.heap.size zq).trans kq
    have j5 : Below W.heap.size W w5 := j4.trans (x5.mono j4.size)
    have k35 := (j5.block (w.heap.size + 2) z3).trans k3
    have b5 := hB3.trans (j5.mono hB3.size)
    have o5 := own_below oQ x5
    have at5 : At6 w5 W.heap.size q O o := range_heap kq5
    clear at4 kq oQ x5
    by_cases h0 : E = 0
    · have dE : (E != 0) = false := by simp [h0]
      have HV : Hid (wrV s d hop b = q) := Lib.hid (by rw [HW.out, ← HE.out, if_pos h0])
      have H0 := Lib.hid h0
      clear h0
      go_wp2_with (first
        | ((with_reducible show wpList _ _ _ (Oper.mk _ (Op.load 26 _) _ _ _ _ :: _) _ _); refine wpList_val rfl (run_load_v6 rfl rfl at5 (v6l_len HQS.out HQD.out)) ?_)
        | ((with_reducible show wpList _ _ _ (Oper.mk _ (Op.store 26 _ _) _ _ _ _ :: _) _ _); refine v6_store (g := w.heap.size + 2) (cs := v6a q O o) rfl rfl k35 rfl (by rw [v6a_size _ _ _ HQS.out HQD.out]) (v6a_one _ _ _) ?_))
      have oR := own_setRow o5 (g := w.heap.size + 2) (cs := v6a q O o) z3
      exact bodyPost_ret (res2 rfl rfl (run_loadVar_row _ _ _ 26 (v6a q O o) _ _ (setRow_heap _ _ _ _ _ _ k35) Try.underlying26 rfl (by rw [v6a_size _ _ _ HQS.out HQD.out]; kernel_rfl))) rfl ⟨O, o, by rw [HV.out, H0.out]; rfl, by rw [HV.out]; exact Made.of_own (own_base oR hB3.size) (below_row b5 (by omega))⟩
    · have dE : (E != 0) = true := by simp [h0]
      have HV : Hid (wrV s d hop b = p6z) := Lib.hid (by rw [HW.out, ← HE.out, if_neg h0])
      clear h0
      go_wp2_with (first | ((with_reducible show wpList _ _ _ (Oper.mk _ (Op.store 26 _ _) _ _ _ _ :: _) _ _); refine v6_store (g := w.heap.size + 2) (cs := v6a p6z none 0) rfl rfl k35 rfl rfl (v6a_one _ _ _) ?_))
      exact bodyPost_ret (res2 rfl rfl (run_loadVar_row _ _ _ 26 (v6a p6z none 0) _ _ (setRow_heap _ _ _ _ _ _ k35) Try.underlying26 rfl (by kernel_rfl))) rfl ⟨none, 0, by rw [HV.out]; rfl, by rw [HV.out]; exact Made.nil _ _ (below_row b5 (by omega))⟩
set_option maxRecDepth 100000 in
set_option maxHeartbeats 4000000 in
theorem cWunwrap (q : P6) (A : Option Addr) (c B : Nat) (w : World) (hs : q.src.length = 16) (hd : q.dst.length = 16) (hD : Arg w B A c q.dat) (hB : B ≤ w.heap.size) (hl : q.dat.length ≤ 1000000) :
    Calls Try.prog 12 #[v6v q A c] w fun e w' => ∃ P p, e = .returned (.tuple #[.slice P (uwV q).length p, .int .i64 (uwE q)]) ∧ Made w w' (.slice P (uwV q).length p) (uwV q) := by
  have hBW : Below w.heap.size w (w.alloc (.cells (v6a q A c) 26)) := (Below.refl w.heap.size w).alloc (Nat.le_refl _) _
  have at0 := At6.new (q := q) (A := A) (c := c) w
  have k2 := at0.next
  have k6 := at0.dat hs hd
  clear at0
  unfold v6v
  rw [show (v6l q A c).toArray = v6a q A c from rfl]
  by_cases h4 : q.next = 4
  · have HV : Hid (uwV q = q.dat) := Lib.hid (by rw [uwV, if_pos h4])
    have HE : Hid (uwE q = 0) := Lib.hid (by rw [uwE, if_pos h4])
    have d4 : (q.next != 4) = false := by simp [h4]
    clear h4
    go_enter Try.func12, Try.ntmps12
    go_upto_region 1 with fail
    generalize w.alloc (.cells (v6a q A c) 26) = W at *
    go_wp2_with (go_at_call 32; refine (cloneS_any A q.dat c B _ (hD.below (hBW.mono hB)) (Nat.le_trans hB hBW.size) (by omega)).mono ?_; rintro e w6 ⟨v6, rfl, mk⟩; obtain ⟨P, p, rfl, _, _, _⟩ := made_shape mk)
    exact bodyPost_ret (results_tmp2 rfl _ _ _) rfl ⟨P, p, by rw [HV.out, HE.out]; rfl, by rw [HV.out]; exact Made.after mk hBW⟩
  · have HV : Hid (uwV q = []) := Lib.hid (by rw [uwV, if_neg h4])
    have HE : Hid (uwE q = 4) := Lib.hid (by rw [uwE, if_neg h4])
    have d4 : (q.next != 4) = true := by simpa using h4
    clear h4
    go_enter Try.func12, Try.ntmps12
    go_upto_region 1 with fail
    generalize w.alloc (.cells (v6a q A c) 26) = W at *
    go_wp2_with fail
    exact bodyPost_ret (results_tmp2 rfl _ _ _) rfl ⟨none, 0, by rw [HV.out, HE.out]; rfl, by rw [HV.out]; exact Made.nil _ _ hBW⟩
set_option maxRecDepth 100000 in
set_option maxHeartbeats 4000000 in
theorem rWunwrap (q : P6) (A : Option Addr) (c B : Nat) (w : World) (hs : q.src.length = 16) (hd : q.dst.length = 16) (hD : Arg w B A c q.dat) (hB : B ≤ w.heap.size) (hl : q.dat.length ≤ 1000000) :
    Calls Try.prog 13 #[v6v q A c] w fun e w' => ∃ P p, e = .returned (.tuple #[.slice P (uwV q).length p, .int .i64 (uwE q)]) ∧ Made w w' (.slice P (uwV q).length p) (uwV q) := by
  have hBW : Below w.heap.size w (w.alloc (.cells (v6a q A c) 26)) := (Below.refl w.heap.size w).alloc (Nat.le_refl _) _
  have at0 := At6.new (q := q) (A := A) (c := c) w
  have k2 := at0.next
  have k6 := at0.dat hs hd
  clear at0
  unfold v6v
  rw [show (v6l q A c).toArray = v6a q A c from rfl]
  by_cases h4 : q.next = 4
  · have HV : Hid (uwV q = q.dat) := Lib.hid (by rw [uwV, if_pos h4])
    have HE : Hid (uwE q = 0) := Lib.hid (by rw [uwE, if_pos h4])
    have d4 : (q.next != 4) = false := by simp [h4]
    clear h4
    go_enter Try.func13, Try.ntmps13
    go_upto_region 1 with fail
    generalize w.alloc (.cells (v6a q A c) 26) = W at *
    go_wp2_with (at_builtin; refine append_rd rfl _ _ rfl W.heap.size (.slice none 0 0) 0 [] rfl (World.ownsRow_nil _ _ _ _) B A c q.dat rfl hD.none_ (hD.below (hBW.mono hB)).rd (by omega) (Nat.le_refl _) ?_; intro v2 w2 own2 grow2; obtain ⟨P, p, rfl, o2⟩ := own_made (bs := q.dat) own2 (Nat.zero_add _) (List.nil_append _); have mk : Made W w2 (.slice P q.dat.length p) q.dat := Made.of_own o2 ((Below.refl W.heap.size W).grown grow2 (Nat.le_refl _) (fun k hk => by cases hk)))
    exact bodyPost_ret (results_tmp2 rfl _ _ _) rfl ⟨P, p, by rw [HV.out, HE.out]; rfl, by rw [HV.out]; exact Made.after mk hBW⟩
  · have HV : Hid (uwV q = []) := Lib.hid (by rw [uwV, if_neg h4])
    have HE : Hid (uwE q = 4) := Lib.hid (by rw [uwE, if_neg h4])
    have d4 : (q.next != 4) = true := by simpa using h4
    clear h4
    go_enter Try.func13, Try.ntmps13
    go_upto_region 1 with fail
    generalize w.alloc (.cells (v6a q A c) 26) = W at *
    go_wp2_with fail
    exact bodyPost_ret (results_tmp2 rfl _ _ _) rfl ⟨none, 0, by rw [HV.out, HE.out]; rfl, by rw [HV.out]; exact Made.nil _ _ hBW⟩
set_option maxRecDepth 100000 in
set_option maxHeartbeats 4000000 in
theorem cWhop (q0 : P4) (A : Option Addr) (c : Nat) (A' : Option Addr) (c' : Nat) (w : World) (ho : q0.opt.length ≤ 1000000) (hl : q0.dat.length ≤ 900000) (hf : (Lit.int .i64 q0.ttl).wf = true) (B : Nat) (hO : Arg w B A c q0.opt) (hD : Arg w B A' c' q0.dat) (hB0 : B ≤ w.heap.size) :
    Calls Try.prog 14 #[v4v q0 A c A' c'] w fun e w' => ∃ P p P' p', e = .returned (.tuple #[v4v (hpV q0) P p P' p', .bool (hpB q0)]) ∧ Made w w' (.slice P (hpV q0).opt.length p) (hpV q0).opt ∧ Made w w' (.slice P' (hpV q0).dat.length p') (hpV q0).dat := by
  have hB : Below w.heap.size w ((w.alloc (.cells (v4a q0 A c A' c') 28)).alloc (.cells (v4a p4z none 0 none 0) 28)) := below_two w _ _
  have hP0 : ((w.alloc (.cells (v4a q0 A c A' c') 28)).alloc (.cells (v4a p4z none 0 none 0) 28)).heap[w.heap.size]? = some (.cells (v4a q0 A c A' c') 28 (0, 0)) := (Below.heap_alloc (w.alloc (.cells (v4a q0 A c A' c') 28)) _ w.heap.size (by simp)).trans (World.alloc_heap_new w _)
  have hR0 : ((w.alloc (.cells (v4a q0 A c A' c') 28)).alloc (.cells (v4a p4z none 0 none 0) 28)).heap[w.heap.size + 1]? = some (.cells (v4a p4z none 0 none 0) 28 (0, 0)) := by
    have := World.alloc_heap_new (w.alloc (.cells (v4a q0 A c A' c') 28)) (.cells (v4a p4z none 0 none 0) 28)
    rwa [World.size_alloc] at this
  rw [v4q_eqR]
  have hbd : -9223372036854775808 ≤ q0.ttl ∧ q0.ttl ≤ 9223372036854775807 := by
    have := hf
    simp [Lit.wf] at this
    have e1 : IntKind.i64.min = -9223372036854775808 := by decide
    have e2 : IntKind.i64.max = 9223372036854775807 := by decide
    omega
  go_enter Try.func14, Try.ntmps14
  go_upto_region 1 with fail
  rw [show #[.int .i64 0, .int .i64 0, .int .i64 0, .int .i64 0, .int .i64 0, .int .i64 0, .int .i64 0, .bool false, .bool false, .slice none 0 0, .slice none 0 0] = v4a p4z none 0 none 0 from rfl]
  generalize (w.alloc (.cells (v4a q0 A c A' c') 28)).alloc (.cells (v4a p4z none 0 none 0) 28) = W at *
  have zR := heap_lt hR0
  have k3 := (At4.of_heapR hP0).ttl
  have f3 := heap_frozen hP0 3
  by_cases h1 : q0.ttl ≤ 1
  · have d1 : decide (q0.ttl ≤ 1) = true := by simpa using h1
    have HV : Hid (hpV q0 = p4z) := Lib.hid (by rw [hpV, if_neg (by omega)])
    have HBB : Hid (hpB q0 = false) := Lib.hid (by rw [hpB]; simp; omega)
    clear h1
    go_wp2_with (first | ((with_reducible show wpList _ _ _ (Oper.mk _ (Op.store 28 _ _) _ _ _ _ :: _) _ _); refine v4_store (g := w.heap.size + 1) (cs := v4a p4z none 0 none 0) rfl rfl hR0 rfl rfl (v4a_one _ _ _ _ _) ?_))
    exact bodyPost_ret (res2 rfl rfl (run_loadVar_row _ _ _ 28 (v4a p4z none 0 none 0) _ _ (setRow_heap _ _ _ _ _ _ hR0) Try.underlying28 rfl (by kernel_rfl))) rfl ⟨none, 0, none, 0, by rw [HV.out, HBB.out]; rfl, by rw [HV.out]; exact Made.nil _ _ (below_row hB (by omega)), by rw [HV.out]; exact Made.nil _ _ (below_row hB (by omega))⟩
  · have d1 : decide (q0.ttl ≤ 1) = false := by simpa using h1
    obtain ⟨q, hq⟩ : ∃ q : P4, q = { q0 with ttl := q0.ttl - 1 } := ⟨_, rfl⟩
    have HV : Hid (hpV q0 = q) := Lib.hid (by rw [hpV, if_pos (by omega), hq])
    have HBB : Hid (hpB q0 = true) := Lib.hid (by rw [hpB]; simp; omega)
    have ho : q.opt.length ≤ 1000000 := by rw [hq]; exact ho
    have hl : q.dat.length ≤ 900000 := by rw [hq]; exact hl
    have hO : Arg w B A c q.opt := by rw [hq]; exact hO
    have hD : Arg w B A' c' q.dat := by rw [hq]; exact hD
    go_upto_region 4 with fail
    have hP1 := heap_setCell_same W w.heap.size 3 _ _ (.int .i64 (q0.ttl - 1)) hP0
    have hP1 : (W.setCell ⟨w.heap.size, 3, none⟩ (.int .i64 (q0.ttl - 1))).heap[w.heap.size]? = some (.cells (v4a q A c A' c') 28 (0, 0)) := by rw [hq]; exact hP1
    have hR1 := (heap_setCell_other W ⟨w.heap.size, 3, none⟩ (w.heap.size + 1) (.int .i64 (q0.ttl - 1)) (by show w.heap.size + 1 ≠ w.heap.size; omega)).trans hR0
    have hB1 := hB.setCell (p := ⟨w.heap.size, 3, none⟩) (Nat.le_refl _) (.int .i64 (q0.ttl - 1))
    clear k3 f3 hP0 hR0 hB zR hq
    generalize W.setCell ⟨w.heap.size, 3, none⟩ (.int .i64 (q0.ttl - 1)) = W at *
    have hP0 := hP1
    have hR0 := hR1
    have hB := hB1
    clear hP1 hR1 hB1 h1 hbd hf
    have hO1 := hO.below (hB.mono hB0)
    have hD1 := hD.below (hB.mono hB0)
    have zW := Nat.le_trans hB0 hB.size
    have zP := heap_lt hP0
    have zR := heap_lt hR0
    have kO0 := (At4.of_heapR hP0).opt
    have kD0 := (At4.of_heapR hP0).dat
    refine wp_region_held_drew (S := fun _ => True) (by kernel_rfl) trivial (fun hS => ?_)
    refine held_pure (i := 0) (oi := ⟨some 12, _, _, _, _, _⟩) rfl (by kernel_rfl) (by kernel_rfl) (by kernel_rfl) (fun _ _ _ h => h) (by rfl) (v := ?_) (fun w hSw => ?_) hS (fun hS => ?_)
    rotate_left
    · go_simp; try with_reducible rfl
    try go_frame
    refine held_pure (i := 3) (oi := ⟨some 15, _, _, _, _, _⟩) rfl (by kernel_rfl) (by kernel_rfl) (by kernel_rfl) (fun _ _ _ h => h) (by rfl) (v := ?_) (fun w hSw => ?_) hS (fun hS => ?_)
    rotate_left
    · go_simp; try with_reducible rfl
    try go_frame
    refine wpAnyH_ready (rs := [1, 4]) (by kernel_rfl) (by simp) (AllReadyH.cons (o := ⟨some 13, _, _, _, _, _⟩) rfl (fun K hK => ?_) (AllReadyH.cons (o := ⟨some 16, _, _, _, _, _⟩) rfl (fun K hK => ?_) AllReadyH.nil))
    · rw [if_pos (by rfl)]
      refine wp_valR (v := .slice A q.opt.length c) (by first | exact run_load_sl rfl rfl kO0) ?_
      refine hK.out _ _ trivial (fun hS => ?_)
      clear hK K
      try go_frame
      refine wpAnyH_ready (rs := [2, 4]) (by kernel_rfl) (by simp) (AllReadyH.cons (o := ⟨some 14, _, _, _, _, _⟩) rfl (fun K hK => ?_) (AllReadyH.cons (o := ⟨some 16, _, _, _, _, _⟩) rfl (fun K hK => ?_) AllReadyH.nil))
      · rw [if_pos (by rfl)]
        go_simp
        refine (cloneS_any A q.opt c B _ (hO1.below (Below.refl _ W).drew) zW (by omega)).mono ?_
        rintro e w2 ⟨v2, rfl, m2⟩
        obtain ⟨O, o, rfl, g2, o2, y2⟩ := made_shape m2
        clear m2 g2
        have o2 : w2.ownsRow W.heap.size 5 1 (.slice O q.opt.length o) q.opt.length (row q.opt) := o2
        have x2 : Below W.heap.size W w2 := (Below.refl _ W).drew.trans y2
        have hP2 := (x2.block w.heap.size zP).trans hP0
        have hR2 := (x2.block (w.heap.size + 1) zR).trans hR0
        have kD2 := (At4.of_heapR hP2).dat
        have hD2 := hD1.below (x2.mono zW)
        have hgO : ∀ g, O = some ⟨g, 0, none⟩ → 0 < q.opt.length → g < w2.heap.size := fun g e hl => by { subst e; exact (own_cellR o2 (i := 0) hl).2 }
        show K _ _
        refine hK.out _ _ trivial (fun hS => ?_)
        clear hK K
        try go_frame
        refine wpAnyH_ready (rs := [4]) (by kernel_rfl) (by simp) (AllReadyH.cons (o := ⟨some 16, _, _, _, _, _⟩) rfl (fun K hK => ?_) AllReadyH.nil)
        rw [if_pos (by rfl)]
        refine wp_valR (v := .slice A' q.dat.length c') (by first | exact run_load_sl rfl rfl kD0 | exact run_load_sl rfl rfl kD2) ?_
        refine hK.out _ _ trivial (fun hS => ?_)
        clear hK K
        try go_frame
        refine held_pure (i := 6) (oi := ⟨some 18, _, _, _, _, _⟩) rfl (by kernel_rfl) (by kernel_rfl) (by kernel_rfl) (fun _ _ _ h => h) (by rfl) (v := ?_) (fun w hSw => ?_) hS (fun hS => ?_)
        rotate_left
        · go_simp; try with_reducible rfl
        try go_frame
        refine wpAnyH_ready (rs := [5]) (by kernel_rfl) (by simp) (AllReadyH.cons (o := ⟨some 17, _, _, _, _, _⟩) rfl (fun K hK => ?_) AllReadyH.nil)
        rw [if_pos (by rfl)]
        go_simp
        refine (cloneS_any A' q.dat c' B _ hD2 (Nat.le_trans zW x2.size) (by omega)).mono ?_
        rintro e w3 ⟨v3, rfl, m3⟩
        obtain ⟨D, d, rfl, g3, o3, y3⟩ := made_shape m3
        clear m3 g3
        have hP3 := (y3.block w.heap.size (heap_lt hP2)).trans hP2
        have hR3 := (y3.block (w.heap.size + 1) (heap_lt hR2)).trans hR2
        have oO3 := own_below o2 y3
        have kO3 := (At4.of_heapR hP3).opt
        have fO3 := heap_frozen hP3 9
        have x3 := x2.trans (y3.mono x2.size)
        have zx2 := x2.size
        show K _ _
        refine hK.out _ _ trivial (fun hS => ?_)
        clear hK K
        try go_frame
        refine wpAnyH_ready (rs := [7]) (by kernel_rfl) (by simp) (AllReadyH.cons (o := ⟨none, _, _, _, _, _⟩) rfl (fun K hK => ?_) AllReadyH.nil)
        rw [if_pos (by rfl)]
        refine store_slR_wp rfl rfl rfl kO3 fO3 ?_
        have hP4 : (w3.setCell ⟨w.heap.size, 9, none⟩ (.slice O q.opt.length o)).heap[w.heap.size]? = some (.cells (v4a q O o A' c') 28 (0, 0)) := heap_setCell_same w3 w.heap.size 9 _ _ (.slice O q.opt.length o) hP3
        have hR4 := (heap_setCell_other w3 ⟨w.heap.size, 9, none⟩ (w.heap.size + 1) (.slice O q.opt.length o) (by show w.heap.size + 1 ≠ w.heap.size; omega)).trans hR3
        have kD4 := (At4.of_heapR hP4).dat
        have fD4 := heap_frozen hP4 10
        have oO4 := own_setCell oO3 (p := ⟨w.heap.size, 9, none⟩) (u := .slice O q.opt.length o) zP
        have oD4 := own_setCell o3 (p := ⟨w.heap.size, 9, none⟩) (u := .slice O q.opt.length o) (Nat.lt_of_lt_of_le zP zx2)
        have b4 := (hB.trans (x3.mono hB.size)).setCell (p := ⟨w.heap.size, 9, none⟩) (Nat.le_refl _) (.slice O q.opt.length o)
        clear hP2 hR2 kD2 hD2 hP3 hR3 oO3 kO3 fO3 o2 o3 y2 y3
        generalize w3.setCell ⟨w.heap.size, 9, none⟩ (.slice O q.opt.length o) = V4 at *
        refine hK.out _ _ trivial (fun hS => ?_)
        clear hK K
        try go_frame
        refine held_pure (i := 8) (oi := ⟨some 19, _, _, _, _, _⟩) rfl (by kernel_rfl) (by kernel_rfl) (by kernel_rfl) (fun _ _ _ h => h) (by rfl) (v := ?_) (fun w hSw => ?_) hS (fun hS => ?_)
        rotate_left
        · go_simp; try with_reducible rfl
        try go_frame
        refine wpAnyH_ready (rs := [9]) (by kernel_rfl) (by simp) (AllReadyH.cons (o := ⟨none, _, _, _, _, _⟩) rfl (fun K hK => ?_) AllReadyH.nil)
        rw [if_pos (by rfl)]
        refine store_slR_wp rfl rfl rfl kD4 fD4 ?_
        have hP : (V4.setCell ⟨w.heap.size, 10, none⟩ (.slice D q.dat.length d)).heap[w.heap.size]? = some (.cells (v4a q O o D d) 28 (0, 0)) := heap_setCell_same V4 w.heap.size 10 _ _ (.slice D q.dat.length d) hP4
        have hR := (heap_setCell_other V4 ⟨w.heap.size, 10, none⟩ (w.heap.size + 1) (.slice D q.dat.length d) (by show w.heap.size + 1 ≠ w.heap.size; omega)).trans hR4
        have oO := own_setCell oO4 (p := ⟨w.heap.size, 10, none⟩) (u := .slice D q.dat.length d) zP
        have oD := own_setCell oD4 (p := ⟨w.heap.size, 10, none⟩) (u := .slice D q.dat.length d) (Nat.lt_of_lt_of_le zP zx2)
        have bV := b4.setCell (p := ⟨w.heap.size, 10, none⟩) (Nat.le_refl _) (.slice D q.dat.length d)
        clear hP4 hR4 kD4 fD4 oO4 oD4 b4 hP0 hR0 hO1 hD1 kO0 kD0 x2 x3
        generalize V4.setCell ⟨w.heap.size, 10, none⟩ (.slice D q.dat.length d) = V at *
        have hat := At4.of_heapR hP
        have gO := arg_own oO
        have gD := arg_own oD
        refine hK.out _ _ trivial (fun hS => ?_)
        clear hK K
        try go_frame
        refine wpAnyH_done (by kernel_rfl) ?_ _
        go_wp2_with (first
          | ((with_reducible show wpList _ _ _ (Oper.mk _ (Op.load 28 _) _ _ _ _ :: _) _ _); refine wpList_val rfl (run_load_v4 rfl rfl hat rfl) ?_)
          | ((with_reducible show wpList _ _ _ (Oper.mk _ (Op.store 28 _ _) _ _ _ _ :: _) _ _); refine v4_store (g := w.heap.size + 1) (cs := v4a q O o D d) rfl rfl hR rfl rfl (v4a_one _ _ _ _ _) ?_))
        have oO7 := own_setRow oO (g := w.heap.size + 1) (cs := v4a q O o D d) (by omega)
        have oD7 := own_setRow oD (g := w.heap.size + 1) (cs := v4a q O o D d) (by omega)
        have b7 := below_row bV (g := w.heap.size + 1) (cs := v4a q O o D d) (by omega)
        exact bodyPost_ret (res2 rfl rfl (run_loadVar_row _ _ _ 28 (v4a q O o D d) _ _ (setRow_heap _ _ _ _ _ _ hR) Try.underlying28 rfl (by kernel_rfl))) rfl ⟨O, o, D, d, by rw [HV.out, HBB.out]; rfl, by rw [HV.out]; exact Made.of_own (own_base oO7 (by omega)) b7, by rw [HV.out]; exact Made.of_own (own_base oD7 (by omega)) b7⟩
      · rw [if_pos (by rfl)]
        refine wp_valR (v := .slice A' q.dat.length c') (by first | exact run_load_sl rfl rfl kD0 | exact run_load_sl rfl rfl kD2) ?_
        refine hK.out _ _ trivial (fun hS => ?_)
        clear hK K
        try go_frame
        refine wpAnyH_ready (rs := [2]) (by kernel_rfl) (by simp) (AllReadyH.cons (o := ⟨some 14, _, _, _, _, _⟩) rfl (fun K hK => ?_) AllReadyH.nil)
        rw [if_pos (by rfl)]
        go_simp
        refine (cloneS_any A q.opt c B _ (hO1.below (Below.refl _ W).drew) zW (by omega)).mono ?_
        rintro e w2 ⟨v2, rfl, m2⟩
        obtain ⟨O, o, rfl, g2, o2, y2⟩ := made_shape m2
        clear m2 g2
        have o2 : w2.ownsRow W.heap.size 5 1 (.slice O q.opt.length o) q.opt.length (row q.opt) := o2
        have x2 : Below W.heap.size W w2 := (Below.refl _ W).drew.trans y2
        have hP2 := (x2.block w.heap.size zP).trans hP0
        have hR2 := (x2.block (w.heap.size + 1) zR).trans hR0
        have kD2 := (At4.of_heapR hP2).dat
        have hD2 := hD1.below (x2.mono zW)
        have hgO : ∀ g, O = some ⟨g, 0, none⟩ → 0 < q.opt.length → g < w2.heap.size := fun g e hl => by { subst e; exact (own_cellR o2 (i := 0) hl).2 }
        show K _ _
        refine hK.out _ _ trivial (fun hS => ?_)
        clear hK K
        try go_frame
        refine held_pure (i := 6) (oi := ⟨some 18, _, _, _, _, _⟩) rfl (by kernel_rfl) (by kernel_rfl) (by kernel_rfl) (fun _ _ _ h => h) (by rfl) (v := ?_) (fun w hSw => ?_) hS (fun hS => ?_)
        rotate_left
        · go_simp; try with_reducible rfl
        try go_frame
        refine wpAnyH_ready (rs := [5]) (by kernel_rfl) (by simp) (AllReadyH.cons (o := ⟨some 17, _, _, _, _, _⟩) rfl (fun K hK => ?_) AllReadyH.nil)
        rw [if_pos (by rfl)]
        go_simp
        refine (cloneS_any A' q.dat c' B _ hD2 (Nat.le_trans zW x2.size) (by omega)).mono ?_
        rintro e w3 ⟨v3, rfl, m3⟩
        obtain ⟨D, d, rfl, g3, o3, y3⟩ := made_shape m3
        clear m3 g3
        have hP3 := (y3.block w.heap.size (heap_lt hP2)).trans hP2
        have hR3 := (y3.block (w.heap.size + 1) (heap_lt hR2)).trans hR2
        have oO3 := own_below o2 y3
        have kO3 := (At4.of_heapR hP3).opt
        have fO3 := heap_frozen hP3 9
        have x3 := x2.trans (y3.mono x2.size)
        have zx2 := x2.size
        show K _ _
        refine hK.out _ _ trivial (fun hS => ?_)
        clear hK K
        try go_frame
        refine wpAnyH_ready (rs := [7]) (by kernel_rfl) (by simp) (AllReadyH.cons (o := ⟨none, _, _, _, _, _⟩) rfl (fun K hK => ?_) AllReadyH.nil)
        rw [if_pos (by rfl)]
        refine store_slR_wp rfl rfl rfl kO3 fO3 ?_
        have hP4 : (w3.setCell ⟨w.heap.size, 9, none⟩ (.slice O q.opt.length o)).heap[w.heap.size]? = some (.cells (v4a q O o A' c') 28 (0, 0)) := heap_setCell_same w3 w.heap.size 9 _ _ (.slice O q.opt.length o) hP3
        have hR4 := (heap_setCell_other w3 ⟨w.heap.size, 9, none⟩ (w.heap.size + 1) (.slice O q.opt.length o) (by show w.heap.size + 1 ≠ w.heap.size; omega)).trans hR3
        have kD4 := (At4.of_heapR hP4).dat
        have fD4 := heap_frozen hP4 10
        have oO4 := own_setCell oO3 (p := ⟨w.heap.size, 9, none⟩) (u := .slice O q.opt.length o) zP
        have oD4 := own_setCell o3 (p := ⟨w.heap.size, 9, none⟩) (u := .slice O q.opt.length o) (Nat.lt_of_lt_of_le zP zx2)
        have b4 := (hB.trans (x3.mono hB.size)).setCell (p := ⟨w.heap.size, 9, none⟩) (Nat.le_refl _) (.slice O q.opt.length o)
        clear hP2 hR2 kD2 hD2 hP3 hR3 oO3 kO3 fO3 o2 o3 y2 y3
        generalize w3.setCell ⟨w.heap.size, 9, none⟩ (.slice O q.opt.length o) = V4 at *
        refine hK.out _ _ trivial (fun hS => ?_)
        clear hK K
        try go_frame
        refine held_pure (i := 8) (oi := ⟨some 19, _, _, _, _, _⟩) rfl (by kernel_rfl) (by kernel_rfl) (by kernel_rfl) (fun _ _ _ h => h) (by rfl) (v := ?_) (fun w hSw => ?_) hS (fun hS => ?_)
        rotate_left
        · go_simp; try with_reducible rfl
        try go_frame
        refine wpAnyH_ready (rs := [9]) (by kernel_rfl) (by simp) (AllReadyH.cons (o := ⟨none, _, _, _, _, _⟩) rfl (fun K hK => ?_) AllReadyH.nil)
        rw [if_pos (by rfl)]
        refine store_slR_wp rfl rfl rfl kD4 fD4 ?_
        have hP : (V4.setCell ⟨w.heap.size, 10, none⟩ (.slice D q.dat.length d)).heap[w.heap.size]? = some (.cells (v4a q O o D d) 28 (0, 0)) := heap_setCell_same V4 w.heap.size 10 _ _ (.slice D q.dat.length d) hP4
        have hR := (heap_setCell_other V4 ⟨w.heap.size, 10, none⟩ (w.heap.size + 1) (.slice D q.dat.length d) (by show w.heap.size + 1 ≠ w.heap.size; omega)).trans hR4
        have oO := own_setCell oO4 (p := ⟨w.heap.size, 10, none⟩) (u := .slice D q.dat.length d) zP
        have oD := own_setCell oD4 (p := ⟨w.heap.size, 10, none⟩) (u := .slice D q.dat.length d) (Nat.lt_of_lt_of_le zP zx2)
        have bV := b4.setCell (p := ⟨w.heap.size, 10, none⟩) (Nat.le_refl _) (.slice D q.dat.length d)
        clear hP4 hR4 kD4 fD4 oO4 oD4 b4 hP0 hR0 hO1 hD1 kO0 kD0 x2 x3
        generalize V4.setCell ⟨w.heap.size, 10, none⟩ (.slice D q.dat.length d) = V at *
        have hat := At4.of_heapR hP
        have gO := arg_own oO
        have gD := arg_own oD
        refine hK.out _ _ trivial (fun hS => ?_)
        clear hK K
        try go_frame
        refine wpAnyH_done (by kernel_rfl) ?_ _
        go_wp2_with (first
          | ((with_reducible show wpList _ _ _ (Oper.mk _ (Op.load 28 _) _ _ _ _ :: _) _ _); refine wpList_val rfl (run_load_v4 rfl rfl hat rfl) ?_)
          | ((with_reducible show wpList _ _ _ (Oper.mk _ (Op.store 28 _ _) _ _ _ _ :: _) _ _); refine v4_store (g := w.heap.size + 1) (cs := v4a q O o D d) rfl rfl hR rfl rfl (v4a_one _ _ _ _ _) ?_))
        have oO7 := own_setRow oO (g := w.heap.size + 1) (cs := v4a q O o D d) (by omega)
        have oD7 := own_setRow oD (g := w.heap.size + 1) (cs := v4a q O o D d) (by omega)
        have b7 := below_row bV (g := w.heap.size + 1) (cs := v4a q O o D d) (by omega)
        exact bodyPost_ret (res2 rfl rfl (run_loadVar_row _ _ _ 28 (v4a q O o D d) _ _ (setRow_heap _ _ _ _ _ _ hR) Try.underlying28 rfl (by kernel_rfl))) rfl ⟨O, o, D, d, by rw [HV.out, HBB.out]; rfl, by rw [HV.out]; exact Made.of_own (own_base oO7 (by omega)) b7, by rw [HV.out]; exact Made.of_own (own_base oD7 (by omega)) b7⟩
    · rw [if_pos (by rfl)]
      refine wp_valR (v := .slice A' q.dat.length c') (by first | exact run_load_sl rfl rfl kD0 | exact run_load_sl rfl rfl kD2) ?_
      refine hK.out _ _ trivial (fun hS => ?_)
      clear hK K
      try go_frame
      refine wpAnyH_ready (rs := [1]) (by kernel_rfl) (by simp) (AllReadyH.cons (o := ⟨some 13, _, _, _, _, _⟩) rfl (fun K hK => ?_) AllReadyH.nil)
      rw [if_pos (by rfl)]
      refine wp_valR (v := .slice A q.opt.length c) (by first | exact run_load_sl rfl rfl kO0) ?_
      refine hK.out _ _ trivial (fun hS => ?_)
      clear hK K
      try go_frame
      refine wpAnyH_ready (rs := [2]) (by kernel_rfl) (by simp) (AllReadyH.cons (o := ⟨some 14, _, _, _, _, _⟩) rfl (fun K hK => ?_) AllReadyH.nil)
      rw [if_pos (by rfl)]
      go_simp
      refine (cloneS_any A q.opt c B _ (hO1.below (Below.refl _ W).drew) zW (by omega)).mono ?_
      rintro e w2 ⟨v2, rfl, m2⟩
      obtain ⟨O, o, rfl, g2, o2, y2⟩ := made_shape m2
      clear m2 g2
      have o2 : w2.ownsRow W.heap.size 5 1 (.slice O q.opt.length o) q.opt.length (row q.opt) := o2
      have x2 : Below W.heap.size W w2 := (Below.refl _ W).drew.trans y2
      have hP2 := (x2.block w.heap.size zP).trans hP0
      have hR2 := (x2.block (w.heap.size + 1) zR).trans hR0
      have kD2 := (At4.of_heapR hP2).dat
      have hD2 := hD1.below (x2.mono zW)
      have hgO : ∀ g, O = some ⟨g, 0, none⟩ → 0 < q.opt.length → g < w2.heap.size := fun g e hl => by { subst e; exact (own_cellR o2 (i := 0) hl).2 }
      show K _ _
      refine hK.out _ _ trivial (fun hS => ?_)
      clear hK K
      try go_frame
      refine held_pure (i := 6) (oi := ⟨some 18, _, _, _, _, _⟩) rfl (by kernel_rfl) (by kernel_rfl) (by kernel_rfl) (fun _ _ _ h => h) (by rfl) (v := ?_) (fun w hSw => ?_) hS (fun hS => ?_)
      rotate_left
      · go_simp; try with_reducible rfl
      try go_frame
      refine wpAnyH_ready (rs := [5]) (by kernel_rfl) (by simp) (AllReadyH.cons (o := ⟨some 17, _, _, _, _, _⟩) rfl (fun K hK => ?_) AllReadyH.nil)
      rw [if_pos (by rfl)]
      go_simp
      refine (cloneS_any A' q.dat c' B _ hD2 (Nat.le_trans zW x2.size) (by omega)).mono ?_
      rintro e w3 ⟨v3, rfl, m3⟩
      obtain ⟨D, d, rfl, g3, o3, y3⟩ := made_shape m3
      clear m3 g3
      have hP3 := (y3.block w.heap.size (heap_lt hP2)).trans hP2
      have hR3 := (y3.block (w.heap.size + 1) (heap_lt hR2)).trans hR2
      have oO3 := own_below o2 y3
      have kO3 := (At4.of_heapR hP3).opt
      have fO3 := heap_frozen hP3 9
      have x3 := x2.trans (y3.mono x2.size)
      have zx2 := x2.size
      show K _ _
      refine hK.out _ _ trivial (fun hS => ?_)
      clear hK K
      try go_frame
      refine wpAnyH_ready (rs := [7]) (by kernel_rfl) (by simp) (AllReadyH.cons (o := ⟨none, _, _, _, _, _⟩) rfl (fun K hK => ?_) AllReadyH.nil)
      rw [if_pos (by rfl)]
      refine store_slR_wp rfl rfl rfl kO3 fO3 ?_
      have hP4 : (w3.setCell ⟨w.heap.size, 9, none⟩ (.slice O q.opt.length o)).heap[w.heap.size]? = some (.cells (v4a q O o A' c') 28 (0, 0)) := heap_setCell_same w3 w.heap.size 9 _ _ (.slice O q.opt.length o) hP3
      have hR4 := (heap_setCell_other w3 ⟨w.heap.size, 9, none⟩ (w.heap.size + 1) (.slice O q.opt.length o) (by show w.heap.size + 1 ≠ w.heap.size; omega)).trans hR3
      have kD4 := (At4.of_heapR hP4).dat
      have fD4 := heap_frozen hP4 10
      have oO4 := own_setCell oO3 (p := ⟨w.heap.size, 9, none⟩) (u := .slice O q.opt.length o) zP
      have oD4 := own_setCell o3 (p := ⟨w.heap.size, 9, none⟩) (u := .slice O q.opt.length o) (Nat.lt_of_lt_of_le zP zx2)
      have b4 := (hB.trans (x3.mono hB.size)).setCell (p := ⟨w.heap.size, 9, none⟩) (Nat.le_refl _) (.slice O q.opt.length o)
      clear hP2 hR2 kD2 hD2 hP3 hR3 oO3 kO3 fO3 o2 o3 y2 y3
      generalize w3.setCell ⟨w.heap.size, 9, none⟩ (.slice O q.opt.length o) = V4 at *
      refine hK.out _ _ trivial (fun hS => ?_)
      clear hK K
      try go_frame
      refine held_pure (i := 8) (oi := ⟨some 19, _, _, _, _, _⟩) rfl (by kernel_rfl) (by kernel_rfl) (by kernel_rfl) (fun _ _ _ h => h) (by rfl) (v := ?_) (fun w hSw => ?_) hS (fun hS => ?_)
      rotate_left
      · go_simp; try with_reducible rfl
      try go_frame
      refine wpAnyH_ready (rs := [9]) (by kernel_rfl) (by simp) (AllReadyH.cons (o := ⟨none, _, _, _, _, _⟩) rfl (fun K hK => ?_) AllReadyH.nil)
      rw [if_pos (by rfl)]
      refine store_slR_wp rfl rfl rfl kD4 fD4 ?_
      have hP : (V4.setCell ⟨w.heap.size, 10, none⟩ (.slice D q.dat.length d)).heap[w.heap.size]? = some (.cells (v4a q O o D d) 28 (0, 0)) := heap_setCell_same V4 w.heap.size 10 _ _ (.slice D q.dat.length d) hP4
      have hR := (heap_setCell_other V4 ⟨w.heap.size, 10, none⟩ (w.heap.size + 1) (.slice D q.dat.length d) (by show w.heap.size + 1 ≠ w.heap.size; omega)).trans hR4
      have oO := own_setCell oO4 (p := ⟨w.heap.size, 10, none⟩) (u := .slice D q.dat.length d) zP
      have oD := own_setCell oD4 (p := ⟨w.heap.size, 10, none⟩) (u := .slice D q.dat.length d) (Nat.lt_of_lt_of_le zP zx2)
      have bV := b4.setCell (p := ⟨w.heap.size, 10, none⟩) (Nat.le_refl _) (.slice D q.dat.length d)
      clear hP4 hR4 kD4 fD4 oO4 oD4 b4 hP0 hR0 hO1 hD1 kO0 kD0 x2 x3
      generalize V4.setCell ⟨w.heap.size, 10, none⟩ (.slice D q.dat.length d) = V at *
      have hat := At4.of_heapR hP
      have gO := arg_own oO
      have gD := arg_own oD
      refine hK.out _ _ trivial (fun hS => ?_)
      clear hK K
      try go_frame
      refine wpAnyH_done (by kernel_rfl) ?_ _
      go_wp2_with (first
        | ((with_reducible show wpList _ _ _ (Oper.mk _ (Op.load 28 _) _ _ _ _ :: _) _ _); refine wpList_val rfl (run_load_v4 rfl rfl hat rfl) ?_)
        | ((with_reducible show wpList _ _ _ (Oper.mk _ (Op.store 28 _ _) _ _ _ _ :: _) _ _); refine v4_store (g := w.heap.size + 1) (cs := v4a q O o D d) rfl rfl hR rfl rfl (v4a_one _ _ _ _ _) ?_))
      have oO7 := own_setRow oO (g := w.heap.size + 1) (cs := v4a q O o D d) (by omega)
      have oD7 := own_setRow oD (g := w.heap.size + 1) (cs := v4a q O o D d) (by omega)
      have b7 := below_row bV (g := w.heap.size + 1) (cs := v4a q O o D d) (by omega)
      exact bodyPost_ret (res2 rfl rfl (run_loadVar_row _ _ _ 28 (v4a q O o D d) _ _ (setRow_heap _ _ _ _ _ _ hR) Try.underlying28 rfl (by kernel_rfl))) rfl ⟨O, o, D, d, by rw [HV.out, HBB.out]; rfl, by rw [HV.out]; exact Made.of_own (own_base oO7 (by omega)) b7, by rw [HV.out]; exact Made.of_own (own_base oD7 (by omega)) b7⟩
set_option maxRecDepth 100000 in
set_option maxHeartbeats 4000000 in
theorem rWhop (q0 : P4) (A : Option Addr) (c : Nat) (A' : Option Addr) (c' : Nat) (w : World) (ho : q0.opt.length ≤ 1000000) (hl : q0.dat.length ≤ 900000) (hf : (Lit.int .i64 q0.ttl).wf = true) (B : Nat) (hO : Arg w B A c q0.opt) (hD : Arg w B A' c' q0.dat) (hB0 : B ≤ w.heap.size) :
    Calls Try.prog 15 #[v4v q0 A c A' c'] w fun e w' => ∃ P p P' p', e = .returned (.tuple #[v4v (hpV q0) P p P' p', .bool (hpB q0)]) ∧ Made w w' (.slice P (hpV q0).opt.length p) (hpV q0).opt ∧ Made w w' (.slice P' (hpV q0).dat.length p') (hpV q0).dat := by
  have hB : Below w.heap.size w ((w.alloc (.cells (v4a q0 A c A' c') 28)).alloc (.cells (v4a p4z none 0 none 0) 28)) := below_two w _ _
  have hP0 : ((w.alloc (.cells (v4a q0 A c A' c') 28)).alloc (.cells (v4a p4z none 0 none 0) 28)).heap[w.heap.size]? = some (.cells (v4a q0 A c A' c') 28 (0, 0)) := (Below.heap_alloc (w.alloc (.cells (v4a q0 A c A' c') 28)) _ w.heap.size (by simp)).trans (World.alloc_heap_new w _)
  have hR0 : ((w.alloc (.cells (v4a q0 A c A' c') 28)).alloc (.cells (v4a p4z none 0 none 0) 28)).heap[w.heap.size + 1]? = some (.cells (v4a p4z none 0 none 0) 28 (0, 0)) := by
    have := World.alloc_heap_new (w.alloc (.cells (v4a q0 A c A' c') 28)) (.cells (v4a p4z none 0 none 0) 28)
    rwa [World.size_alloc] at this
  rw [v4q_eqR]
  have hbd : -9223372036854775808 ≤ q0.ttl ∧ q0.ttl ≤ 9223372036854775807 := by
    have := hf
    simp [Lit.wf] at this
    have e1 : IntKind.i64.min = -9223372036854775808 := by decide
    have e2 : IntKind.i64.max = 9223372036854775807 := by decide
    omega
  go_enter Try.func15, Try.ntmps15
  go_upto_region 1 with fail
  rw [show #[.int .i64 0, .int .i64 0, .int .i64 0, .int .i64 0, .int .i64 0, .int .i64 0, .int .i64 0, .bool false, .bool false, .slice none 0 0, .slice none 0 0] = v4a p4z none 0 none 0 from rfl]
  generalize (w.alloc (.cells (v4a q0 A c A' c') 28)).alloc (.cells (v4a p4z none 0 none 0) 28) = W at *
  have zR := heap_lt hR0
  have k3 := (At4.of_heapR hP0).ttl
  have f3 := heap_frozen hP0 3
  by_cases h1 : q0.ttl ≤ 1
  · have d1 : decide (q0.ttl ≤ 1) = true := by simpa using h1
    have HV : Hid (hpV q0 = p4z) := Lib.hid (by rw [hpV, if_neg (by omega)])
    have HBB : Hid (hpB q0 = false) := Lib.hid (by rw [hpB]; simp; omega)
    clear h1
    go_wp2_with (first | ((with_reducible show wpList _ _ _ (Oper.mk _ (Op.store 28 _ _) _ _ _ _ :: _) _ _); refine v4_store (g := w.heap.size + 1) (cs := v4a p4z none 0 none 0) rfl rfl hR0 rfl rfl (v4a_one _ _ _ _ _) ?_))
    exact bodyPost_ret (res2 rfl rfl (run_loadVar_row _ _ _ 28 (v4a p4z none 0 none 0) _ _ (setRow_heap _ _ _ _ _ _ hR0) Try.underlying28 rfl (by kernel_rfl))) rfl ⟨none, 0, none, 0, by rw [HV.out, HBB.out]; rfl, by rw [HV.out]; exact Made.nil _ _ (below_row hB (by omega)), by rw [HV.out]; exact Made.nil _ _ (below_row hB (by omega))⟩
  · have d1 : decide (q0.ttl ≤ 1) = false := by simpa using h1
    obtain ⟨q, hq⟩ : ∃ q : P4, q = { q0 with ttl := q0.ttl - 1 } := ⟨_, rfl⟩
    have HV : Hid (hpV q0 = q) := Lib.hid (by rw [hpV, if_pos (by omega), hq])
    have HBB : Hid (hpB q0 = true) := Lib.hid (by rw [hpB]; simp; omega)
    have ho : q.opt.length ≤ 1000000 := by rw [hq]; exact ho
    have hl : q.dat.length ≤ 900000 := by rw [hq]; exact hl
    have hO : Arg w B A c q.opt := by rw [hq]; exact hO
    have hD : Arg w B A' c' q.dat := by rw [hq]; exact hD
    go_upto_region 4 with fail
    have hP1 := heap_setCell_same W w.heap.size 3 _ _ (.int .i64 (q0.ttl - 1)) hP0
    have hP1 : (W.setCell ⟨w.heap.size, 3, none⟩ (.int .i64 (q0.ttl - 1))).heap[w.heap.size]? = some (.cells (v4a q A c A' c') 28 (0, 0)) := by rw [hq]; exact hP1
    have hR1 := (heap_setCell_other W ⟨w.heap.size, 3, none⟩ (w.heap.size + 1) (.int .i64 (q0.ttl - 1)) (by show w.heap.size + 1 ≠ w.heap.size; omega)).trans hR0
    have hB1 := hB.setCell (p := ⟨w.heap.size, 3, none⟩) (Nat.le_refl _) (.int .i64 (q0.ttl - 1))
    clear k3 f3 hP0 hR0 hB zR hq
    generalize W.setCell ⟨w.heap.size, 3, none⟩ (.int .i64 (q0.ttl - 1)) = W at *
    have hP0 := hP1
    have hR0 := hR1
    have hB := hB1
    clear hP1 hR1 hB1 h1 hbd hf
    have hO1 := hO.below (hB.mono hB0)
    have hD1 := hD.below (hB.mono hB0)
    have zW := Nat.le_trans hB0 hB.size
    have zP := heap_lt hP0
    have zR := heap_lt hR0
    have kO0 := (At4.of_heapR hP0).opt
    have kD0 := (At4.of_heapR hP0).dat
    refine wp_region_held_drew (S := fun _ => True) (by kernel_rfl) trivial (fun hS => ?_)
    refine held_pure (i := 0) (oi := ⟨some 12, _, _, _, _, _⟩) rfl (by kernel_rfl) (by kernel_rfl) (by kernel_rfl) (fun _ _ _ h => h) (by rfl) (v := ?_) (fun w hSw => ?_) hS (fun hS => ?_)
    rotate_left
    · go_simp; try with_reducible rfl
    try go_frame
    refine held_pure (i := 3) (oi := ⟨some 15, _, _, _, _, _⟩) rfl (by kernel_rfl) (by kernel_rfl) (by kernel_rfl) (fun _ _ _ h => h) (by rfl) (v := ?_) (fun w hSw => ?_) hS (fun hS => ?_)
    rotate_left
    · go_simp; try with_reducible rfl
    try go_frame
    refine wpAnyH_ready (rs := [1, 4]) (by kernel_rfl) (by simp) (AllReadyH.cons (o := ⟨some 13, _, _, _, _, _⟩) rfl (fun K hK => ?_) (AllReadyH.cons (o := ⟨some 16, _, _, _, _, _⟩) rfl (fun K hK => ?_) AllReadyH.nil))
    · rw [if_pos (by rfl)]
      refine wp_valR (v := .slice A q.opt.length c) (by first | exact run_load_sl rfl rfl kO0) ?_
      refine hK.out _ _ trivial (fun hS => ?_)
      clear hK K
      try go_frame
      refine wpAnyH_ready (rs := [2, 4]) (by kernel_rfl) (by simp) (AllReadyH.cons (o := ⟨some 14, _, _, _, _, _⟩) rfl (fun K hK => ?_) (AllReadyH.cons (o := ⟨some 16, _, _, _, _, _⟩) rfl (fun K hK => ?_) AllReadyH.nil))
      · rw [if_pos (by rfl)]
        refine append_wp _ _ rfl W.heap.size (.slice none 0 0) 0 [] rfl (World.ownsRow_nil _ _ _ _) B A c q.opt rfl hO1.none_ (hO1.below (Below.refl _ W).drew).rd (by omega) (Nat.le_refl _) ?_
        intro v2 w2 own2 grow2
        obtain ⟨O, o, rfl, o2⟩ := own_made (bs := q.opt) own2 (Nat.zero_add _) (List.nil_append _)
        have y2 := (Below.refl W.drew.heap.size W.drew).grown grow2 (Nat.le_refl _) (fun k hk => by cases hk)
        clear own2 grow2
        have o2 : w2.ownsRow W.heap.size 5 1 (.slice O q.opt.length o) q.opt.length (row q.opt) := o2
        have x2 : Below W.heap.size W w2 := (Below.refl _ W).drew.trans y2
        have hP2 := (x2.block w.heap.size zP).trans hP0
        have hR2 := (x2.block (w.heap.size + 1) zR).trans hR0
        have kD2 := (At4.of_heapR hP2).dat
        have hD2 := hD1.below (x2.mono zW)
        have hgO : ∀ g, O = some ⟨g, 0, none⟩ → 0 < q.opt.length → g < w2.heap.size := fun g e hl => by { subst e; exact (own_cellR o2 (i := 0) hl).2 }
        refine hK.out _ _ trivial (fun hS => ?_)
        clear hK K
        try go_frame
        refine wpAnyH_ready (rs := [4]) (by kernel_rfl) (by simp) (AllReadyH.cons (o := ⟨some 16, _, _, _, _, _⟩) rfl (fun K hK => ?_) AllReadyH.nil)
        rw [if_pos (by rfl)]
        refine wp_valR (v := .slice A' q.dat.length c') (by first | exact run_load_sl rfl rfl kD0 | exact run_load_sl rfl rfl kD2) ?_
        refine hK.out _ _ trivial (fun hS => ?_)
        clear hK K
        try go_frame
        refine held_pure (i := 6) (oi := ⟨some 18, _, _, _, _, _⟩) rfl (by kernel_rfl) (by kernel_rfl) (by kernel_rfl) (fun _ _ _ h => h) (by rfl) (v := ?_) (fun w hSw => ?_) hS (fun hS => ?_)
        rotate_left
        · go_simp; try with_reducible rfl
        try go_frame
        refine wpAnyH_ready (rs := [5]) (by kernel_rfl) (by simp) (AllReadyH.cons (o := ⟨some 17, _, _, _, _, _⟩) rfl (fun K hK => ?_) AllReadyH.nil)
        rw [if_pos (by rfl)]
        refine append_wp _ _ rfl w2.heap.size (.slice none 0 0) 0 [] rfl (World.ownsRow_nil _ _ _ _) B A' c' q.dat rfl hD2.none_ hD2.rd (by omega) (Nat.le_refl _) ?_
        intro v3 w3 own3 grow3
        obtain ⟨D, d, rfl, o3⟩ := own_made (bs := q.dat) own3 (Nat.zero_add _) (List.nil_append _)
        have y3 := (Below.refl w2.heap.size w2).grown grow3 (Nat.le_refl _) (fun k hk => by cases hk)
        clear own3 grow3
        have hP3 := (y3.block w.heap.size (heap_lt hP2)).trans hP2
        have hR3 := (y3.block (w.heap.size + 1) (heap_lt hR2)).trans hR2
        have oO3 := own_below o2 y3
        have kO3 := (At4.of_heapR hP3).opt
        have fO3 := heap_frozen hP3 9
        have x3 := x2.trans (y3.mono x2.size)
        have zx2 := x2.size
        refine hK.out _ _ trivial (fun hS => ?_)
        clear hK K
        try go_frame
        refine wpAnyH_ready (rs := [7]) (by kernel_rfl) (by simp) (AllReadyH.cons (o := ⟨none, _, _, _, _, _⟩) rfl (fun K hK => ?_) AllReadyH.nil)
        rw [if_pos (by rfl)]
        refine store_slR_wp rfl rfl rfl kO3 fO3 ?_
        have hP4 : (w3.setCell ⟨w.heap.size, 9, none⟩ (.slice O q.opt.length o)).heap[w.heap.size]? = some (.cells (v4a q O o A' c') 28 (0, 0)) := heap_setCell_same w3 w.heap.size 9 _ _ (.slice O q.opt.length o) hP3
        have hR4 := (heap_setCell_other w3 ⟨w.heap.size, 9, none⟩ (w.heap.size + 1) (.slice O q.opt.length o) (by show w.heap.size + 1 ≠ w.heap.size; omega)).trans hR3
        have kD4 := (At4.of_heapR hP4).dat
        have fD4 := heap_frozen hP4 10
        have oO4 := own_setCell oO3 (p := ⟨w.heap.size, 9, none⟩) (u := .slice O q.opt.length o) zP
        have oD4 := own_setCell o3 (p := ⟨w.heap.size, 9, none⟩) (u := .slice O q.opt.length o) (Nat.lt_of_lt_of_le zP zx2)
        have b4 := (hB.trans (x3.mono hB.size)).setCell (p := ⟨w.heap.size, 9, none⟩) (Nat.le_refl _) (.slice O q.opt.length o)
        clear hP2 hR2 kD2 hD2 hP3 hR3 oO3 kO3 fO3 o2 o3 y2 y3
        generalize w3.setCell ⟨w.heap.size, 9, none⟩ (.slice O q.opt.length o) = V4 at *
        refine hK.out _ _ trivial (fun hS => ?_)
        clear hK K
        try go_frame
        refine held_pure (i := 8) (oi := ⟨some 19, _, _, _, _, _⟩) rfl (by kernel_rfl) (by kernel_rfl) (by kernel_rfl) (fun _ _ _ h => h) (by rfl) (v := ?_) (fun w hSw => ?_) hS (fun hS => ?_)
        rotate_left
        · go_simp; try with_reducible rfl
        try go_frame
        refine wpAnyH_ready (rs := [9]) (by kernel_rfl) (by simp) (AllReadyH.cons (o := ⟨none, _, _, _, _, _⟩) rfl (fun K hK => ?_) AllReadyH.nil)
        rw [if_pos (by rfl)]
        refine store_slR_wp rfl rfl rfl kD4 fD4 ?_
        have hP : (V4.setCell ⟨w.heap.size, 10, none⟩ (.slice D q.dat.length d)).heap[w.heap.size]? = some (.cells (v4a q O o D d) 28 (0, 0)) := heap_setCell_same V4 w.heap.size 10 _ _ (.slice D q.dat.length d) hP4
        have hR := (heap_setCell_other V4 ⟨w.heap.size, 10, none⟩ (w.heap.size + 1) (.slice D q.dat.length d) (by show w.heap.size + 1 ≠ w.heap.size; omega)).trans hR4
        have oO := own_setCell oO4 (p := ⟨w.heap.size, 10, none⟩) (u := .slice D q.dat.length d) zP
        have oD := own_setCell oD4 (p := ⟨w.heap.size, 10, none⟩) (u := .slice D q.dat.length d) (Nat.lt_of_lt_of_le zP zx2)
        have bV := b4.setCell (p := ⟨w.heap.size, 10, none⟩) (Nat.le_refl _) (.slice D q.dat.length d)
        clear hP4 hR4 kD4 fD4 oO4 oD4 b4 hP0 hR0 hO1 hD1 kO0 kD0 x2 x3
        generalize V4.setCell ⟨w.heap.size, 10, none⟩ (.slice D q.dat.length d) = V at *
        have hat := At4.of_heapR hP
        have gO := arg_own oO
        have gD := arg_own oD
        refine hK.out _ _ trivial (fun hS => ?_)
        clear hK K
        try go_frame
        refine wpAnyH_done (by kernel_rfl) ?_ _
        go_wp2_with (first
          | ((with_reducible show wpList _ _ _ (Oper.mk _ (Op.load 28 _) _ _ _ _ :: _) _ _); refine wpList_val rfl (run_load_v4 rfl rfl hat rfl) ?_)
          | ((with_reducible show wpList _ _ _ (Oper.mk _ (Op.store 28 _ _) _ _ _ _ :: _) _ _); refine v4_store (g := w.heap.size + 1) (cs := v4a q O o D d) rfl rfl hR rfl rfl (v4a_one _ _ _ _ _) ?_))
        have oO7 := own_setRow oO (g := w.heap.size + 1) (cs := v4a q O o D d) (by omega)
        have oD7 := own_setRow oD (g := w.heap.size + 1) (cs := v4a q O o D d) (by omega)
        have b7 := below_row bV (g := w.heap.size + 1) (cs := v4a q O o D d) (by omega)
        exact bodyPost_ret (res2 rfl rfl (run_loadVar_row _ _ _ 28 (v4a q O o D d) _ _ (setRow_heap _ _ _ _ _ _ hR) Try.underlying28 rfl (by kernel_rfl))) rfl ⟨O, o, D, d, by rw [HV.out, HBB.out]; rfl, by rw [HV.out]; exact Made.of_own (own_base oO7 (by omega)) b7, by rw [HV.out]; exact Made.of_own (own_base oD7 (by omega)) b7⟩
      · rw [if_pos (by rfl)]
        refine wp_valR (v := .slice A' q.dat.length c') (by first | exact run_load_sl rfl rfl kD0 | exact run_load_sl rfl rfl kD2) ?_
        refine hK.out _ _ trivial (fun hS => ?_)
        clear hK K
        try go_frame
        refine wpAnyH_ready (rs := [2]) (by kernel_rfl) (by simp) (AllReadyH.cons (o := ⟨some 14, _, _, _, _, _⟩) rfl (fun K hK => ?_) AllReadyH.nil)
        rw [if_pos (by rfl)]
        refine append_wp _ _ rfl W.heap.size (.slice none 0 0) 0 [] rfl (World.ownsRow_nil _ _ _ _) B A c q.opt rfl hO1.none_ (hO1.below (Below.refl _ W).drew).rd (by omega) (Nat.le_refl _) ?_
        intro v2 w2 own2 grow2
        obtain ⟨O, o, rfl, o2⟩ := own_made (bs := q.opt) own2 (Nat.zero_add _) (List.nil_append _)
        have y2 := (Below.refl W.drew.heap.size W.drew).grown grow2 (Nat.le_refl _) (fun k hk => by cases hk)
        clear own2 grow2
        have o2 : w2.ownsRow W.heap.size 5 1 (.slice O q.opt.length o) q.opt.length (row q.opt) := o2
        have x2 : Below W.heap.size W w2 := (Below.refl _ W).drew.trans y2
        have hP2 := (x2.block w.heap.size zP).trans hP0
        have hR2 := (x2.block (w.heap.size + 1) zR).trans hR0
        have kD2 := (At4.of_heapR hP2).dat
        have hD2 := hD1.below (x2.mono zW)
        have hgO : ∀ g, O = some ⟨g, 0, none⟩ → 0 < q.opt.length → g < w2.heap.size := fun g e hl => by { subst e; exact (own_cellR o2 (i := 0) hl).2 }
        refine hK.out _ _ trivial (fun hS => ?_)
        clear hK K
        try go_frame
        refine held_pure (i := 6) (oi := ⟨some 18, _, _, _, _, _⟩) rfl (by kernel_rfl) (by kernel_rfl) (by kernel_rfl) (fun _ _ _ h => h) (by rfl) (v := ?_) (fun w hSw => ?_) hS (fun hS => ?_)
        rotate_left
        · go_simp; try with_reducible rfl
        try go_frame
        refine wpAnyH_ready (rs := [5]) (by kernel_rfl) (by simp) (AllReadyH.cons (o := ⟨some 17, _, _, _, _, _⟩) rfl (fun K hK => ?_) AllReadyH.nil)
        rw [if_pos (by rfl)]
        refine append_wp _ _ rfl w2.heap.size (.slice none 0 0) 0 [] rfl (World.ownsRow_nil _ _ _ _) B A' c' q.dat rfl hD2.none_ hD2.rd (by omega) (Nat.le_refl _) ?_
        intro v3 w3 own3 grow3
        obtain ⟨D, d, rfl, o3⟩ := own_made (bs := q.dat) own3 (Nat.zero_add _) (List.nil_append _)
        have y3 := (Below.refl w2.heap.size w2).grown grow3 (Nat.le_refl _) (fun k hk => by cases hk)
        clear own3 grow3
        have hP3 := (y3.block w.heap.size (heap_lt hP2)).trans hP2
        have hR3 := (y3.block (w.heap.size + 1) (heap_lt hR2)).trans hR2
        have oO3 := own_below o2 y3
        have kO3 := (At4.of_heapR hP3).opt
        have fO3 := heap_frozen hP3 9
        have x3 := x2.trans (y3.mono x2.size)
        have zx2 := x2.size
        refine hK.out _ _ trivial (fun hS => ?_)
        clear hK K
        try go_frame
        refine wpAnyH_ready (rs := [7]) (by kernel_rfl) (by simp) (AllReadyH.cons (o := ⟨none, _, _, _, _, _⟩) rfl (fun K hK => ?_) AllReadyH.nil)
        rw [if_pos (by rfl)]
        refine store_slR_wp rfl rfl rfl kO3 fO3 ?_
        have hP4 : (w3.setCell ⟨w.heap.size, 9, none⟩ (.slice O q.opt.length o)).heap[w.heap.size]? = some (.cells (v4a q O o A' c') 28 (0, 0)) := heap_setCell_same w3 w.heap.size 9 _ _ (.slice O q.opt.length o) hP3
        have hR4 := (heap_setCell_other w3 ⟨w.heap.size, 9, none⟩ (w.heap.size + 1) (.slice O q.opt.length o) (by show w.heap.size + 1 ≠ w.heap.size; omega)).trans hR3
        have kD4 := (At4.of_heapR hP4).dat
        have fD4 := heap_frozen hP4 10
        have oO4 := own_setCell oO3 (p := ⟨w.heap.size, 9, none⟩) (u := .slice O q.opt.length o) zP
        have oD4 := own_setCell o3 (p := ⟨w.heap.size, 9, none⟩) (u := .slice O q.opt.length o) (Nat.lt_of_lt_of_le zP zx2)
        have b4 := (hB.trans (x3.mono hB.size)).setCell (p := ⟨w.heap.size, 9, none⟩) (Nat.le_refl _) (.slice O q.opt.length o)
        clear hP2 hR2 kD2 hD2 hP3 hR3 oO3 kO3 fO3 o2 o3 y2 y3
        generalize w3.setCell ⟨w.heap.size, 9, none⟩ (.slice O q.opt.length o) = V4 at *
        refine hK.out _ _ trivial (fun hS => ?_)
        clear hK K
        try go_frame
        refine held_pure (i := 8) (oi := ⟨some 19, _, _, _, _, _⟩) rfl (by kernel_rfl) (by kernel_rfl) (by kernel_rfl) (fun _ _ _ h => h) (by rfl) (v := ?_) (fun w hSw => ?_) hS (fun hS => ?_)
        rotate_left
        · go_simp; try with_reducible rfl
        try go_frame
        refine wpAnyH_ready (rs := [9]) (by kernel_rfl) (by simp) (AllReadyH.cons (o := ⟨none, _, _, _, _, _⟩) rfl (fun K hK => ?_) AllReadyH.nil)
        rw [if_pos (by rfl)]
        refine store_slR_wp rfl rfl rfl kD4 fD4 ?_
        have hP : (V4.setCell ⟨w.heap.size, 10, none⟩ (.slice D q.dat.length d)).heap[w.heap.size]? = some (.cells (v4a q O o D d) 28 (0, 0)) := heap_setCell_same V4 w.heap.size 10 _ _ (.slice D q.dat.length d) hP4
        have hR := (heap_setCell_other V4 ⟨w.heap.size, 10, none⟩ (w.heap.size + 1) (.slice D q.dat.length d) (by show w.heap.size + 1 ≠ w.heap.size; omega)).trans hR4
        have oO := own_setCell oO4 (p := ⟨w.heap.size, 10, none⟩) (u := .slice D q.dat.length d) zP
        have oD := own_setCell oD4 (p := ⟨w.heap.size, 10, none⟩) (u := .slice D q.dat.length d) (Nat.lt_of_lt_of_le zP zx2)
        have bV := b4.setCell (p := ⟨w.heap.size, 10, none⟩) (Nat.le_refl _) (.slice D q.dat.length d)
        clear hP4 hR4 kD4 fD4 oO4 oD4 b4 hP0 hR0 hO1 hD1 kO0 kD0 x2 x3
        generalize V4.setCell ⟨w.heap.size, 10, none⟩ (.slice D q.dat.length d) = V at *
        have hat := At4.of_heapR hP
        have gO := arg_own oO
        have gD := arg_own oD
        refine hK.out _ _ trivial (fun hS => ?_)
        clear hK K
        try go_frame
        refine wpAnyH_done (by kernel_rfl) ?_ _
        go_wp2_with (first
          | ((with_reducible show wpList _ _ _ (Oper.mk _ (Op.load 28 _) _ _ _ _ :: _) _ _); refine wpList_val rfl (run_load_v4 rfl rfl hat rfl) ?_)
          | ((with_reducible show wpList _ _ _ (Oper.mk _ (Op.store 28 _ _) _ _ _ _ :: _) _ _); refine v4_store (g := w.heap.size + 1) (cs := v4a q O o D d) rfl rfl hR rfl rfl (v4a_one _ _ _ _ _) ?_))
        have oO7 := own_setRow oO (g := w.heap.size + 1) (cs := v4a q O o D d) (by omega)
        have oD7 := own_setRow oD (g := w.heap.size + 1) (cs := v4a q O o D d) (by omega)
        have b7 := below_row bV (g := w.heap.size + 1) (cs := v4a q O o D d) (by omega)
        exact bodyPost_ret (res2 rfl rfl (run_loadVar_row _ _ _ 28 (v4a q O o D d) _ _ (setRow_heap _ _ _ _ _ _ hR) Try.underlying28 rfl (by kernel_rfl))) rfl ⟨O, o, D, d, by rw [HV.out, HBB.out]; rfl, by rw [HV.out]; exact Made.of_own (own_base oO7 (by omega)) b7, by rw [HV.out]; exact Made.of_own (own_base oD7 (by omega)) b7⟩
    · rw [if_pos (by rfl)]
      refine wp_valR (v := .slice A' q.dat.length c') (by first | exact run_load_sl rfl rfl kD0 | exact run_load_sl rfl rfl kD2) ?_
      refine hK.out _ _ trivial (fun hS => ?_)
      clear hK K
      try go_frame
      refine wpAnyH_ready (rs := [1]) (by kernel_rfl) (by simp) (AllReadyH.cons (o := ⟨some 13, _, _, _, _, _⟩) rfl (fun K hK => ?_) AllReadyH.nil)
      rw [if_pos (by rfl)]
      refine wp_valR (v := .slice A q.opt.length c) (by first | exact run_load_sl rfl rfl kO0) ?_
      refine hK.out _ _ trivial (fun hS => ?_)
      clear hK K
      try go_frame
      refine wpAnyH_ready (rs := [2]) (by kernel_rfl) (by simp) (AllReadyH.cons (o := ⟨some 14, _, _, _, _, _⟩) rfl (fun K hK => ?_) AllReadyH.nil)
      rw [if_pos (by rfl)]
      refine append_wp _ _ rfl W.heap.size (.slice none 0 0) 0 [] rfl (World.ownsRow_nil _ _ _ _) B A c q.opt rfl hO1.none_ (hO1.below (Below.refl _ W).drew).rd (by omega) (Nat.le_refl _) ?_
      intro v2 w2 own2 grow2
      obtain ⟨O, o, rfl, o2⟩ := own_made (bs := q.opt) own2 (Nat.zero_add _) (List.nil_append _)
      have y2 := (Below.refl W.drew.heap.size W.drew).grown grow2 (Nat.le_refl _) (fun k hk => by cases hk)
      clear own2 grow2
      have o2 : w2.ownsRow W.heap.size 5 1 (.slice O q.opt.length o) q.opt.length (row q.opt) := o2
      have x2 : Below W.heap.size W w2 := (Below.refl _ W).drew.trans y2
      have hP2 := (x2.block w.heap.size zP).trans hP0
      have hR2 := (x2.block (w.heap.size + 1) zR).trans hR0
      have kD2 := (At4.of_heapR hP2).dat
      have hD2 := hD1.below (x2.mono zW)
      have hgO : ∀ g, O = some ⟨g, 0, none⟩ → 0 < q.opt.length → g < w2.heap.size := fun g e hl => by { subst e; exact (own_cellR o2 (i := 0) hl).2 }
      refine hK.out _ _ trivial (fun hS => ?_)
      clear hK K
      try go_frame
      refine held_pure (i := 6) (oi := ⟨some 18, _, _, _, _, _⟩) rfl (by kernel_rfl) (by kernel_rfl) (by kernel_rfl) (fun _ _ _ h => h) (by rfl) (v := ?_) (fun w hSw => ?_) hS (fun hS => ?_)
      rotate_left
      · go_simp; try with_reducible rfl
      try go_frame
      refine wpAnyH_ready (rs := [5]) (by kernel_rfl) (by simp) (AllReadyH.cons (o := ⟨some 17, _, _, _, _, _⟩) rfl (fun K hK => ?_) AllReadyH.nil)
      rw [if_pos (by rfl)]
      refine append_wp _ _ rfl w2.heap.size (.slice none 0 0) 0 [] rfl (World.ownsRow_nil _ _ _ _) B A' c' q.dat rfl hD2.none_ hD2.rd (by omega) (Nat.le_refl _) ?_
      intro v3 w3 own3 grow3
      obtain ⟨D, d, rfl, o3⟩ := own_made (bs := q.dat) own3 (Nat.zero_add _) (List.nil_append _)
      have y3 := (Below.refl w2.heap.size w2).grown grow3 (Nat.le_refl _) (fun k hk => by cases hk)
      clear own3 grow3
      have hP3 := (y3.block w.heap.size (heap_lt hP2)).trans hP2
      have hR3 := (y3.block (w.heap.size + 1) (heap_lt hR2)).trans hR2
      have oO3 := own_below o2 y3
      have kO3 := (At4.of_heapR hP3).opt
      have fO3 := heap_frozen hP3 9
      have x3 := x2.trans (y3.mono x2.size)
      have zx2 := x2.size
      refine hK.out _ _ trivial (fun hS => ?_)
      clear hK K
      try go_frame
      refine wpAnyH_ready (rs := [7]) (by kernel_rfl) (by simp) (AllReadyH.cons (o := ⟨none, _, _, _, _, _⟩) rfl (fun K hK => ?_) AllReadyH.nil)
      rw [if_pos (by rfl)]
      refine store_slR_wp rfl rfl rfl kO3 fO3 ?_
      have hP4 : (w3.setCell ⟨w.heap.size, 9, none⟩ (.slice O q.opt.length o)).heap[w.heap.size]? = some (.cells (v4a q O o A' c') 28 (0, 0)) := heap_setCell_same w3 w.heap.size 9 _ _ (.slice O q.opt.length o) hP3
      have hR4 := (heap_setCell_other w3 ⟨w.heap.size, 9, none⟩ (w.heap.size + 1) (.slice O q.opt.length o) (by show w.heap.size + 1 ≠ w.heap.size; omega)).trans hR3
      have kD4 := (At4.of_heapR hP4).dat
      have fD4 := heap_frozen hP4 10
      have oO4 := own_setCell oO3 (p := ⟨w.heap.size, 9, none⟩) (u := .slice O q.opt.length o) zP
      have oD4 := own_setCell o3 (p := ⟨w.heap.size, 9, none⟩) (u := .slice O q.opt.length o) (Nat.lt_of_lt_of_le zP zx2)
      have b4 := (hB.trans (x3.mono hB.size)).setCell (p := ⟨w.heap.size, 9, none⟩) (Nat.le_refl _) (.slice O q.opt.length o)
      clear hP2 hR2 kD2 hD2 hP3 hR3 oO3 kO3 fO3 o2 o3 y2 y3
      generalize w3.setCell ⟨w.heap.size, 9, none⟩ (.slice O q.opt.length o) = V4 at *
      refine hK.out _ _ trivial (fun hS => ?_)
      clear hK K
      try go_frame
      refine held_pure (i := 8) (oi := ⟨some 19, _, _, _, _, _⟩) rfl (by kernel_rfl) (by kernel_rfl) (by kernel_rfl) (fun _ _ _ h => h) (by rfl) (v := ?_) (fun w hSw => ?_) hS (fun hS => ?_)
      rotate_left
      · go_simp; try with_reducible rfl
      try go_frame
      refine wpAnyH_ready (rs := [9]) (by kernel_rfl) (by simp) (AllReadyH.cons (o := ⟨none, _, _, _, _, _⟩) rfl (fun K hK => ?_) AllReadyH.nil)
      rw [if_pos (by rfl)]
      refine store_slR_wp rfl rfl rfl kD4 fD4 ?_
      have hP : (V4.setCell ⟨w.heap.size, 10, none⟩ (.slice D q.dat.length d)).heap[w.heap.size]? = some (.cells (v4a q O o D d) 28 (0, 0)) := heap_setCell_same V4 w.heap.size 10 _ _ (.slice D q.dat.length d) hP4
      have hR := (heap_setCell_other V4 ⟨w.heap.size, 10, none⟩ (w.heap.size + 1) (.slice D q.dat.length d) (by show w.heap.size + 1 ≠ w.heap.size; omega)).trans hR4
      have oO := own_setCell oO4 (p := ⟨w.heap.size, 10, none⟩) (u := .slice D q.dat.length d) zP
      have oD := own_setCell oD4 (p := ⟨w.heap.size, 10, none⟩) (u := .slice D q.dat.length d) (Nat.lt_of_lt_of_le zP zx2)
      have bV := b4.setCell (p := ⟨w.heap.size, 10, none⟩) (Nat.le_refl _) (.slice D q.dat.length d)
      clear hP4 hR4 kD4 fD4 oO4 oD4 b4 hP0 hR0 hO1 hD1 kO0 kD0 x2 x3
      generalize V4.setCell ⟨w.heap.size, 10, none⟩ (.slice D q.dat.length d) = V at *
      have hat := At4.of_heapR hP
      have gO := arg_own oO
      have gD := arg_own oD
      refine hK.out _ _ trivial (fun hS => ?_)
      clear hK K
      try go_frame
      refine wpAnyH_done (by kernel_rfl) ?_ _
      go_wp2_with (first
        | ((with_reducible show wpList _ _ _ (Oper.mk _ (Op.load 28 _) _ _ _ _ :: _) _ _); refine wpList_val rfl (run_load_v4 rfl rfl hat rfl) ?_)
        | ((with_reducible show wpList _ _ _ (Oper.mk _ (Op.store 28 _ _) _ _ _ _ :: _) _ _); refine v4_store (g := w.heap.size + 1) (cs := v4a q O o D d) rfl rfl hR rfl rfl (v4a_one _ _ _ _ _) ?_))
      have oO7 := own_setRow oO (g := w.heap.size + 1) (cs := v4a q O o D d) (by omega)
      have oD7 := own_setRow oD (g := w.heap.size + 1) (cs := v4a q O o D d) (by omega)
      have b7 := below_row bV (g := w.heap.size + 1) (cs := v4a q O o D d) (by omega)
      exact bodyPost_ret (res2 rfl rfl (run_loadVar_row _ _ _ 28 (v4a q O o D d) _ _ (setRow_heap _ _ _ _ _ _ hR) Try.underlying28 rfl (by kernel_rfl))) rfl ⟨O, o, D, d, by rw [HV.out, HBB.out]; rfl, by rw [HV.out]; exact Made.of_own (own_base oO7 (by omega)) b7, by rw [HV.out]; exact Made.of_own (own_base oD7 (by omega)) b7⟩
def roomI (n : Int) : Int := max (n - 40) 0
theorem i64_bdR {n : Int} (h : (Lit.int .i64 n).wf = true) : -9223372036854775808 ≤ n ∧ n ≤ 9223372036854775807 := by
  have := h
  simp [Lit.wf] at this
  have e1 : IntKind.i64.min = -9223372036854775808 := by decide
  have e2 : IntKind.i64.max = 9223372036854775807 := by decide
  omega
set_option maxRecDepth 100000 in
set_option maxHeartbeats 4000000 in
theorem cWroom (n : Int) (w : World) (hn : (Lit.int .i64 n).wf = true) : Calls Try.prog 19 #[.int .i64 n] w fun e w' => e = .returned (.int .i64 (roomI n)) ∧ Below w.heap.size w w' := by
  have hb := i64_bdR hn
  have H := Lib.hid (show max n 40 - 40 = roomI n by unfold roomI; omega)
  go_enter Try.func19, Try.ntmps19
  go_wp2_with (go_at_call 34; refine (c6size p6z none 0 _ rfl rfl (by show (0 : Nat) ≤ 1000000; omega)).mono ?_; rintro e w1 ⟨rfl, x1⟩; rw [show size6 p6z = 40 from rfl])
  go_ret
  exact ⟨by rw [← H.out]; rfl, x1⟩
set_option maxRecDepth 100000 in
set_option maxHeartbeats 4000000 in
theorem rWroom (n : Int) (w : World) (hn : (Lit.int .i64 n).wf = true) : Calls Try.prog 20 #[.int .i64 n] w fun e w' => e = .returned (.int .i64 (roomI n)) ∧ Below w.heap.size w w' := by
  have hb := i64_bdR hn
  have H := Lib.hid (show max (max n 0 - 40) 0 = roomI n by unfold roomI; omega)
  go_enter Try.func20, Try.ntmps20
  go_wp2_with fail
  go_ret
  exact ⟨by rw [← H.out]; rfl, Below.refl _ _⟩
end Go.Proofs.Ytkfbamippjhjcaa
