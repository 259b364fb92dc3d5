/-
  Contracts and lemmas on which the proofs of this seat stand (several texts in one). Conditions are each theorem's own.
-/
import Derived.Test.YtpoigngpdcmipaaGreatMa11
import Derived.Test.YtpoigngpdcmipaaGreatMa7
import Derived.Test.YtpoigngpdcmipaaGreatMa1
import Derived.Test.YtpoigngpdcmipaaGreatMa9
import Derived.Test.YtpoigngpdcmipaaGreatMa2
import Derived.Test.YtpoigngpdcmipaaGreatMa8
import Derived.Laws.CopyOwn
import Derived.Lib.AppendZerosOnto
import Derived.Lib.Overlaps
import Derived.Laws.Externs
import Derived.Laws.NewBlocks
import Derived.WalkMore
import Derived.Lib.SlBytesConst
import Derived.Deep.Slices
import Derived.Maps.OwnSet
import Derived.Maps.OwnOps
import Derived.Maps.Ext
import Derived.Shelf.SlIter.Nil
import Derived.Shelf.SortM.Plain
import Derived.Shelf.SortM.SortNone
import Derived.Ground.GgzProg
import Derived.Ground.SlgmProg
import Derived.Maps.RangeWalk
import Derived.Sort.OwnSorted
import Derived.Test.YtpoigngpdcmipaaGreatMa10
namespace Go.Proofs.YtpoigngpdcmipaaGreat
open Go.RowKit
theorem own_cellR {w : World} {base g c i : Nat} {bs : List UInt8} (h : w.ownsRow base 5 1 (.slice (some ⟨g, 0, none⟩) bs.length c) bs.length (row bs)) (_hi : i < bs.length) : base ≤ g ∧ g < w.heap.size := by
  rcases h.2 with ⟨h0, _⟩ | ⟨k, cap, cur, hv, hb, hh, hle, _, hs, ht⟩
  · cases h0
  · cases hv; exact ⟨hb, heap_lt hh⟩
theorem wp_valR {o : Oper} {a : Act} {w : World} {K : Act → World → Prop} {Q : Exit → Act → World → Prop} {v : Value} (hrun : (execOp a.eval o).run Tryz.prog w = .ok (.value v) w) (h : K (a.put o.dst v) w) : o.wp Tryz.prog a w K Q := by
  unfold Oper.wp; rw [hrun]; exact h
theorem store_slR_wp {o : Oper} {a : Act} {w : World} {K : Act → World → Prop} {Q : Exit → Act → World → Prop} {x y : Operand} {p : Addr} {v0 : Value} {A : Option Addr} {n c : Nat} (ho : o.op = .store 22 x y) (hx : a.eval x = .pointer (some p)) (hy : a.eval y = .slice A n c) (hc : w.cell? p = some v0) (hf : w.frozen? p = false) (h : K (a.put o.dst undef) (w.setCell p (.slice A n c))) : o.wp Tryz.prog a w K Q := by
  unfold Oper.wp execOp
  simp only [ho, hx, hy]
  go_simp
  exact h
theorem own_setRowR {w : World} {base e sz n t : Nat} {v : Value} {xs : List Value} {cs cs' : Array Value} (h : w.ownsRow base e sz v n xs) {g : Nat} (hg : w.heap[g]? = some (.cells cs t (0, 0))) (hte : t ≠ e) : (w.setRow g cs').ownsRow base e sz v n xs := by
  refine ⟨h.1, ?_⟩
  rcases h.2 with hn | ⟨g', cap, cur, hv, hb, hg', rest⟩
  · exact .inl hn
  · refine .inr ⟨g', cap, cur, hv, hb, (setRow_other w g g' cs' (fun e' => ?_)).trans hg', rest⟩
    subst e'
    rw [hg'] at hg
    cases hg; exact hte rfl
theorem three_boxes (w : World) (x y z : Obj) : Below w.heap.size w (((w.alloc x).alloc y).alloc z) ∧ (((w.alloc x).alloc y).alloc z).heap[w.heap.size]? = some x ∧ (((w.alloc x).alloc y).alloc z).heap[w.heap.size + 1]? = some y ∧ (((w.alloc x).alloc y).alloc z).heap[w.heap.size + 2]? = some z ∧ w.heap.size + 2 < (((w.alloc x).alloc y).alloc z).heap.size := by
  have e1 : (w.alloc x).heap.size = w.heap.size + 1 := by simp
  have e2 : ((w.alloc x).alloc y).heap.size = w.heap.size + 2 := by simp
  refine ⟨(((Below.refl _ w).alloc (Nat.le_refl _) x).alloc (by omega) y).alloc (by omega) z, ?_, ?_, ?_, by simp⟩
  · exact (Below.heap_alloc _ _ _ (by omega)).trans ((Below.heap_alloc _ _ _ (by omega)).trans (World.alloc_heap_new w x))
  · refine (Below.heap_alloc _ _ _ (by omega)).trans ?_
    have := World.alloc_heap_new (w.alloc x) y
    rwa [e1] at this
  · have := World.alloc_heap_new ((w.alloc x).alloc y) z
    rwa [e2] at this
theorem range_hpR {W : World} {g : Nat} {cs : Array Value} {t : TypeId} {fr : Nat × Nat} (h : W.heap[g]? = some (.cells cs t fr)) : W.rangeAt g 0 cs.toList := fun j v hj => by
  rw [cell_of_row W g (0 + j) _ _ _ h, Nat.zero_add, ← Array.getElem?_toList]; exact hj
theorem v6a_szR (q : P6) (A : Option Addr) (c : Nat) (hs : q.src.length = 16) (hd : q.dst.length = 16) : (v6a q A c).size = 37 := by rw [v6a, List.size_toArray]; exact v6l_len hs hd
theorem v6a_set (q : P6) (A A' : Option Addr) (c c' : Nat) (hs : q.src.length = 16) (hd : q.dst.length = 16) : (v6a q A c).setIfInBounds 36 (.slice A' q.dat.length c') = v6a q A' c' := by
  apply Array.ext'
  rw [Array.toList_setIfInBounds]
  have hl : ∀ X Y, v6l q X Y = ([.int .i64 q.traffic, .int .i64 q.flow, .int .i64 q.next, .int .i64 q.hop] ++ row q.src ++ row q.dst) ++ [.slice X q.dat.length Y] := fun X Y => by simp [v6l]
  have hn : ([.int .i64 q.traffic, .int .i64 q.flow, .int .i64 q.next, .int .i64 q.hop] ++ row q.src ++ row q.dst : List Value).length = 36 := by simp [row_length, hs, hd]
  show (v6l q A c).set 36 _ = v6l q A' c'
  rw [hl, hl, List.set_append_right _ _ (by omega), hn]
  rfl
set_option maxRecDepth 100000 in
theorem run_build_wr {o : Oper} {a : Act} {w : World} {p h x y z : Operand} {s d b : List UInt8} {hop : Int} {q : P6} {A : Option Addr} {c : Nat} (ho : o.op = .build 38 #[(2, p), (3, h), (4, x), (5, y), (6, z)]) (hp : a.eval p = .int .i64 4) (hh : a.eval h = .int .i64 hop)
    (hx : a.eval x = .agg (cel s)) (hy : a.eval y = .agg (cel d)) (hz : a.eval z = .slice A b.length c) (hs : s.length = 16) (hd : d.length = 16) (hq : q = wrP s d hop b) :
    (execOp a.eval o).run Tryz.prog w = .ok (.value (v6v q A c)) w := by
  subst hq
  match s, hs, d, hd with
  | [s0, s1, s2, s3, s4, s5, s6, s7, s8, s9, s10, s11, s12, s13, s14, s15], _, [d0, d1, d2, d3, d4, d5, d6, d7, d8, d9, d10, d11, d12, d13, d14, d15], _ =>
    have e : (Array.map (fun y : Nat × Operand => (y.1, a.eval y.2)) #[(2, p), (3, h), (4, x), (5, y), (6, z)]) = #[(2, .int .i64 4), (3, .int .i64 hop), (4, .agg (cel [s0, s1, s2, s3, s4, s5, s6, s7, s8, s9, s10, s11, s12, s13, s14, s15])), (5, .agg (cel [d0, d1, d2, d3, d4, d5, d6, d7, d8, d9, d10, d11, d12, d13, d14, d15])), (6, .slice A b.length c)] := by simp [hp, hh, hx, hy, hz]
    have hb : (Instr.build 38 #[(2, .int .i64 4), (3, .int .i64 hop), (4, .agg (cel [s0, s1, s2, s3, s4, s5, s6, s7, s8, s9, s10, s11, s12, s13, s14, s15])), (5, .agg (cel [d0, d1, d2, d3, d4, d5, d6, d7, d8, d9, d10, d11, d12, d13, d14, d15])), (6, .slice A b.length c)]).run Tryz.prog w = .ok (v6v (wrP [s0, s1, s2, s3, s4, s5, s6, s7, s8, s9, s10, s11, s12, s13, s14, s15] [d0, d1, d2, d3, d4, d5, d6, d7, d8, d9, d10, d11, d12, d13, d14, d15] hop b) A c) w := by kernel_rfl
    unfold execOp
    simp only [ho, e, Sem.run_bind, hb]
    rfl
set_option maxHeartbeats 1000000 in
theorem cloneS_any (A : Option Addr) (bs : List UInt8) (c B : Nat) (w : World) (h : Arg w B A c bs) (hB : B ≤ w.heap.size) (hl : bs.length ≤ 1099511627776) :
    Calls Tryz.prog 86 #[.slice A bs.length c] w fun e w' => ∃ v, e = .returned v ∧ Made w w' v bs := by
  have q22 : ∀ (w : World) (a : Option Addr) (n c n' c' : Nat), (binOp .eql 22 (.slice a n c) (.slice none n' c')).run Tryz.prog w = .ok (.bool a.isNone) w := fun w a n c n' c' => Lib.run_eql_slice_nil w _ _ a n c n' c' Tryz.underlying22
  rcases A with _ | ad
  · have h0 : bs = [] := by
      rcases Nat.eq_zero_or_pos bs.length with e | e
      · exact List.eq_nil_of_length_eq_zero e
      · obtain ⟨_, _, e', _⟩ := h.rd e; cases e'
    subst h0
    go_enter Tryz.func86, Tryz.ntmps86
    go_wp2
    go_ret
    exact ⟨_, rfl, Made.nil _ _ (Below.refl _ _)⟩
  · have hr := h.rd
    have hn := h.none_
    go_enter Tryz.func86, Tryz.ntmps86
    go_wp2_with (at_builtin; refine append_rd rfl _ _ rfl w.heap.size _ _ _ rfl (World.ownsRow_made w #[] 0 (Nat.le_refl _) (Nat.zero_le _) rfl) B (some ad) c bs rfl hn (hr.alloc hB _) (by omega) (by simp) ?_; intro v' w1 hown hgrow)
    go_ret
    refine ⟨_, rfl, Made.of_own (by simpa using hown) (((Below.refl _ w).alloc (Nat.le_refl _) _).grown hgrow (by simp) (fun k hk => own_block_ge (World.ownsRow_made (base := w.heap.size) (e := 5) (size := 1) w #[] 0 (Nat.le_refl _) (Nat.zero_le _) rfl) k hk))⟩
theorem v4q_eqR (q : P4) (A : Option Addr) (c : Nat) (A' : Option Addr) (c' : Nat) : v4v q A c A' c' = .agg (v4a q A c A' c') := rfl
theorem At4.of_heapR {W : World} {g : Nat} {q : P4} {A : Option Addr} {c : Nat} {A' : Option Addr} {c' : Nat} {t : TypeId} {fr : Nat × Nat} (h : W.heap[g]? = some (.cells (v4a q A c A' c') t fr)) : At4 W g q A c A' c' := ofhE h
set_option maxRecDepth 100000 in
set_option maxHeartbeats 4000000 in
theorem cWwrap (s d : List UInt8) (hop : Int) (b : List UInt8) (A : Option Addr) (c B : Nat) (w : World) (hs : s.length = 16) (hd : d.length = 16) (hD : Arg w B A c b) (hB : B ≤ w.heap.size) (hl : b.length ≤ 1000000) :
    Calls Tryz.prog 89 #[.agg (cel s), .agg (cel d), .int .i64 hop, .slice A b.length c] w fun e w' => ∃ P p, e = .returned (.tuple #[v6v (wrV s d hop b) P p, .int .i64 (chk6 (wrP s d hop b))]) ∧ Made w w' (.slice P (wrV s d hop b).dat.length p) (wrV s d hop b).dat := by
  obtain ⟨q, hq⟩ : ∃ q, q = wrP s d hop b := ⟨_, rfl⟩
  have hqs : q.src.length = 16 := by rw [hq]; exact hs
  have hqd : q.dst.length = 16 := by rw [hq]; exact hd
  have hqb : q.dat = b := by rw [hq]; rfl
  have HW : Hid (wrV s d hop b = if chk6 q = 0 then q else p6z) := Lib.hid (by rw [hq]; rfl)
  have HQ := Lib.hid hq
  have HQB := Lib.hid hqb
  rw [← hq]
  obtain ⟨E, hE⟩ : ∃ x, x = chk6 q := ⟨_, rfl⟩
  have HE := Lib.hid hE
  rw [← hE]
  have HQL : Hid (q.dat.length ≤ 1000000) := Lib.hid (by rw [hqb]; exact hl)
  have HQS := Lib.hid hqs
  have HQD := Lib.hid hqd
  clear hq hE hqb hqs hqd
  go_enter Tryz.func89, Tryz.ntmps89
  go_upto_region 1 with fail
  rw [show #[.int .i64 0, .int .i64 0, .int .i64 0, .int .i64 0, .int .u8 0, .int .u8 0, .int .u8 0, .int .u8 0, .int .u8 0, .int .u8 0, .int .u8 0, .int .u8 0, .int .u8 0, .int .u8 0, .int .u8 0, .int .u8 0, .int .u8 0, .int .u8 0, .int .u8 0, .int .u8 0, .int .u8 0, .int .u8 0, .int .u8 0, .int .u8 0, .int .u8 0, .int .u8 0, .int .u8 0, .int .u8 0, .int .u8 0, .int .u8 0, .int .u8 0, .int .u8 0, .int .u8 0, .int .u8 0, .int .u8 0, .int .u8 0, .slice none 0 0] = v6a p6z none 0 from rfl]
  obtain ⟨hB3, k1, k2, k3, z3⟩ := three_boxes w (.cells (cel s) 25) (.cells (cel d) 25) (.cells (v6a p6z none 0) 38)
  generalize ((w.alloc (.cells (cel s) 25)).alloc (.cells (cel d) 25)).alloc (.cells (v6a p6z none 0) 38) = W at *
  have rS : W.rangeAt w.heap.size 0 (row s) := range_hpR k1
  have rD : W.rangeAt (w.heap.size + 1) 0 (row d) := range_hpR k2
  have zS : w.heap.size < W.heap.size := by omega
  have zD : w.heap.size + 1 < W.heap.size := by omega
  have hDW := hD.below (hB3.mono hB)
  have hBW := Nat.le_trans hB hB3.size
  go_upto_region 2 with (first
    | ((with_reducible show wpList _ _ _ (Oper.mk (some 13) (Op.load 25 _) _ _ _ _ :: _) _ _); refine wpList_val rfl (run_load_six rfl rfl rS hs) ?_)
    | ((with_reducible show wpList _ _ _ (Oper.mk (some 14) (Op.load 25 _) _ _ _ _ :: _) _ _); refine wpList_val rfl (run_load_six rfl rfl rD hd) ?_)
    | ((with_reducible show wpList _ _ _ (Oper.mk _ (Op.build 38 _) _ _ _ _ :: _) _ _); refine wpList_val rfl (run_build_wr (A := A) (c := c) rfl rfl rfl rfl rfl rfl hs hd HQ.out) ?_)
    | ((with_reducible show wpList _ _ _ (Oper.mk _ (Op.store 38 _ _) _ _ _ _ :: _) _ _); refine v6_store_new (cs := v6a q A c) rfl rfl rfl (by rw [v6a_szR _ _ _ HQS.out HQD.out]) (v6a_one _ _ _) ?_))
  have kq := World.alloc_heap_new W (.cells (v6a q A c) 38)
  have j4 : Below W.heap.size W (W.alloc (.cells (v6a q A c) 38)) := (Below.refl _ W).alloc (Nat.le_refl _) _
  have z4 := heap_lt kq
  generalize W.alloc (.cells (v6a q A c) 38) = X at *
  have at4 : At6 X W.heap.size q A c := range_hpR kq
  go_upto_region 3 with (first
    | ((with_reducible show wpList _ _ _ (Oper.mk _ (Op.load 38 _) _ _ _ _ :: _) _ _); refine wpList_val rfl (run_load_v6 rfl rfl at4 (v6l_len HQS.out HQD.out)) ?_)
    | (go_at_call 34; refine (c6check q A c _ HQS.out HQD.out HQL.out).mono ?_; rintro e w5 ⟨rfl, x5⟩; rw [← HE.out]))
  have kq5 := (x5.block W.heap.size z4).trans kq
  have j5 : Below W.heap.size W w5 := j4.trans (x5.mono j4.size)
  have k35 := (j5.block (w.heap.size + 2) z3).trans k3
  have b5 := hB3.trans (j5.mono hB3.size)
  have z5 := Nat.lt_of_lt_of_le z4 x5.size
  clear at4 kq j4 x5 rS rD k1 k2 k3
  by_cases h0 : E = 0
  · have dE : (E != 0) = false := by simp [h0]
    have HV : Hid (wrV s d hop b = q) := Lib.hid (by rw [HW.out, ← HE.out, if_pos h0])
    have H0 := Lib.hid h0
    clear h0
    go_upto_region 6 with (go_at_call 86; refine (cloneS_any A b c B _ (hD.below (b5.mono hB)) (Nat.le_trans hB b5.size) (by omega)).mono ?_; rintro e w6 ⟨v6, rfl, m6⟩; obtain ⟨P, p, rfl, g6, o6, y6⟩ := made_shape m6; have kq6 := (y6.block W.heap.size z5).trans kq5; have k36 : w6.cell? ⟨W.heap.size, 36, none⟩ = some (.slice A q.dat.length c) := At6.dat (range_hpR kq6) HQS.out HQD.out; have f36 := heap_frozen kq6 36)
    have kq7 := heap_setCell_same w6 W.heap.size 36 _ _ (.slice P b.length p) kq6
    rw [← HQB.out, v6a_set _ _ _ _ _ HQS.out HQD.out] at kq7
    have k37 := (heap_setCell_other w6 ⟨W.heap.size, 36, none⟩ (w.heap.size + 2) (.slice P q.dat.length p) (by show w.heap.size + 2 ≠ W.heap.size; omega)).trans ((y6.block _ (Nat.lt_of_lt_of_le z3 j5.size)).trans k35)
    have o7 := own_setCell o6 (p := ⟨W.heap.size, 36, none⟩) (u := .slice P q.dat.length p) z5
    have b7 := (b5.trans (y6.mono b5.size)).setCell (p := ⟨W.heap.size, 36, none⟩) (by show w.heap.size ≤ W.heap.size; omega) (.slice P q.dat.length p)
    rw [← HQB.out] at o7
    rw [← HQB.out]
    clear k36 f36 kq6 kq5 g6 m6
    generalize w6.setCell ⟨W.heap.size, 36, none⟩ (.slice P q.dat.length p) = w7 at *
    have at7 : At6 w7 W.heap.size q P p := range_hpR kq7
    go_wp2_with (first
      | ((with_reducible show wpList _ _ _ (Oper.mk _ (Op.load 38 _) _ _ _ _ :: _) _ _); refine wpList_val rfl (run_load_v6 rfl rfl at7 (v6l_len HQS.out HQD.out)) ?_)
      | ((with_reducible show wpList _ _ _ (Oper.mk _ (Op.store 38 _ _) _ _ _ _ :: _) _ _); refine v6_store (g := w.heap.size + 2) (cs := v6a q P p) rfl rfl k37 rfl (by rw [v6a_szR _ _ _ HQS.out HQD.out]) (v6a_one _ _ _) ?_))
    have oR := own_setRow o7 (g := w.heap.size + 2) (cs := v6a q P p) (by have := j5.size; omega)
    exact bodyPost_ret (res2 rfl rfl (run_loadVar_row _ _ _ 38 (v6a q P p) _ _ (setRow_heap _ _ _ _ _ _ k37) Tryz.underlying38 rfl (by rw [v6a_szR _ _ _ HQS.out HQD.out]; kernel_rfl))) rfl ⟨P, p, by rw [HQB.out, HV.out, H0.out]; rfl, by rw [HV.out]; exact Made.of_own (own_base oR b5.size) (below_row b7 (by omega))⟩
  · have dE : (E != 0) = true := by simp [h0]
    have HV : Hid (wrV s d hop b = p6z) := Lib.hid (by rw [HW.out, ← HE.out, if_neg h0])
    clear h0
    go_wp2_with (first | ((with_reducible show wpList _ _ _ (Oper.mk _ (Op.store 38 _ _) _ _ _ _ :: _) _ _); refine v6_store (g := w.heap.size + 2) (cs := v6a p6z none 0) rfl rfl k35 rfl rfl (v6a_one _ _ _) ?_))
    exact bodyPost_ret (res2 rfl rfl (run_loadVar_row _ _ _ 38 (v6a p6z none 0) _ _ (setRow_heap _ _ _ _ _ _ k35) Tryz.underlying38 rfl (by kernel_rfl))) rfl ⟨none, 0, by rw [HV.out]; rfl, by rw [HV.out]; exact Made.nil _ _ (below_row b5 (by omega))⟩
set_option maxRecDepth 100000 in
set_option maxHeartbeats 4000000 in
theorem cWhop (q0 : P4) (A : Option Addr) (c : Nat) (A' : Option Addr) (c' : Nat) (w : World) (ho : q0.opt.length ≤ 1000000) (hl : q0.dat.length ≤ 900000) (hf : (Lit.int .i64 q0.ttl).wf = true) (B : Nat) (hO : Arg w B A c q0.opt) (hD : Arg w B A' c' q0.dat) (hB0 : B ≤ w.heap.size) :
    Calls Tryz.prog 56 #[v4v q0 A c A' c'] w fun e w' => ∃ P p P' p', e = .returned (.tuple #[v4v (hpV q0) P p P' p', .bool (hpB q0)]) ∧ Made w w' (.slice P (hpV q0).opt.length p) (hpV q0).opt ∧ Made w w' (.slice P' (hpV q0).dat.length p') (hpV q0).dat := by
  have hB : Below w.heap.size w ((w.alloc (.cells (v4a q0 A c A' c') 46)).alloc (.cells (v4a p4z none 0 none 0) 46)) := below_two w _ _
  have hP0 : ((w.alloc (.cells (v4a q0 A c A' c') 46)).alloc (.cells (v4a p4z none 0 none 0) 46)).heap[w.heap.size]? = some (.cells (v4a q0 A c A' c') 46 (0, 0)) := (Below.heap_alloc (w.alloc (.cells (v4a q0 A c A' c') 46)) _ w.heap.size (by simp)).trans (World.alloc_heap_new w _)
  have hR0 : ((w.alloc (.cells (v4a q0 A c A' c') 46)).alloc (.cells (v4a p4z none 0 none 0) 46)).heap[w.heap.size + 1]? = some (.cells (v4a p4z none 0 none 0) 46 (0, 0)) := by
    have := World.alloc_heap_new (w.alloc (.cells (v4a q0 A c A' c') 46)) (.cells (v4a p4z none 0 none 0) 46)
    rwa [World.size_alloc] at this
  rw [v4q_eqR]
  have hbd : -9223372036854775808 ≤ q0.ttl ∧ q0.ttl ≤ 9223372036854775807 := by
    have := hf
    simp [Lit.wf] at this
    have e1 : IntKind.i64.min = -9223372036854775808 := by decide
    have e2 : IntKind.i64.max = 9223372036854775807 := by decide
    omega
  go_enter Tryz.func56, Tryz.ntmps56
  go_upto_region 1 with fail
  rw [show #[.int .i64 0, .int .i64 0, .int .i64 0, .int .i64 0, .int .i64 0, .int .i64 0, .int .i64 0, .bool false, .bool false, .slice none 0 0, .slice none 0 0] = v4a p4z none 0 none 0 from rfl]
  generalize (w.alloc (.cells (v4a q0 A c A' c') 46)).alloc (.cells (v4a p4z none 0 none 0) 46) = W at *
  have zR := heap_lt hR0
  have k3 := (At4.of_heapR hP0).ttl
  have f3 := heap_frozen hP0 3
  by_cases h1 : q0.ttl ≤ 1
  · have d1 : decide (q0.ttl ≤ 1) = true := by simpa using h1
    have HV : Hid (hpV q0 = p4z) := Lib.hid (by rw [hpV, if_neg (by omega)])
    have HBB : Hid (hpB q0 = false) := Lib.hid (by rw [hpB]; simp; omega)
    clear h1
    go_wp2_with (first | ((with_reducible show wpList _ _ _ (Oper.mk _ (Op.store 46 _ _) _ _ _ _ :: _) _ _); refine v4_store (g := w.heap.size + 1) (cs := v4a p4z none 0 none 0) rfl rfl hR0 rfl rfl (v4a_one _ _ _ _ _) ?_))
    exact bodyPost_ret (res2 rfl rfl (run_loadVar_row _ _ _ 46 (v4a p4z none 0 none 0) _ _ (setRow_heap _ _ _ _ _ _ hR0) Tryz.underlying46 rfl (by kernel_rfl))) rfl ⟨none, 0, none, 0, by rw [HV.out, HBB.out]; rfl, by rw [HV.out]; exact Made.nil _ _ (below_row hB (by omega)), by rw [HV.out]; exact Made.nil _ _ (below_row hB (by omega))⟩
  · have d1 : decide (q0.ttl ≤ 1) = false := by simpa using h1
    obtain ⟨q, hq⟩ : ∃ q : P4, q = { q0 with ttl := q0.ttl - 1 } := ⟨_, rfl⟩
    have HV : Hid (hpV q0 = q) := Lib.hid (by rw [hpV, if_pos (by omega), hq])
    have HBB : Hid (hpB q0 = true) := Lib.hid (by rw [hpB]; simp; omega)
    have ho : q.opt.length ≤ 1000000 := by rw [hq]; exact ho
    have hl : q.dat.length ≤ 900000 := by rw [hq]; exact hl
    have hO : Arg w B A c q.opt := by rw [hq]; exact hO
    have hD : Arg w B A' c' q.dat := by rw [hq]; exact hD
    go_upto_region 4 with fail
    have hP1 := heap_setCell_same W w.heap.size 3 _ _ (.int .i64 (q0.ttl - 1)) hP0
    have hP1 : (W.setCell ⟨w.heap.size, 3, none⟩ (.int .i64 (q0.ttl - 1))).heap[w.heap.size]? = some (.cells (v4a q A c A' c') 46 (0, 0)) := by rw [hq]; exact hP1
    have hR1 := (heap_setCell_other W ⟨w.heap.size, 3, none⟩ (w.heap.size + 1) (.int .i64 (q0.ttl - 1)) (by show w.heap.size + 1 ≠ w.heap.size; omega)).trans hR0
    have hB1 := hB.setCell (p := ⟨w.heap.size, 3, none⟩) (Nat.le_refl _) (.int .i64 (q0.ttl - 1))
    clear k3 f3 hP0 hR0 hB zR hq
    generalize W.setCell ⟨w.heap.size, 3, none⟩ (.int .i64 (q0.ttl - 1)) = W at *
    have hP0 := hP1
    have hR0 := hR1
    have hB := hB1
    clear hP1 hR1 hB1 h1 hbd hf
    have hO1 := hO.below (hB.mono hB0)
    have hD1 := hD.below (hB.mono hB0)
    have zW := Nat.le_trans hB0 hB.size
    have zP := heap_lt hP0
    have zR := heap_lt hR0
    have kO0 := (At4.of_heapR hP0).opt
    have kD0 := (At4.of_heapR hP0).dat
    refine wp_region_held_drew (S := fun _ => True) (by kernel_rfl) trivial (fun hS => ?_)
    refine held_pure (i := 0) (oi := ⟨some 12, _, _, _, _, _⟩) rfl (by kernel_rfl) (by kernel_rfl) (by kernel_rfl) (fun _ _ _ h => h) (by rfl) (v := ?_) (fun w hSw => ?_) hS (fun hS => ?_)
    rotate_left
    · go_simp; try with_reducible rfl
    try go_frame
    refine held_pure (i := 3) (oi := ⟨some 15, _, _, _, _, _⟩) rfl (by kernel_rfl) (by kernel_rfl) (by kernel_rfl) (fun _ _ _ h => h) (by rfl) (v := ?_) (fun w hSw => ?_) hS (fun hS => ?_)
    rotate_left
    · go_simp; try with_reducible rfl
    try go_frame
    refine wpAnyH_ready (rs := [1, 4]) (by kernel_rfl) (by simp) (AllReadyH.cons (o := ⟨some 13, _, _, _, _, _⟩) rfl (fun K hK => ?_) (AllReadyH.cons (o := ⟨some 16, _, _, _, _, _⟩) rfl (fun K hK => ?_) AllReadyH.nil))
    · rw [if_pos (by rfl)]
      refine wp_valR (v := .slice A q.opt.length c) (by first | exact run_load_sl rfl rfl kO0) ?_
      refine hK.out _ _ trivial (fun hS => ?_)
      clear hK K
      try go_frame
      refine wpAnyH_ready (rs := [2, 4]) (by kernel_rfl) (by simp) (AllReadyH.cons (o := ⟨some 14, _, _, _, _, _⟩) rfl (fun K hK => ?_) (AllReadyH.cons (o := ⟨some 16, _, _, _, _, _⟩) rfl (fun K hK => ?_) AllReadyH.nil))
      · rw [if_pos (by rfl)]
        go_simp
        refine (cloneS_any A q.opt c B _ (hO1.below (Below.refl _ W).drew) zW (by omega)).mono ?_
        rintro e w2 ⟨v2, rfl, m2⟩
        obtain ⟨O, o, rfl, g2, o2, y2⟩ := made_shape m2
        clear m2 g2
        have o2 : w2.ownsRow W.heap.size 5 1 (.slice O q.opt.length o) q.opt.length (row q.opt) := o2
        have x2 : Below W.heap.size W w2 := (Below.refl _ W).drew.trans y2
        have hP2 := (x2.block w.heap.size zP).trans hP0
        have hR2 := (x2.block (w.heap.size + 1) zR).trans hR0
        have kD2 := (At4.of_heapR hP2).dat
        have hD2 := hD1.below (x2.mono zW)
        have hgO : ∀ g, O = some ⟨g, 0, none⟩ → 0 < q.opt.length → g < w2.heap.size := fun g e hl => by { subst e; exact (own_cellR o2 (i := 0) hl).2 }
        show K _ _
        refine hK.out _ _ trivial (fun hS => ?_)
        clear hK K
        try go_frame
        refine wpAnyH_ready (rs := [4]) (by kernel_rfl) (by simp) (AllReadyH.cons (o := ⟨some 16, _, _, _, _, _⟩) rfl (fun K hK => ?_) AllReadyH.nil)
        rw [if_pos (by rfl)]
        refine wp_valR (v := .slice A' q.dat.length c') (by first | exact run_load_sl rfl rfl kD0 | exact run_load_sl rfl rfl kD2) ?_
        refine hK.out _ _ trivial (fun hS => ?_)
        clear hK K
        try go_frame
        refine held_pure (i := 6) (oi := ⟨some 18, _, _, _, _, _⟩) rfl (by kernel_rfl) (by kernel_rfl) (by kernel_rfl) (fun _ _ _ h => h) (by rfl) (v := ?_) (fun w hSw => ?_) hS (fun hS => ?_)
        rotate_left
        · go_simp; try with_reducible rfl
        try go_frame
        refine wpAnyH_ready (rs := [5]) (by kernel_rfl) (by simp) (AllReadyH.cons (o := ⟨some 17, _, _, _, _, _⟩) rfl (fun K hK => ?_) AllReadyH.nil)
        rw [if_pos (by rfl)]
        go_simp
        refine (cloneS_any A' q.dat c' B _ hD2 (Nat.le_trans zW x2.size) (by omega)).mono ?_
        rintro e w3 ⟨v3, rfl, m3⟩
        obtain ⟨D, d, rfl, g3, o3, y3⟩ := made_shape m3
        clear m3 g3
        have hP3 := (y3.block w.heap.size (heap_lt hP2)).trans hP2
        have hR3 := (y3.block (w.heap.size + 1) (heap_lt hR2)).trans hR2
        have oO3 := own_below o2 y3
        have kO3 := (At4.of_heapR hP3).opt
        have fO3 := heap_frozen hP3 9
        have x3 := x2.trans (y3.mono x2.size)
        have zx2 := x2.size
        show K _ _
        refine hK.out _ _ trivial (fun hS => ?_)
        clear hK K
        try go_frame
        refine wpAnyH_ready (rs := [7]) (by kernel_rfl) (by simp) (AllReadyH.cons (o := ⟨none, _, _, _, _, _⟩) rfl (fun K hK => ?_) AllReadyH.nil)
        rw [if_pos (by rfl)]
        refine store_slR_wp rfl rfl rfl kO3 fO3 ?_
        have hP4 : (w3.setCell ⟨w.heap.size, 9, none⟩ (.slice O q.opt.length o)).heap[w.heap.size]? = some (.cells (v4a q O o A' c') 46 (0, 0)) := heap_setCell_same w3 w.heap.size 9 _ _ (.slice O q.opt.length o) hP3
        have hR4 := (heap_setCell_other w3 ⟨w.heap.size, 9, none⟩ (w.heap.size + 1) (.slice O q.opt.length o) (by show w.heap.size + 1 ≠ w.heap.size; omega)).trans hR3
        have kD4 := (At4.of_heapR hP4).dat
        have fD4 := heap_frozen hP4 10
        have oO4 := own_setCell oO3 (p := ⟨w.heap.size, 9, none⟩) (u := .slice O q.opt.length o) zP
        have oD4 := own_setCell o3 (p := ⟨w.heap.size, 9, none⟩) (u := .slice O q.opt.length o) (Nat.lt_of_lt_of_le zP zx2)
        have b4 := (hB.trans (x3.mono hB.size)).setCell (p := ⟨w.heap.size, 9, none⟩) (Nat.le_refl _) (.slice O q.opt.length o)
        clear hP2 hR2 kD2 hD2 hP3 hR3 oO3 kO3 fO3 o2 o3 y2 y3
        generalize w3.setCell ⟨w.heap.size, 9, none⟩ (.slice O q.opt.length o) = V4 at *
        refine hK.out _ _ trivial (fun hS => ?_)
        clear hK K
        try go_frame
        refine held_pure (i := 8) (oi := ⟨some 19, _, _, _, _, _⟩) rfl (by kernel_rfl) (by kernel_rfl) (by kernel_rfl) (fun _ _ _ h => h) (by rfl) (v := ?_) (fun w hSw => ?_) hS (fun hS => ?_)
        rotate_left
        · go_simp; try with_reducible rfl
        try go_frame
        refine wpAnyH_ready (rs := [9]) (by kernel_rfl) (by simp) (AllReadyH.cons (o := ⟨none, _, _, _, _, _⟩) rfl (fun K hK => ?_) AllReadyH.nil)
        rw [if_pos (by rfl)]
        refine store_slR_wp rfl rfl rfl kD4 fD4 ?_
        have hP : (V4.setCell ⟨w.heap.size, 10, none⟩ (.slice D q.dat.length d)).heap[w.heap.size]? = some (.cells (v4a q O o D d) 46 (0, 0)) := heap_setCell_same V4 w.heap.size 10 _ _ (.slice D q.dat.length d) hP4
        have hR := (heap_setCell_other V4 ⟨w.heap.size, 10, none⟩ (w.heap.size + 1) (.slice D q.dat.length d) (by show w.heap.size + 1 ≠ w.heap.size; omega)).trans hR4
        have oO := own_setCell oO4 (p := ⟨w.heap.size, 10, none⟩) (u := .slice D q.dat.length d) zP
        have oD := own_setCell oD4 (p := ⟨w.heap.size, 10, none⟩) (u := .slice D q.dat.length d) (Nat.lt_of_lt_of_le zP zx2)
        have bV := b4.setCell (p := ⟨w.heap.size, 10, none⟩) (Nat.le_refl _) (.slice D q.dat.length d)
        clear hP4 hR4 kD4 fD4 oO4 oD4 b4 hP0 hR0 hO1 hD1 kO0 kD0 x2 x3
        generalize V4.setCell ⟨w.heap.size, 10, none⟩ (.slice D q.dat.length d) = V at *
        have hat := At4.of_heapR hP
        have gO := arg_own oO
        have gD := arg_own oD
        refine hK.out _ _ trivial (fun hS => ?_)
        clear hK K
        try go_frame
        refine wpAnyH_done (by kernel_rfl) ?_ _
        go_wp2_with (first
          | ((with_reducible show wpList _ _ _ (Oper.mk _ (Op.load 46 _) _ _ _ _ :: _) _ _); refine wpList_val rfl (run_load_v4 rfl rfl hat rfl) ?_)
          | ((with_reducible show wpList _ _ _ (Oper.mk _ (Op.store 46 _ _) _ _ _ _ :: _) _ _); refine v4_store (g := w.heap.size + 1) (cs := v4a q O o D d) rfl rfl hR rfl rfl (v4a_one _ _ _ _ _) ?_))
        have oO7 := own_setRow oO (g := w.heap.size + 1) (cs := v4a q O o D d) (by omega)
        have oD7 := own_setRow oD (g := w.heap.size + 1) (cs := v4a q O o D d) (by omega)
        have b7 := below_row bV (g := w.heap.size + 1) (cs := v4a q O o D d) (by omega)
        exact bodyPost_ret (res2 rfl rfl (run_loadVar_row _ _ _ 46 (v4a q O o D d) _ _ (setRow_heap _ _ _ _ _ _ hR) Tryz.underlying46 rfl (by kernel_rfl))) rfl ⟨O, o, D, d, by rw [HV.out, HBB.out]; rfl, by rw [HV.out]; exact Made.of_own (own_base oO7 (by omega)) b7, by rw [HV.out]; exact Made.of_own (own_base oD7 (by omega)) b7⟩
      · rw [if_pos (by rfl)]
        refine wp_valR (v := .slice A' q.dat.length c') (by first | exact run_load_sl rfl rfl kD0 | exact run_load_sl rfl rfl kD2) ?_
        refine hK.out _ _ trivial (fun hS => ?_)
        clear hK K
        try go_frame
        refine wpAnyH_ready (rs := [2]) (by kernel_rfl) (by simp) (AllReadyH.cons (o := ⟨some 14, _, _, _, _, _⟩) rfl (fun K hK => ?_) AllReadyH.nil)
        rw [if_pos (by rfl)]
        go_simp
        refine (cloneS_any A q.opt c B _ (hO1.below (Below.refl _ W).drew) zW (by omega)).mono ?_
        rintro e w2 ⟨v2, rfl, m2⟩
        obtain ⟨O, o, rfl, g2, o2, y2⟩ := made_shape m2
        clear m2 g2
        have o2 : w2.ownsRow W.heap.size 5 1 (.slice O q.opt.length o) q.opt.length (row q.opt) := o2
        have x2 : Below W.heap.size W w2 := (Below.refl _ W).drew.trans y2
        have hP2 := (x2.block w.heap.size zP).trans hP0
        have hR2 := (x2.block (w.heap.size + 1) zR).trans hR0
        have kD2 := (At4.of_heapR hP2).dat
        have hD2 := hD1.below (x2.mono zW)
        have hgO : ∀ g, O = some ⟨g, 0, none⟩ → 0 < q.opt.length → g < w2.heap.size := fun g e hl => by { subst e; exact (own_cellR o2 (i := 0) hl).2 }
        show K _ _
        refine hK.out _ _ trivial (fun hS => ?_)
        clear hK K
        try go_frame
        refine held_pure (i := 6) (oi := ⟨some 18, _, _, _, _, _⟩) rfl (by kernel_rfl) (by kernel_rfl) (by kernel_rfl) (fun _ _ _ h => h) (by rfl) (v := ?_) (fun w hSw => ?_) hS (fun hS => ?_)
        rotate_left
        · go_simp; try with_reducible rfl
        try go_frame
        refine wpAnyH_ready (rs := [5]) (by kernel_rfl) (by simp) (AllReadyH.cons (o := ⟨some 17, _, _, _, _, _⟩) rfl (fun K hK => ?_) AllReadyH.nil)
        rw [if_pos (by rfl)]
        go_simp
        refine (cloneS_any A' q.dat c' B _ hD2 (Nat.le_trans zW x2.size) (by omega)).mono ?_
        rintro e w3 ⟨v3, rfl, m3⟩
        obtain ⟨D, d, rfl, g3, o3, y3⟩ := made_shape m3
        clear m3 g3
        have hP3 := (y3.block w.heap.size (heap_lt hP2)).trans hP2
        have hR3 := (y3.block (w.heap.size + 1) (heap_lt hR2)).trans hR2
        have oO3 := own_below o2 y3
        have kO3 := (At4.of_heapR hP3).opt
        have fO3 := heap_frozen hP3 9
        have x3 := x2.trans (y3.mono x2.size)
        have zx2 := x2.size
        show K _ _
        refine hK.out _ _ trivial (fun hS => ?_)
        clear hK K
        try go_frame
        refine wpAnyH_ready (rs := [7]) (by kernel_rfl) (by simp) (AllReadyH.cons (o := ⟨none, _, _, _, _, _⟩) rfl (fun K hK => ?_) AllReadyH.nil)
        rw [if_pos (by rfl)]
        refine store_slR_wp rfl rfl rfl kO3 fO3 ?_
        have hP4 : (w3.setCell ⟨w.heap.size, 9, none⟩ (.slice O q.opt.length o)).heap[w.heap.size]? = some (.cells (v4a q O o A' c') 46 (0, 0)) := heap_setCell_same w3 w.heap.size 9 _ _ (.slice O q.opt.length o) hP3
        have hR4 := (heap_setCell_other w3 ⟨w.heap.size, 9, none⟩ (w.heap.size + 1) (.slice O q.opt.length o) (by show w.heap.size + 1 ≠ w.heap.size; omega)).trans hR3
        have kD4 := (At4.of_heapR hP4).dat
        have fD4 := heap_frozen hP4 10
        have oO4 := own_setCell oO3 (p := ⟨w.heap.size, 9, none⟩) (u := .slice O q.opt.length o) zP
        have oD4 := own_setCell o3 (p := ⟨w.heap.size, 9, none⟩) (u := .slice O q.opt.length o) (Nat.lt_of_lt_of_le zP zx2)
        have b4 := (hB.trans (x3.mono hB.size)).setCell (p := ⟨w.heap.size, 9, none⟩) (Nat.le_refl _) (.slice O q.opt.length o)
        clear hP2 hR2 kD2 hD2 hP3 hR3 oO3 kO3 fO3 o2 o3 y2 y3
        generalize w3.setCell ⟨w.heap.size, 9, none⟩ (.slice O q.opt.length o) = V4 at *
        refine hK.out _ _ trivial (fun hS => ?_)
        clear hK K
        try go_frame
        refine held_pure (i := 8) (oi := ⟨some 19, _, _, _, _, _⟩) rfl (by kernel_rfl) (by kernel_rfl) (by kernel_rfl) (fun _ _ _ h => h) (by rfl) (v := ?_) (fun w hSw => ?_) hS (fun hS => ?_)
        rotate_left
        · go_simp; try with_reducible rfl
        try go_frame
        refine wpAnyH_ready (rs := [9]) (by kernel_rfl) (by simp) (AllReadyH.cons (o := ⟨none, _, _, _, _, _⟩) rfl (fun K hK => ?_) AllReadyH.nil)
        rw [if_pos (by rfl)]
        refine store_slR_wp rfl rfl rfl kD4 fD4 ?_
        have hP : (V4.setCell ⟨w.heap.size, 10, none⟩ (.slice D q.dat.length d)).heap[w.heap.size]? = some (.cells (v4a q O o D d) 46 (0, 0)) := heap_setCell_same V4 w.heap.size 10 _ _ (.slice D q.dat.length d) hP4
        have hR := (heap_setCell_other V4 ⟨w.heap.size, 10, none⟩ (w.heap.size + 1) (.slice D q.dat.length d) (by show w.heap.size + 1 ≠ w.heap.size; omega)).trans hR4
        have oO := own_setCell oO4 (p := ⟨w.heap.size, 10, none⟩) (u := .slice D q.dat.length d) zP
        have oD := own_setCell oD4 (p := ⟨w.heap.size, 10, none⟩) (u := .slice D q.dat.length d) (Nat.lt_of_lt_of_le zP zx2)
        have bV := b4.setCell (p := ⟨w.heap.size, 10, none⟩) (Nat.le_refl _) (.slice D q.dat.length d)
        clear hP4 hR4 kD4 fD4 oO4 oD4 b4 hP0 hR0 hO1 hD1 kO0 kD0 x2 x3
        generalize V4.setCell ⟨w.heap.size, 10, none⟩ (.slice D q.dat.length d) = V at *
        have hat := At4.of_heapR hP
        have gO := arg_own oO
        have gD := arg_own oD
        refine hK.out _ _ trivial (fun hS => ?_)
        clear hK K
        try go_frame
        refine wpAnyH_done (by kernel_rfl) ?_ _
        go_wp2_with (first
          | ((with_reducible show wpList _ _ _ (Oper.mk _ (Op.load 46 _) _ _ _ _ :: _) _ _); refine wpList_val rfl (run_load_v4 rfl rfl hat rfl) ?_)
          | ((with_reducible show wpList _ _ _ (Oper.mk _ (Op.store 46 _ _) _ _ _ _ :: _) _ _); refine v4_store (g := w.heap.size + 1) (cs := v4a q O o D d) rfl rfl hR rfl rfl (v4a_one _ _ _ _ _) ?_))
        have oO7 := own_setRow oO (g := w.heap.size + 1) (cs := v4a q O o D d) (by omega)
        have oD7 := own_setRow oD (g := w.heap.size + 1) (cs := v4a q O o D d) (by omega)
        have b7 := below_row bV (g := w.heap.size + 1) (cs := v4a q O o D d) (by omega)
        exact bodyPost_ret (res2 rfl rfl (run_loadVar_row _ _ _ 46 (v4a q O o D d) _ _ (setRow_heap _ _ _ _ _ _ hR) Tryz.underlying46 rfl (by kernel_rfl))) rfl ⟨O, o, D, d, by rw [HV.out, HBB.out]; rfl, by rw [HV.out]; exact Made.of_own (own_base oO7 (by omega)) b7, by rw [HV.out]; exact Made.of_own (own_base oD7 (by omega)) b7⟩
    · rw [if_pos (by rfl)]
      refine wp_valR (v := .slice A' q.dat.length c') (by first | exact run_load_sl rfl rfl kD0 | exact run_load_sl rfl rfl kD2) ?_
      refine hK.out _ _ trivial (fun hS => ?_)
      clear hK K
      try go_frame
      refine wpAnyH_ready (rs := [1]) (by kernel_rfl) (by simp) (AllReadyH.cons (o := ⟨some 13, _, _, _, _, _⟩) rfl (fun K hK => ?_) AllReadyH.nil)
      rw [if_pos (by rfl)]
      refine wp_valR (v := .slice A q.opt.length c) (by first | exact run_load_sl rfl rfl kO0) ?_
      refine hK.out _ _ trivial (fun hS => ?_)
      clear hK K
      try go_frame
      refine wpAnyH_ready (rs := [2]) (by kernel_rfl) (by simp) (AllReadyH.cons (o := ⟨some 14, _, _, _, _, _⟩) rfl (fun K hK => ?_) AllReadyH.nil)
      rw [if_pos (by rfl)]
      go_simp
      refine (cloneS_any A q.opt c B _ (hO1.below (Below.refl _ W).drew) zW (by omega)).mono ?_
      rintro e w2 ⟨v2, rfl, m2⟩
      obtain ⟨O, o, rfl, g2, o2, y2⟩ := made_shape m2
      clear m2 g2
      have o2 : w2.ownsRow W.heap.size 5 1 (.slice O q.opt.length o) q.opt.length (row q.opt) := o2
      have x2 : Below W.heap.size W w2 := (Below.refl _ W).drew.trans y2
      have hP2 := (x2.block w.heap.size zP).trans hP0
      have hR2 := (x2.block (w.heap.size + 1) zR).trans hR0
      have kD2 := (At4.of_heapR hP2).dat
      have hD2 := hD1.below (x2.mono zW)
      have hgO : ∀ g, O = some ⟨g, 0, none⟩ → 0 < q.opt.length → g < w2.heap.size := fun g e hl => by { subst e; exact (own_cellR o2 (i := 0) hl).2 }
      show K _ _
      refine hK.out _ _ trivial (fun hS => ?_)
      clear hK K
      try go_frame
      refine held_pure (i := 6) (oi := ⟨some 18, _, _, _, _, _⟩) rfl (by kernel_rfl) (by kernel_rfl) (by kernel_rfl) (fun _ _ _ h => h) (by rfl) (v := ?_) (fun w hSw => ?_) hS (fun hS => ?_)
      rotate_left
      · go_simp; try with_reducible rfl
      try go_frame
      refine wpAnyH_ready (rs := [5]) (by kernel_rfl) (by simp) (AllReadyH.cons (o := ⟨some 17, _, _, _, _, _⟩) rfl (fun K hK => ?_) AllReadyH.nil)
      rw [if_pos (by rfl)]
      go_simp
      refine (cloneS_any A' q.dat c' B _ hD2 (Nat.le_trans zW x2.size) (by omega)).mono ?_
      rintro e w3 ⟨v3, rfl, m3⟩
      obtain ⟨D, d, rfl, g3, o3, y3⟩ := made_shape m3
      clear m3 g3
      have hP3 := (y3.block w.heap.size (heap_lt hP2)).trans hP2
      have hR3 := (y3.block (w.heap.size + 1) (heap_lt hR2)).trans hR2
      have oO3 := own_below o2 y3
      have kO3 := (At4.of_heapR hP3).opt
      have fO3 := heap_frozen hP3 9
      have x3 := x2.trans (y3.mono x2.size)
      have zx2 := x2.size
      show K _ _
      refine hK.out _ _ trivial (fun hS => ?_)
      clear hK K
      try go_frame
      refine wpAnyH_ready (rs := [7]) (by kernel_rfl) (by simp) (AllReadyH.cons (o := ⟨none, _, _, _, _, _⟩) rfl (fun K hK => ?_) AllReadyH.nil)
      rw [if_pos (by rfl)]
      refine store_slR_wp rfl rfl rfl kO3 fO3 ?_
      have hP4 : (w3.setCell ⟨w.heap.size, 9, none⟩ (.slice O q.opt.length o)).heap[w.heap.size]? = some (.cells (v4a q O o A' c') 46 (0, 0)) := heap_setCell_same w3 w.heap.size 9 _ _ (.slice O q.opt.length o) hP3
      have hR4 := (heap_setCell_other w3 ⟨w.heap.size, 9, none⟩ (w.heap.size + 1) (.slice O q.opt.length o) (by show w.heap.size + 1 ≠ w.heap.size; omega)).trans hR3
      have kD4 := (At4.of_heapR hP4).dat
      have fD4 := heap_frozen hP4 10
      have oO4 := own_setCell oO3 (p := ⟨w.heap.size, 9, none⟩) (u := .slice O q.opt.length o) zP
      have oD4 := own_setCell o3 (p := ⟨w.heap.size, 9, none⟩) (u := .slice O q.opt.length o) (Nat.lt_of_lt_of_le zP zx2)
      have b4 := (hB.trans (x3.mono hB.size)).setCell (p := ⟨w.heap.size, 9, none⟩) (Nat.le_refl _) (.slice O q.opt.length o)
      clear hP2 hR2 kD2 hD2 hP3 hR3 oO3 kO3 fO3 o2 o3 y2 y3
      generalize w3.setCell ⟨w.heap.size, 9, none⟩ (.slice O q.opt.length o) = V4 at *
      refine hK.out _ _ trivial (fun hS => ?_)
      clear hK K
      try go_frame
      refine held_pure (i := 8) (oi := ⟨some 19, _, _, _, _, _⟩) rfl (by kernel_rfl) (by kernel_rfl) (by kernel_rfl) (fun _ _ _ h => h) (by rfl) (v := ?_) (fun w hSw => ?_) hS (fun hS => ?_)
      rotate_left
      · go_simp; try with_reducible rfl
      try go_frame
      refine wpAnyH_ready (rs := [9]) (by kernel_rfl) (by simp) (AllReadyH.cons (o := ⟨none, _, _, _, _, _⟩) rfl (fun K hK => ?_) AllReadyH.nil)
      rw [if_pos (by rfl)]
      refine store_slR_wp rfl rfl rfl kD4 fD4 ?_
      have hP : (V4.setCell ⟨w.heap.size, 10, none⟩ (.slice D q.dat.length d)).heap[w.heap.size]? = some (.cells (v4a q O o D d) 46 (0, 0)) := heap_setCell_same V4 w.heap.size 10 _ _ (.slice D q.dat.length d) hP4
      have hR := (heap_setCell_other V4 ⟨w.heap.size, 10, none⟩ (w.heap.size + 1) (.slice D q.dat.length d) (by show w.heap.size + 1 ≠ w.heap.size; omega)).trans hR4
      have oO := own_setCell oO4 (p := ⟨w.heap.size, 10, none⟩) (u := .slice D q.dat.length d) zP
      have oD := own_setCell oD4 (p := ⟨w.heap.size, 10, none⟩) (u := .slice D q.dat.length d) (Nat.lt_of_lt_of_le zP zx2)
      have bV := b4.setCell (p := ⟨w.heap.size, 10, none⟩) (Nat.le_refl _) (.slice D q.dat.length d)
      clear hP4 hR4 kD4 fD4 oO4 oD4 b4 hP0 hR0 hO1 hD1 kO0 kD0 x2 x3
      generalize V4.setCell ⟨w.heap.size, 10, none⟩ (.slice D q.dat.length d) = V at *
      have hat := At4.of_heapR hP
      have gO := arg_own oO
      have gD := arg_own oD
      refine hK.out _ _ trivial (fun hS => ?_)
      clear hK K
      try go_frame
      refine wpAnyH_done (by kernel_rfl) ?_ _
      go_wp2_with (first
        | ((with_reducible show wpList _ _ _ (Oper.mk _ (Op.load 46 _) _ _ _ _ :: _) _ _); refine wpList_val rfl (run_load_v4 rfl rfl hat rfl) ?_)
        | ((with_reducible show wpList _ _ _ (Oper.mk _ (Op.store 46 _ _) _ _ _ _ :: _) _ _); refine v4_store (g := w.heap.size + 1) (cs := v4a q O o D d) rfl rfl hR rfl rfl (v4a_one _ _ _ _ _) ?_))
      have oO7 := own_setRow oO (g := w.heap.size + 1) (cs := v4a q O o D d) (by omega)
      have oD7 := own_setRow oD (g := w.heap.size + 1) (cs := v4a q O o D d) (by omega)
      have b7 := below_row bV (g := w.heap.size + 1) (cs := v4a q O o D d) (by omega)
      exact bodyPost_ret (res2 rfl rfl (run_loadVar_row _ _ _ 46 (v4a q O o D d) _ _ (setRow_heap _ _ _ _ _ _ hR) Tryz.underlying46 rfl (by kernel_rfl))) rfl ⟨O, o, D, d, by rw [HV.out, HBB.out]; rfl, by rw [HV.out]; exact Made.of_own (own_base oO7 (by omega)) b7, by rw [HV.out]; exact Made.of_own (own_base oD7 (by omega)) b7⟩
end Go.Proofs.YtpoigngpdcmipaaGreat
namespace Go.Proofs.YtpoigngpdcmipaaGreat
open Go.RowKit
structure Pc where
  off : Int
  more : Bool
  b : List UInt8
  deriving DecidableEq
def Pc.len (p : Pc) : Int := (p.b.length : Int)
def Pc.stop (p : Pc) : Int := p.off + p.len
def endP : List Pc → Int
  | [] => -1
  | x :: l => if x.more then endP l else x.stop
def farP : List Pc → Int
  | [] => 0
  | x :: l => max x.stop (farP l)
def bytesP : List Pc → Int
  | [] => 0
  | x :: l => x.len + bytesP l
def badP (p : Pc) : Prop := p.off < 0 ∨ (p.more = true ∧ (p.len = 0 ∨ p.len % 8 ≠ 0))
instance (p : Pc) : Decidable (badP p) := by unfold badP; exact inferInstance
def lateP (l : List Pc) (p : Pc) : Prop := (p.more = false ∧ (0 ≤ endP l ∨ farP l > p.stop)) ∨ (0 ≤ endP l ∧ p.stop > endP l)
instance (l : List Pc) (p : Pc) : Decidable (lateP l p) := by unfold lateP; exact inferInstance
end Go.Proofs.YtpoigngpdcmipaaGreat
namespace Go.Proofs.YtpoigngpdcmipaaGreat
open Go.RowKit
structure Ris (L : List Pc) : Prop where
  ok : ∀ x ∈ L, 0 ≤ x.off ∧ x.stop ≤ 65535
  full : ∀ x ∈ L, x.more = true → 0 < x.len
  pw : L.Pairwise fun x y => x.stop ≤ y.off ∧ x.more = true
def endedP (L : List Pc) : Bool := L.any fun x => !x.more
structure Same (L l : List Pc) : Prop where
  ris : Ris L
  perm : List.Perm L l
end Go.Proofs.YtpoigngpdcmipaaGreat
namespace Go.Proofs.YtpoigngpdcmipaaGreat
open Go.RowKit
end Go.Proofs.YtpoigngpdcmipaaGreat
namespace Go.Proofs.YtpoigngpdcmipaaGreat
open Go.RowKit Go.Shelf
end Go.Proofs.YtpoigngpdcmipaaGreat
namespace Go.Proofs.YtpoigngpdcmipaaGreat
open Go.RowKit
end Go.Proofs.YtpoigngpdcmipaaGreat
namespace Go.Proofs.YtpoigngpdcmipaaGreat
open Go.RowKit Go.Shelf
theorem wpList_growU {ops : Array Oper} {rest : List Oper} {o : Oper} {a : Act} {w w' : World} {Q : Exit → Act → World → Prop} {v : Value} (hg : o.guard = none) (hrun : (execOp a.eval o).run Tryz.prog w = .ok (.value v) w') (h : wpList Tryz.prog ops Q rest (a.put o.dst v) w') : wpList Tryz.prog ops Q (o :: rest) a w :=
  wpList_plain hg fun K hK => by unfold Oper.wp; rw [hrun]; exact hK _ _ h
end Go.Proofs.YtpoigngpdcmipaaGreat
namespace Go.Proofs.YtpoigngpdcmipaaGreat
open Go.RowKit
end Go.Proofs.YtpoigngpdcmipaaGreat
namespace Go.Proofs.YtpoigngpdcmipaaGreat
open Go.RowKit Go.Shelf
end Go.Proofs.YtpoigngpdcmipaaGreat
namespace Go.Proofs.YtpoigngpdcmipaaGreat
open Go.RowKit Go.Shelf
structure XP where
  p : Pc
  A : Option Addr
  c : Nat
def clP (x : XP) : List Value := [.int .i64 x.p.off, .bool x.p.more, .slice x.A x.p.b.length x.c]
def piE (l : List XP) : List Pc := l.map (·.p)
end Go.Proofs.YtpoigngpdcmipaaGreat
namespace Go.Proofs.YtpoigngpdcmipaaGreat
open Go.RowKit Go.Shelf
end Go.Proofs.YtpoigngpdcmipaaGreat
namespace Go.Proofs.YtpoigngpdcmipaaGreat
open Go.RowKit Go.Shelf
end Go.Proofs.YtpoigngpdcmipaaGreat
namespace Go.Proofs.YtpoigngpdcmipaaGreat
open Go.RowKit Go.Shelf
end Go.Proofs.YtpoigngpdcmipaaGreat
namespace Go.Proofs.YtpoigngpdcmipaaGreat
open Go.RowKit Go.Shelf
end Go.Proofs.YtpoigngpdcmipaaGreat
namespace Go.Proofs.YtpoigngpdcmipaaGreat
open Go.RowKit Go.Shelf
end Go.Proofs.YtpoigngpdcmipaaGreat
namespace Go.Proofs.YtpoigngpdcmipaaGreat
open Go.RowKit Go.Shelf
structure Kept (S : Nat → Prop) (w w' : World) : Prop where
  os : w'.os = w.os
  tape : w'.tape = w.tape
  output : w'.output = w.output
  size : w.heap.size ≤ w'.heap.size
  block : ∀ k, k < w.heap.size → ¬ S k → w'.heap[k]? = w.heap[k]?
section
variable {S T : Nat → Prop} {a b c : World}
theorem Kept.of_below (h : Below a.heap.size a b) : Kept S a b := ⟨h.os, h.tape, h.output, h.size, fun k hk _ => h.block k hk⟩
theorem Kept.trans (h : Kept S a b) (k : Kept T b c) (hT : ∀ i, i < a.heap.size → T i → S i) : Kept S a c :=
  ⟨k.os.trans h.os, k.tape.trans h.tape, k.output.trans h.output, Nat.le_trans h.size k.size,
   fun i hi hs => (k.block i (Nat.lt_of_lt_of_le hi h.size) (fun t => hs (hT i hi t))).trans (h.block i hi hs)⟩
theorem Kept.mono (h : Kept S a b) (hS : ∀ i, i < a.heap.size → S i → T i) : Kept T a b := ⟨h.os, h.tape, h.output, h.size, fun k hk hn => h.block k hk (fun s => hn (hS k hk s))⟩
end
end Go.Proofs.YtpoigngpdcmipaaGreat
namespace Go.Proofs.YtpoigngpdcmipaaGreat
open Go.RowKit Go.Shelf
end Go.Proofs.YtpoigngpdcmipaaGreat
namespace Go.Proofs.YtpoigngpdcmipaaGreat
open Go.RowKit
end Go.Proofs.YtpoigngpdcmipaaGreat
namespace Go.Proofs.YtpoigngpdcmipaaGreat
open Go.RowKit Go.Shelf
theorem Kept.setCell (w : World) (g i : Nat) (v : Value) : Kept (fun k => k = g) w (w.setCell ⟨g, i, none⟩ v) := ⟨rfl, rfl, rfl, by simp, fun k _ hn => heap_setCell_other w ⟨g, i, none⟩ k v hn⟩
theorem own_keptT {S : Nat → Prop} {w w' : World} {b e s n : Nat} {v : Value} {xs : List Value} (h : w.ownsRow b e s v n xs) (k : Kept S w w') (hS : ∀ g, S g → ∀ cs fr, w.heap[g]? ≠ some (.cells cs e fr)) : w'.ownsRow b e s v n xs := by
  refine ⟨h.1, ?_⟩
  rcases h.2 with hn | ⟨g, cap, cur, hv, hb, hg, rest⟩
  · exact .inl hn
  · exact .inr ⟨g, cap, cur, hv, hb, (k.block g (heap_lt hg) (fun s => hS g s _ _ hg)).trans hg, rest⟩
end Go.Proofs.YtpoigngpdcmipaaGreat
namespace Go.Proofs.YtpoigngpdcmipaaGreat
open Go.RowKit Go.Shelf
structure Hx (w : World) (g : Nat) (A : Option Addr) (c : Nat) (L : List XP) : Prop where
  obj : w.heap[g]? = some (.cells #[.bool true, .slice A L.length c, .int .i64 (bytesP (piE L)), .int .i64 (farP (piE L)), .bool (endedP (piE L))] 179 (0, 0))
  own : w.ownsRow 0 225 3 (.slice A L.length c) L.length (L.flatMap clP)
  nil_ : Value.slice A L.length c = .slice none 0 0 ∨ 0 < L.length
  byt : ∀ y ∈ L, w.ownsRow 0 5 1 (.slice y.A y.p.b.length y.c) y.p.b.length (row y.p.b)
  ris : Ris (piE L)
  n : L.length ≤ 100000
theorem Hx.below {w w' : World} {g : Nat} {A : Option Addr} {c : Nat} {L : List XP} (h : Hx w g A c L) (hb : Below w.heap.size w w') : Hx w' g A c L :=
  ⟨(hb.block g (heap_lt h.obj)).trans h.obj, own_below h.own hb, h.nil_, fun y hy => own_below (h.byt y hy) hb, h.ris, h.n⟩
end Go.Proofs.YtpoigngpdcmipaaGreat
namespace Go.Proofs.YtpoigngpdcmipaaGreat
open Go.RowKit Go.Shelf
end Go.Proofs.YtpoigngpdcmipaaGreat
namespace Go.Proofs.YtpoigngpdcmipaaGreat
open Go.RowKit Go.Shelf
attribute [local go_sem] Oper.semAt_some
end Go.Proofs.YtpoigngpdcmipaaGreat
namespace Go.Proofs.YtpoigngpdcmipaaGreat
open Go.RowKit Go.Shelf
attribute [local go_sem] Oper.semAt_some
end Go.Proofs.YtpoigngpdcmipaaGreat
namespace Go.Proofs.YtpoigngpdcmipaaGreat
open Go.RowKit Go.Shelf
end Go.Proofs.YtpoigngpdcmipaaGreat
namespace Go.Proofs.YtpoigngpdcmipaaGreat
open Go.RowKit Go.Shelf
end Go.Proofs.YtpoigngpdcmipaaGreat
namespace Go.Proofs.YtpoigngpdcmipaaGreat
open Go.RowKit Go.ChangeShapes Go.WideShapes
open Go.Shelf
end Go.Proofs.YtpoigngpdcmipaaGreat
namespace Go.Proofs.YtpoigngpdcmipaaGreat
open Go.RowKit Go.Shelf
end Go.Proofs.YtpoigngpdcmipaaGreat
namespace Go.Proofs.YtpoigngpdcmipaaGreat
open Go.RowKit Go.Shelf
end Go.Proofs.YtpoigngpdcmipaaGreat
namespace Go.Proofs.YtpoigngpdcmipaaGreat
open Go.RowKit Go.Shelf
end Go.Proofs.YtpoigngpdcmipaaGreat
namespace Go.Proofs.YtpoigngpdcmipaaGreat
open Go.RowKit Go.Shelf
def Apart2 (v1 v2 : Value) : Prop := ∀ k, v1.ownBlock = some k → v2.ownBlock ≠ some k
end Go.Proofs.YtpoigngpdcmipaaGreat
namespace Go.Proofs.YtpoigngpdcmipaaGreat
open Go.RowKit Go.Shelf Go.Maps
def ptrElem : Value → Option (DataW Unit × List MemPlace)
  | .pointer none => some (.lit (.int .i64 (-1)), [])
  | .pointer (some ⟨g, 0, none⟩) => some (.lit (.int .i64 (g : Int)), [])
  | _ => none
def sq (k : List UInt8) : Value := .string (strB k)
def enM (p : List UInt8 × Nat) : Lit × DataW Unit := (.string p.1, .lit (.int .i64 (p.2 : Int)))
structure Bu where
  key : List UInt8
  g : Nat
  h : Nat
  A : Option Addr
  c : Nat
  L : List XP
  began : Int
  head : List UInt8
  headed : Bool
def Bu.v (s : Bu) : Value := .slice s.A s.L.length s.c
def Bu.kg (s : Bu) : List UInt8 × Nat := (s.key, s.g)
def Bu.by (s : Bu) : Int := bytesP (piE s.L)
structure Bx (w : World) (s : Bu) : Prop where
  obj : w.heap[s.g]? = some (.cells #[.pointer (some ⟨s.h, 0, none⟩), .int .i64 s.began, sq s.head, .bool s.headed] 124 (0, 0))
  hx : Hx w s.h s.A s.c s.L
def ApB (a b : Bu) : Prop := a.g ≠ b.g ∧ a.h ≠ b.h ∧ Apart2 a.v b.v
structure Tx (w : World) (t bm : Nat) (tot mb my wt : Int) (M : List (List UInt8 × Nat)) (S : List Bu) : Prop where
  obj : w.heap[t]? = some (.cells #[.map (some bm), .int .i64 tot, .int .i64 mb, .int .i64 my, .int .i64 wt] 94 (0, 0))
  map : ∃ es, w.ownsMap Tryz.prog 9 ptrElem bm M.length (.map es) ∧ es.Perm (M.map enM)
  ndm : M.Pairwise (fun a b => a.1 ≠ b.1)
  nd : S.Pairwise (fun a b => a.key ≠ b.key)
  len : ∀ s ∈ S, s.key.length ≤ maxLen
  bx : ∀ s ∈ S, Bx w s
  ap : S.Pairwise ApB
theorem Bx.below {w w' : World} {s : Bu} (h : Bx w s) (hb : Below w.heap.size w w') : Bx w' s := ⟨(hb.block s.g (heap_lt h.obj)).trans h.obj, h.hx.below hb⟩
theorem own_map_below {w w' : World} {b n : Nat} {D : DataW Unit} {k : TypeId} {R : Value → Option (DataW Unit × List MemPlace)} (h : w.ownsMap Tryz.prog k R b n D) (hb : Below w.heap.size w w') : w'.ownsMap Tryz.prog k R b n D := by
  have hlt := h.lt
  obtain ⟨es, clock, h1, F, hs, hD⟩ := h
  exact ⟨es, clock, (hb.block b hlt).trans h1, F, hs, hD⟩
section
variable {w w' : World} {t bm : Nat} {tot mb my wt : Int} {M : List (List UInt8 × Nat)} {S : List Bu}
theorem Tx.below (h : Tx w t bm tot mb my wt M S) (hb : Below w.heap.size w w') : Tx w' t bm tot mb my wt M S := by
  obtain ⟨es, hm, hp⟩ := h.map
  exact ⟨(hb.block t (heap_lt h.obj)).trans h.obj, ⟨es, own_map_below hm hb, hp⟩, h.ndm, h.nd, h.len, fun s hs => (h.bx s hs).below hb, h.ap⟩
end
def AwayT (w : World) (S : Nat → Prop) (T : TypeId → Prop) : Prop := ∀ k, S k → ∀ cs ty fr, w.heap[k]? = some (.cells cs ty fr) → T ty
theorem own_keptA {S : Nat → Prop} {T : TypeId → Prop} {w w' : World} {b e s n : Nat} {v : Value} {xs : List Value} (h : w.ownsRow b e s v n xs) (k : Kept S w w') (hS : AwayT w S T) (hT : ¬ T e) : w'.ownsRow b e s v n xs :=
  own_keptT h k (fun g hs cs fr hg => hT (hS g hs cs e fr hg))
theorem Hx.keptA {S : Nat → Prop} {T : TypeId → Prop} {w w' : World} {g : Nat} {A : Option Addr} {c : Nat} {L : List XP} (h : Hx w g A c L) (k : Kept S w w') (hS : AwayT w S T) (h1 : ¬ T 179) (h2 : ¬ T 225) (h3 : ¬ T 5) : Hx w' g A c L :=
  ⟨(k.block g (heap_lt h.obj) (fun s => h1 (hS g s _ _ _ h.obj))).trans h.obj, own_keptA h.own k hS h2, h.nil_, fun y hy => own_keptA (h.byt y hy) k hS h3, h.ris, h.n⟩
theorem Bx.keptA {S : Nat → Prop} {T : TypeId → Prop} {w w' : World} {s : Bu} (h : Bx w s) (k : Kept S w w') (hS : AwayT w S T) (h1 : ¬ T 179) (h2 : ¬ T 225) (h3 : ¬ T 5) (hg : ¬ S s.g) : Bx w' s :=
  ⟨(k.block s.g (heap_lt h.obj) hg).trans h.obj, h.hx.keptA k hS h1 h2 h3⟩
theorem map_is {w : World} {b n : Nat} {D : DataW Unit} {k : TypeId} {R : Value → Option (DataW Unit × List MemPlace)} (h : w.ownsMap Tryz.prog k R b n D) {cs : Array Value} {ty : TypeId} {fr : Nat × Nat} : w.heap[b]? ≠ some (.cells cs ty fr) := by
  obtain ⟨es, clock, h1, _⟩ := h
  intro h2
  rw [h1] at h2
  cases h2
theorem own_map_kept {S : Nat → Prop} {w w' : World} {b n : Nat} {D : DataW Unit} {k : TypeId} {R : Value → Option (DataW Unit × List MemPlace)} (h : w.ownsMap Tryz.prog k R b n D) (hk : Kept S w w') (hs : ¬ S b) : w'.ownsMap Tryz.prog k R b n D := by
  have hlt := h.lt
  obtain ⟨es, clock, h1, F, hs', hD⟩ := h
  exact ⟨es, clock, (hk.block b hlt hs).trans h1, F, hs', hD⟩
end Go.Proofs.YtpoigngpdcmipaaGreat
namespace Go.Proofs.YtpoigngpdcmipaaGreat
open Go.RowKit Go.Shelf Go.Maps
theorem jwithin (n lo hi : Int) (w : World) : Calls Tryz.prog 46 #[.int .i64 n, .int .i64 lo, .int .i64 hi] w fun e w' => e = .returned (.bool (decide (lo ≤ n ∧ n ≤ hi))) ∧ w = w' := by
  by_cases h1 : lo ≤ n
  · have d1 : decide (lo ≤ n) = true := decide_eq_true h1
    have e : decide (lo ≤ n ∧ n ≤ hi) = decide (n ≤ hi) := by simp [h1]
    rw [e]
    clear e
    go_enter Tryz.func46, Tryz.ntmps46
    go_wp2
    go_ret
    exact ⟨rfl, rfl⟩
  · have d1 : decide (lo ≤ n) = false := decide_eq_false h1
    have e : decide (lo ≤ n ∧ n ≤ hi) = false := by simp [h1]
    rw [e]
    clear e
    go_enter Tryz.func46, Tryz.ntmps46
    go_wp2
    go_ret
    exact ⟨rfl, rfl⟩
def newOk (b m t : Int) : Prop := (0 ≤ b ∧ b ≤ 1073741824) ∧ (0 ≤ m ∧ m ≤ 1073741824) ∧ (1 ≤ t ∧ t ≤ 1099511627776)
instance (b m t : Int) : Decidable (newOk b m t) := by unfold newOk; exact inferInstance
theorem jnew_ok (b m t : Int) (w : World) (h : newOk b m t) : Calls Tryz.prog 23 #[.int .i64 b, .int .i64 m, .int .i64 t] w fun e w' =>
    e = .returned (.tuple #[.pointer (some ⟨w.heap.size + 1, 0, none⟩), .int .i64 0]) ∧ Tx w' (w.heap.size + 1) w.heap.size 0 b m t [] [] ∧ Below w.heap.size w w' := by
  obtain ⟨h1, h2, h3⟩ := h
  have d1 := decide_eq_true h1
  have d2 := decide_eq_true h2
  have d3 := decide_eq_true h3
  have D1 := Lib.hid d1; have D2 := Lib.hid d2; have D3 := Lib.hid d3
  clear h1 h2 h3 d1 d2 d3
  have hmm := @run_makeMap Tryz.prog
  go_enter Tryz.func23, Tryz.ntmps23
  go_wp2_with (go_at_call 46; refine (jwithin _ _ _ _).mono ?_; rintro e w1 ⟨rfl, rfl⟩; first | rw [D1.out] | rw [D2.out] | rw [D3.out])
  refine bodyPost_ret (results_tmp2 rfl _ _ _) rfl ⟨rfl, ⟨?_, ⟨[], ?_, ?_⟩, .nil, .nil, (fun s h => by cases h), (fun s h => by cases h), .nil⟩, ((Below.refl _ w).alloc (Nat.le_refl _) _).alloc (by simp) _⟩
  · have := World.alloc_heap_new (w.alloc (.map #[] 0)) (.cells #[.map (some w.heap.size), .int .i64 0, .int .i64 b, .int .i64 m, .int .i64 t] 94)
    simpa using this
  · exact (World.ownsMap_made w Tryz.prog 9 ptrElem).alloc _
  · exact .nil
end Go.Proofs.YtpoigngpdcmipaaGreat
namespace Go.Proofs.YtpoigngpdcmipaaGreat
open Go.RowKit Go.Shelf Go.Maps
end Go.Proofs.YtpoigngpdcmipaaGreat
namespace Go.Proofs.YtpoigngpdcmipaaGreat
open Go.RowKit Go.Shelf Go.Maps
end Go.Proofs.YtpoigngpdcmipaaGreat
namespace Go.Proofs.YtpoigngpdcmipaaGreat
open Go.RowKit Go.Shelf Go.Maps
end Go.Proofs.YtpoigngpdcmipaaGreat
namespace Go.Proofs.YtpoigngpdcmipaaGreat
open Go.RowKit Go.Shelf Go.Maps
def Tz (B t bm : Nat) (S : List Bu) : Prop := B ≤ t ∧ B ≤ bm ∧ ∀ s ∈ S, B ≤ s.g ∧ B ≤ s.h ∧ ∀ k, s.v.ownBlock = some k → B ≤ k
end Go.Proofs.YtpoigngpdcmipaaGreat
namespace Go.Proofs.YtpoigngpdcmipaaGreat
open Go.RowKit Go.Shelf Go.Maps
end Go.Proofs.YtpoigngpdcmipaaGreat
namespace Go.Proofs.YtpoigngpdcmipaaGreat
open Go.RowKit Go.ChangeShapes Go.WideShapes
end Go.Proofs.YtpoigngpdcmipaaGreat
namespace Go.Proofs.YtpoigngpdcmipaaGreat
open Go.RowKit Go.Shelf
end Go.Proofs.YtpoigngpdcmipaaGreat
namespace Go.Proofs.YtpoigngpdcmipaaGreat
open Go.RowKit
structure Bf where
  key : List UInt8
  since : Int
  l : List Pc
  head : List UInt8
  has : Bool
end Go.Proofs.YtpoigngpdcmipaaGreat
namespace Go.Proofs.YtpoigngpdcmipaaGreat
open Go.RowKit Go.Shelf Go.Maps
def sumB : List Bu → Int
  | [] => 0
  | s :: S => s.by + sumB S
structure Jv (w : World) (B0 t bm : Nat) (mb my wt : Int) (N : Nat) (S : List Bu) : Prop where
  tx : Tx w t bm (sumB S) mb my wt (S.map Bu.kg) S
  z : Tz B0 t bm S
  by_ : sumB S ≤ my
  n : (S.length : Int) ≤ mb
  l : ∀ s ∈ S, s.L.length ≤ N
theorem Jv.below {w w' : World} {B0 t bm N : Nat} {mb my wt : Int} {S : List Bu} (h : Jv w B0 t bm mb my wt N S) (hb : Below w.heap.size w w') : Jv w' B0 t bm mb my wt N S := ⟨h.tx.below hb, h.z, h.by_, h.n, h.l⟩
theorem Jv.mono {w : World} {B0 t bm N N' : Nat} {mb my wt : Int} {S : List Bu} (h : Jv w B0 t bm mb my wt N S) (hN : N ≤ N') : Jv w B0 t bm mb my wt N' S := ⟨h.tx, h.z, h.by_, h.n, fun s hs => Nat.le_trans (h.l s hs) hN⟩
end Go.Proofs.YtpoigngpdcmipaaGreat
namespace Go.Proofs.YtpoigngpdcmipaaGreat
open Go.RowKit Go.Shelf Go.Maps
end Go.Proofs.YtpoigngpdcmipaaGreat
namespace Go.Proofs
open Go.RowKit Go.Maps Go.Sort Go.Shelf
shelf_lay_g SlLaysM.n6 Slgm 6 at Tryz 76 as Tryz.sortA
end Go.Proofs
namespace Go.Proofs.YtpoigngpdcmipaaGreat
open Go.RowKit Go.Shelf Go.Maps Go.Sort
theorem Tx.awayP {Z : Nat → Prop} {U : TypeId → Prop} {w w' : World} {t bm : Nat} {tot mb my wt : Int} {M : List (List UInt8 × Nat)} {S : List Bu} (h : Tx w t bm tot mb my wt M S) (k : Kept Z w w') (ha : AwayT w Z U)
    (h0 : ¬ U 94) (h1 : ¬ U 179) (h2 : ¬ U 225) (h3 : ¬ U 5) (h4 : ¬ U 124) (hb : ¬ Z bm) : Tx w' t bm tot mb my wt M S := by
  obtain ⟨es, hm, hp⟩ := h.map
  exact ⟨(k.block t (heap_lt h.obj) (fun s => h0 (ha t s _ _ _ h.obj))).trans h.obj, ⟨es, own_map_kept hm k hb, hp⟩, h.ndm, h.nd, h.len,
    fun s hs => (h.bx s hs).keptA k ha h1 h2 h3 (fun z => h4 (ha s.g z _ _ _ (h.bx s hs).obj)), h.ap⟩
end Go.Proofs.YtpoigngpdcmipaaGreat
namespace Go.Proofs.YtpoigngpdcmipaaGreat
open Go.RowKit Go.Shelf Go.Maps Go.Sort
end Go.Proofs.YtpoigngpdcmipaaGreat
namespace Go.Proofs.YtpoigngpdcmipaaGreat
open Go.RowKit Go.Shelf Go.Maps
end Go.Proofs.YtpoigngpdcmipaaGreat
namespace Go.Proofs.YtpoigngpdcmipaaGreat
open Go.RowKit Go.Shelf Go.Maps
end Go.Proofs.YtpoigngpdcmipaaGreat
namespace Go.Proofs.YtpoigngpdcmipaaGreat
open Go.RowKit Go.Shelf Go.Maps
end Go.Proofs.YtpoigngpdcmipaaGreat
namespace Go.Proofs.YtpoigngpdcmipaaGreat
open Go.RowKit Go.Shelf Go.Maps
end Go.Proofs.YtpoigngpdcmipaaGreat
namespace Go.Proofs.YtpoigngpdcmipaaGreat
open Go.RowKit Go.Shelf
structure XB where
  key : List UInt8
  since : Int
  A : Option Addr
  c : Nat
  l : List XP
  head : List UInt8
  has : Bool
end Go.Proofs.YtpoigngpdcmipaaGreat
namespace Go.Proofs.YtpoigngpdcmipaaGreat
open Go.RowKit Go.Shelf
def badN (a b c : Int) : Prop := a < 0 ∨ a > 1073741824 ∨ b < 0 ∨ b > 1073741824 ∨ c < 1 ∨ c > 1099511627776
instance (a b c : Int) : Decidable (badN a b c) := by unfold badN; exact inferInstance
end Go.Proofs.YtpoigngpdcmipaaGreat
namespace Go.Proofs.YtpoigngpdcmipaaGreat
open Go.RowKit Go.Shelf
end Go.Proofs.YtpoigngpdcmipaaGreat
namespace Go.Proofs.YtpoigngpdcmipaaGreat
open Go.RowKit Go.Shelf
end Go.Proofs.YtpoigngpdcmipaaGreat
namespace Go.Proofs.YtpoigngpdcmipaaGreat
open Go.RowKit Go.Shelf
end Go.Proofs.YtpoigngpdcmipaaGreat
namespace Go.Proofs.YtpoigngpdcmipaaGreat
open Go.RowKit Go.Shelf
end Go.Proofs.YtpoigngpdcmipaaGreat
namespace Go.Proofs.YtpoigngpdcmipaaGreat
open Go.RowKit Go.Shelf
end Go.Proofs.YtpoigngpdcmipaaGreat
namespace Go.Proofs.YtpoigngpdcmipaaGreat
open Go.RowKit Go.Shelf
end Go.Proofs.YtpoigngpdcmipaaGreat
namespace Go.Proofs.YtpoigngpdcmipaaGreat
open Go.RowKit Go.Shelf
end Go.Proofs.YtpoigngpdcmipaaGreat
namespace Go.Proofs.YtpoigngpdcmipaaGreat
open Go.RowKit Go.Shelf
end Go.Proofs.YtpoigngpdcmipaaGreat
namespace Go.Proofs.YtpoigngpdcmipaaGreat
structure SmB (s : Bu) (b : Bf) : Prop where
  key : s.key = b.key
  since : s.began = b.since
  l : Same (piE s.L) b.l
  head : s.head = b.head
  has : s.headed = b.has
def SameT (S : List Bu) (T : List Bf) : Prop := ∃ Z : List (Bu × Bf), S.Perm (Z.map (·.1)) ∧ T = Z.map (·.2) ∧ ∀ z ∈ Z, SmB z.1 z.2
section
variable {S R : List Bu} {T : List Bf} {s : Bu} {key : List UInt8}
theorem SameT.nil : SameT [] [] := ⟨[], List.Perm.refl _, rfl, fun z hz => by cases hz⟩
end
end Go.Proofs.YtpoigngpdcmipaaGreat
namespace Go.Proofs.YtpoigngpdcmipaaGreat
open Go.RowKit Go.Shelf Go.Maps
end Go.Proofs.YtpoigngpdcmipaaGreat
namespace Go.Proofs.YtpoigngpdcmipaaGreat
open Go.RowKit Go.Shelf Go.Maps
end Go.Proofs.YtpoigngpdcmipaaGreat
namespace Go.Proofs.YtpoigngpdcmipaaGreat
open Go.RowKit Go.Shelf Go.Maps
end Go.Proofs.YtpoigngpdcmipaaGreat
namespace Go.Proofs.YtpoigngpdcmipaaGreat
open Go.RowKit
def ownQ : List UInt8 := [32, 2, 0, 0, 0, 0, 0, 0, 0, 0, 0, 0, 0, 0, 0, 0]
def aftQ : List UInt8 := [32, 1, 0, 0, 0, 0, 0, 0, 0, 0, 0, 0, 0, 0, 0, 0]
def stl (m : Int) : List Value := row ownQ ++ (row aftQ ++ [.int .i64 m, .int .i64 64, .int .i64 4, .int .i64 10000, .int .i64 60])
def stV (m : Int) : Value := .agg (stl m).toArray
theorem stl_len (m : Int) : (stl m).length = 37 := rfl
theorem own_len : ownQ.length = 16 := rfl
theorem aft_len : aftQ.length = 16 := rfl
theorem six_neqF {a b : List UInt8} (ha : a.length = 16) (hb : b.length = 16) (h : a ≠ b) (w : World) : (Op.equalIn 10000 25 (.agg (cel a)) (.agg (cel b))).run Tryz.prog w = .ok false w := by
  rw [six_eq a b ha hb w, decide_eq_false h]
theorem six_eqT {a b : List UInt8} (ha : a.length = 16) (hb : b.length = 16) (h : a = b) (w : World) : (Op.equalIn 10000 25 (.agg (cel a)) (.agg (cel b))).run Tryz.prog w = .ok true w := by
  rw [six_eq a b ha hb w, decide_eq_true h]
theorem run_load_st {o : Oper} {a : Act} {w : World} {x : Operand} {g : Nat} {cs : List Value} (ho : o.op = .load 27 x) (hx : a.eval x = .pointer (some ⟨g, 0, none⟩)) (hr : w.rangeAt g 0 cs) (hl : cs.length = 37) :
    (execOp a.eval o).run Tryz.prog w = .ok (.value (.agg cs.toArray)) w := by
  have h := run_loadVar_mid (P := Tryz.prog) w g 0 27 cs _ hr Tryz.underlying27 rfl (by rw [hl]; kernel_rfl)
  unfold execOp
  simp only [ho, hx, Instr.loadAt, Instr.sureAddr, Sem.run_bind, Sem.run_pure, Result.andThen_ok, h]
theorem range_own (g i : Nat) (W : World) (xs ys zs : List Value) (h : W.rangeAt g 0 (xs ++ (ys ++ zs))) (hi : i = xs.length) : W.rangeAt g i ys := fun j v hj => by
  have hlt := (List.getElem?_eq_some_iff.1 hj).1
  have := h (i + j) v (by rw [hi, List.getElem?_append_right (by omega), Nat.add_sub_cancel_left, List.getElem?_append_left hlt]; exact hj)
  rwa [Nat.zero_add] at this
section
variable {W : World} {g : Nat} {m : Int} {zs : List Value}
theorem st_own (h : W.rangeAt g 0 (stl m ++ zs)) : W.rangeAt g 0 (row ownQ) := by
  rw [stl, List.append_assoc] at h
  exact range_own g 0 W [] _ _ h rfl
theorem st_aft (h : W.rangeAt g 0 (stl m ++ zs)) : W.rangeAt g 16 (row aftQ) := by
  rw [stl, List.append_assoc, List.append_assoc] at h
  exact range_own g 16 W _ _ _ h rfl
theorem st_cell (h : W.rangeAt g 0 (stl m ++ zs)) (i : Nat) (v : Value) (hv : (stl m)[i]? = some v) : W.cell? ⟨g, i, none⟩ = some v := by
  have := h i v (by rw [List.getElem?_append_left (List.getElem?_eq_some_iff.1 hv).1]; exact hv)
  rwa [Nat.zero_add] at this
end
set_option maxRecDepth 100000 in
set_option maxHeartbeats 2000000 in
theorem bisHost {s : List UInt8} (hs : s.length = 16) (h0 : s ≠ nul) (h1 : ∀ v, (row s)[0]? = some v → v = .int .u8 32) (w : World) : Calls Tryz.prog 44 #[.agg (cel s)] w fun e w' => e = .returned (.bool true) ∧ Below w.heap.size w w' := by
  have hb := (Below.refl _ w).alloc (Nat.le_refl _) (.cells (cel s) 25)
  have k0 := World.alloc_heap_new w (.cells (cel s) 25)
  have kr : (w.alloc (.cells (cel s) 25)).rangeAt w.heap.size 0 (row s) := range_hpR k0
  have hc : (w.alloc (.cells (cel s) 25)).cell? ⟨w.heap.size, 0, none⟩ = some (.int .u8 32) := by
    obtain ⟨v, hv⟩ : ∃ v, (row s)[0]? = some v := ⟨_, List.getElem?_eq_getElem (by rw [row_length, hs]; decide)⟩
    have := kr 0 v hv
    rw [h1 v hv] at this
    exact this
  have eN : ∀ w, (Op.equalIn 10000 25 (.agg (cel s)) (.agg #[.int .u8 0, .int .u8 0, .int .u8 0, .int .u8 0, .int .u8 0, .int .u8 0, .int .u8 0, .int .u8 0, .int .u8 0, .int .u8 0, .int .u8 0, .int .u8 0, .int .u8 0, .int .u8 0, .int .u8 0, .int .u8 0])).run Tryz.prog w = .ok false w := six_neqF (b := nul) hs rfl h0
  have hz : ∀ w, (Instr.build 25 #[]).run Tryz.prog w = .ok (.agg (cel nul)) w := fun w => by kernel_rfl
  clear h0 h1
  go_enter Tryz.func44, Tryz.ntmps44
  go_upto_region 1 with fail
  generalize w.alloc (.cells (cel s) 25) = W at *
  go_wp2_with ((with_reducible show wpList _ _ _ (Oper.mk _ (Op.load 25 _) _ _ _ _ :: _) _ _); refine wpList_val rfl (run_load_six rfl rfl kr hs) ?_)
  go_ret
  exact ⟨rfl, hb⟩
theorem bisIn (n lo hi : Int) (h : lo ≤ n ∧ n ≤ hi) (w : World) : Calls Tryz.prog 45 #[.int .i64 n, .int .i64 lo, .int .i64 hi] w fun e w' => e = .returned (.bool true) ∧ w = w' := by
  have d1 := decide_eq_true h.1
  have d2 := decide_eq_true h.2
  clear h
  go_enter Tryz.func45, Tryz.ntmps45
  go_wp2
  go_ret
  exact ⟨rfl, rfl⟩
set_option maxRecDepth 100000 in
set_option maxHeartbeats 2000000 in
theorem bmayBe (m : Int) (hm : 1280 ≤ m ∧ m ≤ 65535) (w : World) : Calls Tryz.prog 22 #[stV m] w fun e w' => e = .returned (.bool true) ∧ Below w.heap.size w w' := by
  have hb := (Below.refl _ w).alloc (Nat.le_refl _) (.cells (stl m).toArray 27)
  have k0 := World.alloc_heap_new w (.cells (stl m).toArray 27)
  have kr : (w.alloc (.cells (stl m).toArray 27)).rangeAt w.heap.size 0 (stl m ++ []) := by rw [List.append_nil]; exact range_hpR k0
  have zg := heap_lt k0
  have HM := Lib.hid hm
  clear hm k0
  unfold stV
  go_enter Tryz.func22, Tryz.ntmps22
  go_upto_region 1 with fail
  generalize w.alloc (.cells (stl m).toArray 27) = W at *
  have eN : ∀ w, (Op.equalIn 10000 25 (.agg (cel ownQ)) (.agg (cel aftQ))).run Tryz.prog w = .ok false w := six_neqF rfl rfl (by decide)
  have HO1 : Hid (∀ w, Calls Tryz.prog 44 #[.agg (cel ownQ)] w fun e w' => e = .returned (.bool true) ∧ Below w.heap.size w w') := Lib.hid (bisHost (s := ownQ) rfl (by decide) (fun v hv => (Option.some.inj hv).symm))
  have HA1 : Hid (∀ w, Calls Tryz.prog 44 #[.agg (cel aftQ)] w fun e w' => e = .returned (.bool true) ∧ Below w.heap.size w w') := Lib.hid (bisHost (s := aftQ) rfl (by decide) (fun v hv => (Option.some.inj hv).symm))
  have KO : Hid (∀ V, Below W.heap.size W V → V.rangeAt w.heap.size 0 (row ownQ)) := Lib.hid (fun V hV => range_below (st_own kr) zg hV)
  have KA : Hid (∀ V, Below W.heap.size W V → V.rangeAt w.heap.size 16 (row aftQ)) := Lib.hid (fun V hV => range_below (st_aft kr) zg hV)
  have KC : Hid (∀ V, Below W.heap.size W V → ∀ (i : Nat) (v : Value), (stl m)[i]? = some v → V.cell? ⟨w.heap.size, i, none⟩ = some v) := Lib.hid (fun V hV i v hv => st_cell (range_below kr zg hV) i v hv)
  go_wp2_with (first
    | (go_at_call 44; (with_reducible refine (HO1.out W).mono ?_); rintro e v1 ⟨rfl, x1⟩)
    | (go_at_call 44; (with_reducible refine (HA1.out v1).mono ?_); rintro e v2 ⟨rfl, x2⟩; have y2 := x1.trans (x2.mono x1.size); have c32 := KC.out _ y2 32 _ rfl; have c33 := KC.out _ y2 33 _ rfl; have c34 := KC.out _ y2 34 _ rfl; have c35 := KC.out _ y2 35 _ rfl; have c36 := KC.out _ y2 36 _ rfl)
    | ((with_reducible show wpList _ _ _ (Oper.mk (some 4) (Op.load 25 _) _ _ _ _ :: _) _ _); refine wpList_val rfl (run_load_six rfl rfl (KO.out _ (Below.refl _ _)) rfl) ?_)
    | ((with_reducible show wpList _ _ _ (Oper.mk (some 8) (Op.load 25 _) _ _ _ _ :: _) _ _); refine wpList_valg (by rfl) (run_load_six rfl rfl (KA.out _ x1) rfl) ?_)
    | ((with_reducible show wpList _ _ _ (Oper.mk (some 13) (Op.load 25 _) _ _ _ _ :: _) _ _); refine wpList_valg (by rfl) (run_load_six rfl rfl (KO.out _ y2) rfl) ?_)
    | ((with_reducible show wpList _ _ _ (Oper.mk (some 15) (Op.load 25 _) _ _ _ _ :: _) _ _); refine wpList_valg (by rfl) (run_load_six rfl rfl (KA.out _ y2) rfl) ?_)
    | (go_at_call 45; first | (with_reducible refine (bisIn m 1280 65535 HM.out _).mono ?_) | (with_reducible refine (bisIn 64 1 255 (by decide) _).mono ?_) | (with_reducible refine (bisIn 4 0 4096 (by decide) _).mono ?_) | (with_reducible refine (bisIn 10000 0 67108864 (by decide) _).mono ?_) | (with_reducible refine (bisIn 60 1 1048576 (by decide) _).mono ?_)
       rintro e v3 ⟨rfl, rfl⟩))
  go_ret
  exact ⟨rfl, hb.trans (y2.mono hb.size)⟩
def bfl (m : Int) (t k : Nat) (now id : Int) : List Value := stl m ++ [.pointer (some ⟨t, 0, none⟩), .pointer (some ⟨k, 0, none⟩), .int .i64 now, .int .i64 id]
structure Bf4 (B0 : Nat) (w : World) (x t bm k : Nat) (m now id : Int) (N : Nat) (S : List Bu) (T : List Bf) (L : List Int) : Prop where
  obj : w.heap[x]? = some (.cells (bfl m t k now id).toArray 60 (0, 0))
  jv : Jv w B0 t bm 4 10000 60 N S
  sm : SameT S T
  cn : Cn w k L
  bd : bdC L N
  bx : B0 ≤ x
  bk : B0 ≤ k
  be : B0 ≤ w.heap.size
section
variable {B0 : Nat} {w w' : World} {x t bm k N : Nat} {m now id : Int} {S : List Bu} {T : List Bf} {L : List Int}
theorem Bf4.below (h : Bf4 B0 w x t bm k m now id N S T L) (hb : Below w.heap.size w w') : Bf4 B0 w' x t bm k m now id N S T L :=
  ⟨(hb.block x (heap_lt h.obj)).trans h.obj, h.jv.below hb, h.sm, h.cn.below hb, h.bd, h.bx, h.bk, Nat.le_trans h.be hb.size⟩
theorem Bf4.rng (h : Bf4 B0 w x t bm k m now id N S T L) : w.rangeAt x 0 (stl m ++ [.pointer (some ⟨t, 0, none⟩), .pointer (some ⟨k, 0, none⟩), .int .i64 now, .int .i64 id]) := range_hpR h.obj
theorem Bf4.cell (h : Bf4 B0 w x t bm k m now id N S T L) (i : Nat) (v : Value) (hv : (bfl m t k now id)[i]? = some v) : w.cell? ⟨x, i, none⟩ = some v := by
  have := h.rng i v hv
  rwa [Nat.zero_add] at this
theorem Bf4.fr (h : Bf4 B0 w x t bm k m now id N S T L) (i : Nat) : w.frozen? ⟨x, i, none⟩ = false := heap_frozen h.obj i
theorem Bf4.ne (h : Bf4 B0 w x t bm k m now id N S T L) : x ≠ k := fun e => by
  have h1 := h.obj
  rw [e, h.cn.obj] at h1
  injection h1 with h1
  injection h1 with _ e2 _
  exact absurd e2 (by decide)
end
theorem run_build_bf {o : Oper} {a : Act} {w : World} {x y z : Operand} {m : Int} {t k : Nat} (ho : o.op = .build 60 #[(0, x), (1, y), (2, z), (4, .const (.int .i64 1))]) (hx : a.eval x = stV m) (hy : a.eval y = .pointer (some ⟨t, 0, none⟩)) (hz : a.eval z = .pointer (some ⟨k, 0, none⟩)) :
    (execOp a.eval o).run Tryz.prog w = .ok (.value (.agg (bfl m t k 0 1).toArray)) w := by
  have e : (Array.map (fun y : Nat × Operand => (y.1, a.eval y.2)) #[(0, x), (1, y), (2, z), (4, .const (.int .i64 1))]) = #[(0, stV m), (1, .pointer (some ⟨t, 0, none⟩)), (2, .pointer (some ⟨k, 0, none⟩)), (4, .int .i64 1)] := by simp [hx, hy, hz]; rfl
  have hb : (Instr.build 60 #[(0, stV m), (1, .pointer (some ⟨t, 0, none⟩)), (2, .pointer (some ⟨k, 0, none⟩)), (4, .int .i64 1)]).run Tryz.prog w = .ok (.agg (bfl m t k 0 1).toArray) w := by kernel_rfl
  unfold execOp
  simp only [ho, e, Sem.run_bind, hb]
  rfl
set_option maxRecDepth 100000 in
set_option maxHeartbeats 2000000 in
theorem bfnew (m : Int) (hm : 1280 ≤ m ∧ m ≤ 65535) (w : World) : Calls Tryz.prog 8 #[stV m] w fun e w' => ∃ x t k, e = .returned (.tuple #[.pointer (some ⟨x, 0, none⟩), .int .i64 0]) ∧ Bf4 w.heap.size w' x t (t - 1) k m 0 1 0 [] [] zeroC ∧ Below w.heap.size w w' := by
  have hb := (Below.refl _ w).alloc (Nat.le_refl _) (.cells (stl m).toArray 27)
  have k0 := World.alloc_heap_new w (.cells (stl m).toArray 27)
  have kr : (w.alloc (.cells (stl m).toArray 27)).rangeAt w.heap.size 0 (stl m ++ []) := by rw [List.append_nil]; exact range_hpR k0
  have zg := heap_lt k0
  have hs : (w.alloc (.cells (stl m).toArray 27)).heap.size = w.heap.size + 1 := by simp
  have HM := Lib.hid hm
  clear hm k0
  unfold stV
  go_enter Tryz.func8, Tryz.ntmps8
  go_upto_region 1 with fail
  generalize w.alloc (.cells (stl m).toArray 27) = W at *
  have kl : W.rangeAt w.heap.size 0 (stl m) := by rw [List.append_nil] at kr; exact kr
  have KC : Hid (∀ V, Below W.heap.size W V → ∀ (i : Nat) (v : Value), (stl m)[i]? = some v → V.cell? ⟨w.heap.size, i, none⟩ = some v) := Lib.hid (fun V hV i v hv => st_cell (range_below kr zg hV) i v hv)
  go_upto_region 6 with (first
    | ((with_reducible show wpList _ _ _ (Oper.mk _ (Op.load 27 _) _ _ _ _ :: _) _ _); refine wpList_val rfl (run_load_st rfl rfl kl (stl_len m)) ?_)
    | (go_at_call 22; refine (bmayBe m HM.out W).mono ?_; rintro e w3 ⟨rfl, x3⟩; have c34 := KC.out _ x3 34 _ rfl; have c35 := KC.out _ x3 35 _ rfl; have c36 := KC.out _ x3 36 _ rfl)
    | (go_at_call 23; refine (jnew_ok 4 10000 60 w3 (by decide)).mono ?_; rintro e W4 ⟨rfl, t4, x4⟩))
  have y4 := x3.trans (x4.mono x3.size)
  have hW4 := hb.trans (y4.mono hb.size)
  have KS : Hid (∀ V, Below W4.heap.size W4 V → V.rangeAt w.heap.size 0 (stl m)) := Lib.hid (fun V hV => range_below kl zg (y4.trans (hV.mono y4.size)))
  have HJ : Hid (Jv W4 w.heap.size (w3.heap.size + 1) w3.heap.size 4 10000 60 0 []) := Lib.hid ⟨t4, ⟨by have := x3.size; omega, by have := x3.size; omega, fun s h => by cases h⟩, by decide, by decide, fun s h => by cases h⟩
  clear kl kr KC c34 c35 c36 t4
  refine wp_region_held_drew (S := fun V => Below W4.heap.size W4 V) (by kernel_rfl) (Below.refl _ W4).drew (fun hS => ?_)
  refine held_pure (i := 0) (oi := ⟨some 22, _, _, _, _, _⟩) rfl (by kernel_rfl) (by kernel_rfl) (by kernel_rfl) (fun _ _ _ h => h) (by rfl) (fun w hSw => run_load_st rfl rfl (KS.out w hSw) (stl_len m)) hS (fun hS => ?_)
  try go_frame
  refine held_pure (i := 1) (oi := ⟨some 23, _, _, _, _, _⟩) rfl (by kernel_rfl) (by kernel_rfl) (by kernel_rfl) (fun _ _ _ h => h) (by rfl) (v := ?_) (fun w hSw => ?_) hS (fun hS => ?_)
  rotate_left
  · go_simp; try with_reducible rfl
  try go_frame
  refine wpAnyH_ready (rs := [2]) (by kernel_rfl) (by simp) (AllReadyH.cons (o := ⟨some 24, _, _, _, _, _⟩) rfl (fun K hK => ?_) AllReadyH.nil)
  rw [if_pos (by rfl)]
  go_simp
  refine (cnnew W4.drew).mono ?_
  rintro e w5 ⟨rfl, c5, x5⟩
  have y5 : Below W4.heap.size W4 w5 := ((Below.refl _ W4).drew).trans x5
  have c5 : Cn w5 W4.heap.size zeroC := c5
  show K _ _
  refine hK.out _ _ y5 (fun hS => ?_)
  clear hK K
  try go_frame
  refine held_pure (i := 3) (oi := ⟨some 25, _, _, _, _, _⟩) rfl (by kernel_rfl) (by kernel_rfl) (by kernel_rfl) (fun _ _ _ h => h) (by rfl) (v := .agg (bfl m (w3.heap.size + 1) W4.heap.size 0 1).toArray) (fun w hSw => by exact run_build_bf rfl rfl rfl rfl) hS (fun hS => ?_)
  try go_frame
  refine wpAnyH_ready (rs := [4]) (by kernel_rfl) (by simp) (AllReadyH.cons (o := ⟨some 26, _, _, _, _, _⟩) rfl (fun K hK => ?_) AllReadyH.nil)
  rw [if_pos (by rfl)]
  go_simp
  change K _ (w5.alloc (.cells (bfl m (w3.heap.size + 1) W4.heap.size 0 1).toArray 60))
  have kz := World.alloc_heap_new w5 (.cells (bfl m (w3.heap.size + 1) W4.heap.size 0 1).toArray 60)
  have y6 := y5.alloc y5.size (.cells (bfl m (w3.heap.size + 1) W4.heap.size 0 1).toArray 60)
  have a5 := (Below.refl _ w5).alloc (Nat.le_refl _) (.cells (bfl m (w3.heap.size + 1) W4.heap.size 0 1).toArray 60)
  refine hK.out _ _ y6 (fun hS => ?_)
  clear hK K
  try go_frame
  refine held_pure (i := 5) (oi := ⟨some 2, _, _, _, _, _⟩) rfl (by kernel_rfl) (by kernel_rfl) (by kernel_rfl) (fun _ _ _ h => h) (by rfl) (v := ?_) (fun w hSw => ?_) hS (fun hS => ?_)
  rotate_left
  · go_simp; try with_reducible rfl
  try go_frame
  refine held_pure (i := 6) (oi := ⟨some 3, _, _, _, _, _⟩) rfl (by kernel_rfl) (by kernel_rfl) (by kernel_rfl) (fun _ _ _ h => h) (by rfl) (v := ?_) (fun w hSw => ?_) hS (fun hS => ?_)
  rotate_left
  · go_simp; try with_reducible rfl
  try go_frame
  refine wpAnyH_done (by kernel_rfl) ?_ _
  go_wp2_with fail
  refine bodyPost_ret (results_tmp2 rfl _ _ _) rfl ?_
  refine ⟨_, _, _, rfl, ⟨kz, ?_, SameT.nil, c5.below a5, bdC_zero, ?_, ?_, ?_⟩, hW4.trans (y6.mono hW4.size)⟩
  · exact ((HJ.out).below y5).below a5
  · exact Nat.le_trans hW4.size y5.size
  · exact hW4.size
  · exact Nat.le_trans hW4.size y6.size
end Go.Proofs.YtpoigngpdcmipaaGreat
