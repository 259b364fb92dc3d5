/-
  Contracts and lemmas on which the proofs of this seat stand (several texts in one). Conditions are each theorem's own.
-/
import Derived.Test.YtcebobcakiljhaaNa10
import Derived.Test.YtcebobcakiljhaaNa6
import Derived.Test.YtcebobcakiljhaaNa9
import Derived.Deep.Slices

/-
  Contracts of cut4's follows, and of the document's fits of layer 13. Conditions are each theorem's own.
-/
namespace Go.Proofs.Ytcebobcakiljhaa
open Go.RowKit Go.Shelf

set_option maxRecDepth 100000 in
set_option maxHeartbeats 1000000 in
theorem c13follows (q r : P4) (A : Option Addr) (c : Nat) (A' : Option Addr) (c' : Nat) (X : Option Addr) (d : Nat) (X' : Option Addr) (d' : Nat) (w : World) (h0 : 0 ≤ q.off ∧ q.off ≤ 65535) (hl : q.dat.length ≤ 1000000) :
    Calls Try.prog 36 #[v4v q A c A' c', v4v r X d X' d'] w fun e w' => e = .returned (.bool (fol q r)) ∧ Below w.heap.size w w' := by
  have hB : Below w.heap.size w ((w.alloc (.cells (v4a q A c A' c') 24)).alloc (.cells (v4a r X d X' d') 24)) := ((Below.refl w.heap.size w).alloc (Nat.le_refl _) _).alloc (by simp) _
  have at1 : At4 ((w.alloc (.cells (v4a q A c A' c') 24)).alloc (.cells (v4a r X d X' d') 24)) w.heap.size q A c A' c' := (At4.new w).below ((Below.refl (w.heap.size + 1) _).alloc (by simp) _) (by omega)
  have at2 : At4 ((w.alloc (.cells (v4a q A c A' c') 24)).alloc (.cells (v4a r X d X' d') 24)) (w.heap.size + 1) r X d X' d' := by
    have := At4.new (q := r) (A := X) (c := d) (A' := X') (c' := d') (w.alloc (.cells (v4a q A c A' c') 24))
    rwa [show (w.alloc (.cells (v4a q A c A' c') 24)).heap.size = w.heap.size + 1 from by simp] at this
  have hw : wrap64 (q.off + (q.dat.length : Int)) = q.off + (q.dat.length : Int) := by unfold wrap64; omega
  have x1 := at1.id; have x2 := at1.off; have x4 := at1.proto; have x5 := at1.src; have x6 := at1.dst; have x8 := at1.mf; have x10 := at1.dat
  have y1 := at2.id; have y2 := at2.off; have y4 := at2.proto; have y5 := at2.src; have y6 := at2.dst
  clear at1 at2
  rw [v4v_eq4, v4v_eq4]
  go_enter Try.func36, Try.ntmps36
  go_upto_region 1 with fail
  generalize (w.alloc (.cells (v4a q A c A' c') 24)).alloc (.cells (v4a r X d X' d') 24) = W at *
  cases e0 : q.mf
  · go_wp2
    go_ret
    exact ⟨by unfold fol; rw [e0]; rfl, hB⟩
  · skip
    cases e1 : (q.src == r.src)
    · go_wp2
      go_ret
      exact ⟨by unfold fol; rw [e0, e1]; rfl, hB⟩
    · skip
      cases e2 : (q.dst == r.dst)
      · go_wp2
        go_ret
        exact ⟨by unfold fol; rw [e0, e1, e2]; rfl, hB⟩
      · skip
        cases e3 : (q.proto == r.proto)
        · go_wp2
          go_ret
          exact ⟨by unfold fol; rw [e0, e1, e2, e3]; rfl, hB⟩
        · skip
          cases e4 : (q.id == r.id)
          · go_wp2
            go_ret
            exact ⟨by unfold fol; rw [e0, e1, e2, e3, e4]; rfl, hB⟩
          · skip
            cases e5 : (q.off + (q.dat.length : Int) == r.off)
            · go_wp2
              go_ret
              exact ⟨by unfold fol; rw [e0, e1, e2, e3, e4, e5]; rfl, hB⟩
            · skip
              go_wp2
              go_ret
              exact ⟨by unfold fol; rw [e0, e1, e2, e3, e4, e5]; rfl, hB⟩
set_option maxRecDepth 100000 in
set_option maxHeartbeats 1000000 in
theorem r13fits (f q r : P4) (F : Option Addr) (k : Nat) (F' : Option Addr) (k' : Nat) (A : Option Addr) (c : Nat) (A' : Option Addr) (c' : Nat) (X : Option Addr) (d : Nat) (X' : Option Addr) (d' : Nat) (w : World) (h0 : 0 ≤ q.off ∧ q.off ≤ 65535) (hl : q.dat.length ≤ 1000000) :
    Calls Try.prog 38 #[v4v f F k F' k', v4v q A c A' c', v4v r X d X' d'] w fun e w' => e = .returned (.bool (fit4 f q r)) ∧ Below w.heap.size w w' := by
  have hB : Below w.heap.size w (((w.alloc (.cells (v4a f F k F' k') 24)).alloc (.cells (v4a q A c A' c') 24)).alloc (.cells (v4a r X d X' d') 24)) := (((Below.refl w.heap.size w).alloc (Nat.le_refl _) _).alloc (by simp) _).alloc (by simp; omega) _
  have s1 : (w.alloc (.cells (v4a f F k F' k') 24)).heap.size = w.heap.size + 1 := by simp
  have s2 : ((w.alloc (.cells (v4a f F k F' k') 24)).alloc (.cells (v4a q A c A' c') 24)).heap.size = w.heap.size + 2 := by simp
  have at0 : At4 (((w.alloc (.cells (v4a f F k F' k') 24)).alloc (.cells (v4a q A c A' c') 24)).alloc (.cells (v4a r X d X' d') 24)) w.heap.size f F k F' k' := (At4.new w).below (((Below.refl (w.heap.size + 1) _).alloc (by simp) _).alloc (by simp) _) (by omega)
  have at1 : At4 (((w.alloc (.cells (v4a f F k F' k') 24)).alloc (.cells (v4a q A c A' c') 24)).alloc (.cells (v4a r X d X' d') 24)) (w.heap.size + 1) q A c A' c' := by
    have := At4.new (q := q) (A := A) (c := c) (A' := A') (c' := c') (w.alloc (.cells (v4a f F k F' k') 24))
    rw [s1] at this
    exact this.below ((Below.refl (w.heap.size + 2) _).alloc (by simp) _) (by omega)
  have at2 : At4 (((w.alloc (.cells (v4a f F k F' k') 24)).alloc (.cells (v4a q A c A' c') 24)).alloc (.cells (v4a r X d X' d') 24)) (w.heap.size + 1 + 1) r X d X' d' := by
    have := At4.new (q := r) (A := X) (c := d) (A' := X') (c' := d') ((w.alloc (.cells (v4a f F k F' k') 24)).alloc (.cells (v4a q A c A' c') 24))
    rwa [s2] at this
  have hw : wrap64 (q.off + (q.dat.length : Int)) = q.off + (q.dat.length : Int) := by unfold wrap64; omega
  have z1 := at0.id; have z4 := at0.proto; have z5 := at0.src; have z6 := at0.dst
  have x2 := at1.off; have x8 := at1.mf; have x10 := at1.dat
  have y1 := at2.id; have y2 := at2.off; have y4 := at2.proto; have y5 := at2.src; have y6 := at2.dst
  clear at0 at1 at2 s1 s2
  rw [v4v_eq4, v4v_eq4, v4v_eq4]
  go_enter Try.func38, Try.ntmps38
  go_upto_region 1 with fail
  generalize ((w.alloc (.cells (v4a f F k F' k') 24)).alloc (.cells (v4a q A c A' c') 24)).alloc (.cells (v4a r X d X' d') 24) = W at *
  cases e1 : (r.src == f.src)
  · go_wp2
    go_ret
    exact ⟨by unfold fit4; rw [e1]; rfl, hB⟩
  · skip
    cases e2 : (r.dst == f.dst)
    · go_wp2
      go_ret
      exact ⟨by unfold fit4; rw [e1, e2]; rfl, hB⟩
    · skip
      cases e3 : (r.proto == f.proto)
      · go_wp2
        go_ret
        exact ⟨by unfold fit4; rw [e1, e2, e3]; rfl, hB⟩
      · skip
        cases e4 : (r.id == f.id)
        · go_wp2
          go_ret
          exact ⟨by unfold fit4; rw [e1, e2, e3, e4]; rfl, hB⟩
        · skip
          cases e0 : q.mf
          · go_wp2
            go_ret
            exact ⟨by unfold fit4; rw [e1, e2, e3, e4, e0]; rfl, hB⟩
          · skip
            cases e5 : (r.off == q.off + (q.dat.length : Int))
            · go_wp2
              go_ret
              exact ⟨by unfold fit4; rw [e1, e2, e3, e4, e0, e5]; rfl, hB⟩
            · skip
              go_wp2
              go_ret
              exact ⟨by unfold fit4; rw [e1, e2, e3, e4, e0, e5]; rfl, hB⟩
end Go.Proofs.Ytcebobcakiljhaa

/-
  Two facts of packets of IPv4 in fragments. No program. Conditions are each theorem's own.
-/
namespace Go.Proofs.Ytcebobcakiljhaa
open Go.RowKit

theorem off_bd {q : P4} (h : chk4 q = 0) : 0 ≤ q.off ∧ q.off ≤ 65535 := by
  obtain ⟨⟨_, _, _, _, _, _, _, _, _, _, _, _, a13, a14, _, _, _, _⟩, _, _⟩ := chk4_ok h
  exact ⟨a13, by omega⟩
theorem mem_datas {l : List P4} {x : P4} (h : x ∈ l) : x.dat.length ≤ (datas l).length := by
  induction l with
  | nil => cases h
  | cons a l ih =>
    unfold datas at ih ⊢
    rw [List.flatMap_cons, List.length_append]
    rcases List.mem_cons.1 h with rfl | h
    · omega
    · have := ih h; omega
theorem datas_le : ∀ (l : List P4) (m : Nat), (∀ q ∈ l, q.dat.length ≤ m) → (datas l).length ≤ l.length * m
  | [], _, _ => by simp [datas]
  | a :: l, m, h => by
    have h1 := datas_le l m (fun q hq => h q (List.mem_cons_of_mem _ hq))
    have h2 := h a (List.mem_cons_self ..)
    unfold datas at h1 ⊢
    rw [List.flatMap_cons, List.length_append, List.length_cons, Nat.add_mul]; omega
end Go.Proofs.Ytcebobcakiljhaa

/-
  Contract of cut4's Glue. Conditions are each theorem's own.
-/
namespace Go.Proofs.Ytcebobcakiljhaa
open Go.RowKit Go.Shelf

set_option maxRecDepth 100000 in
set_option maxHeartbeats 20000000 in
theorem c13glue (A : Option Addr) (c : Nat) (l : List X4) (B : Nat) (w : World) (hL : L4 w B A l) (hB : B ≤ w.heap.size) (hc : l.length ≤ c) (hlen : l.length ≤ 1000000) (hd : (datas (l.map (·.q))).length ≤ 1000000) (ho : ∀ x ∈ l, x.q.opt.length ≤ 1000000) :
    Calls Try.prog 15 #[.slice A l.length c] w fun e w' => ∃ P p P' p', e = .returned (.tuple #[v4v (glV (l.map (·.q))) P p P' p', .int .i64 (glE (l.map (·.q)))]) ∧ Arg w' w'.heap.size P p (glV (l.map (·.q))).opt ∧ Arg w' w'.heap.size P' p' (glV (l.map (·.q))).dat ∧ Below w.heap.size w w' := by
  have hTu : 24 ≠ 5 := nat_ne (by kernel_rfl)
  have HDX : Hid (∀ x ∈ l, x.q.dat.length ≤ 1000000) := Lib.hid fun x hx => Nat.le_trans (mem_datas (List.mem_map.2 ⟨x, hx, rfl⟩)) hd
  obtain ⟨n, hn⟩ : ∃ n, n = l.length := ⟨_, rfl⟩
  have HN := Lib.hid hn
  rw [← hn] at hc hlen ⊢
  obtain ⟨Q, hQ⟩ : ∃ Q, Q = l.map (·.q) := ⟨_, rfl⟩
  have HQ := Lib.hid hQ
  have HQn : Hid (Q.length = n) := Lib.hid (by rw [hQ, List.length_map, hn])
  rw [← hQ] at hd ⊢
  have HL := Lib.hid hL
  have HO := Lib.hid ho
  have HD := Lib.hid hd
  clear hn hQ hL ho hd
  have hBW : Below w.heap.size w (w.alloc (.cells (v4a p4z none 0 none 0) 24)) := (Below.refl w.heap.size w).alloc (Nat.le_refl _) _
  have hrow := World.alloc_heap_new w (.cells (v4a p4z none 0 none 0) 24)
  obtain ⟨g, hg⟩ : ∃ g, g = w.heap.size := ⟨_, rfl⟩
  go_enter Try.func15, Try.ntmps15
  go_upto_region 1 with fail
  rw [show #[.int .i64 0, .int .i64 0, .int .i64 0, .int .i64 0, .int .i64 0, .int .i64 0, .int .i64 0, .bool false, .bool false, .slice none 0 0, .slice none 0 0] = v4a p4z none 0 none 0 from rfl]
  generalize w.alloc (.cells (v4a p4z none 0 none 0) 24) = W at *
  rw [← hg] at hrow ⊢
  have HG := Lib.hid hg
  have hgz := heap_lt hrow
  have hBz : B ≤ W.heap.size := by have := hBW.size; omega
  clear hg
  by_cases h0 : n = 0
  · subst h0
    have HE : Hid (glE Q = 1) := Lib.hid (by rw [glE, if_pos HQn.out])
    have HV : Hid (glV Q = p4z) := Lib.hid (by rw [glV, HE.out, if_neg (by decide)])
    go_wp2_with ((with_reducible show wpList _ _ _ (Oper.mk _ (Op.store 24 _ _) _ _ _ _ :: _) _ _); refine v4_store (g := g) (cs := v4a p4z none 0 none 0) rfl rfl hrow rfl rfl (v4a_one _ _ _ _ _) ?_)
    exact bodyPost_ret (res2 rfl rfl (run_loadVar_row _ _ _ 24 (v4a p4z none 0 none 0) _ _ (setRow_heap _ _ _ _ _ _ hrow) Try.underlying24 rfl (by kernel_rfl))) rfl ⟨none, 0, none, 0, by rw [HV.out, HE.out]; rfl, by rw [HV.out]; exact Arg.nil _ _, by rw [HV.out]; exact Arg.nil _ _, below_row hBW (by have := HG.out; omega)⟩
  · have d0 : ((n : Int) == 0) = false := by simp; omega
    obtain ⟨b1, o1, e1, hb1', hr1'⟩ := HL.out.rd (by rw [← HN.out]; omega)
    have hb1 : b1 < w.heap.size := by omega
    have HRR : Hid (∀ (k : Nat) (x : X4), l[k]? = some x → w.rangeAt b1 (o1 + k * 11) (cl4 x)) := Lib.hid hr1'
    obtain rfl := e1
    clear hb1' hr1'
    go_wp2
    go_loopw [18] (fun i wr => ∃ k : Nat, k ≤ n ∧ i = .int .i64 (k : Int) ∧ Hid (∀ i, i < k → chk4 (Q.getD i p4z) = 0) ∧ Below W.heap.size W wr)
      (fun i _ => n - (intOf i).toNat)
    case atStart => exact ⟨0, Nat.zero_le _, rfl, Lib.hid (fun i h => absurd h (Nat.not_lt_zero _)), Below.refl _ _⟩
    case round =>
      obtain ⟨k, hk, rfl, HC, hbel⟩ := hrel
      by_cases hlt : k < n
      · skip
        obtain ⟨x, hx⟩ : ∃ x, l[k]? = some x := ⟨_, List.getElem?_eq_getElem (by rw [← HN.out]; exact hlt)⟩
        have hxm := List.mem_of_getElem? hx
        have HXQ : Hid (Q.getD k p4z = x.q) := Lib.hid (by rw [HQ.out, List.getD_eq_getElem?_getD, List.getElem?_map, hx]; rfl)
        have hrx := range_below (range_below (HRR.out k x hx) hb1 hBW) (Nat.lt_of_lt_of_le hb1 hBW.size) hbel
        have hzr := hbel.size
        have hxo := HO.out x hxm
        have hxd := HDX.out x hxm
        have hAx1 := (((HL.out.arg x hxm).1.below (hBW.mono hB)).below (hbel.mono hBz)).more (Nat.le_trans hBz hzr)
        have hAx2 := (((HL.out.arg x hxm).2.below (hBW.mono hB)).below (hbel.mono hBz)).more (Nat.le_trans hBz hzr)
        have hAt := At4.new (q := x.q) (A := x.A) (c := x.c) (A' := x.A') (c' := x.c') wr
        have hzx : wr.heap.size < (wr.alloc (.cells (v4a x.q x.A x.c x.A' x.c') 24)).heap.size := by simp
        have hbx : Below W.heap.size W (wr.alloc (.cells (v4a x.q x.A x.c x.A' x.c') 24)) := hbel.trans ((Below.refl wr.heap.size wr).alloc (Nat.le_refl _) _ |>.mono hzr)
        by_cases hck : chk4 x.q = 0
        · have HCX := Lib.hid hck
          go_wp2_with (first
            | ((with_reducible show wpList _ _ _ (Oper.mk _ (Op.load 24 _) _ _ _ _ :: _) _ _); refine wpList_val (v := .agg (v4a x.q x.A x.c x.A' x.c')) rfl (run_load_v4o rfl rfl hrx rfl) ?_)
            | ((with_reducible show wpList _ _ _ (Oper.mk _ (Op.store 24 _ _) _ _ _ _ :: _) _ _); refine v4_store_new (cs := v4a x.q x.A x.c x.A' x.c') rfl rfl rfl rfl (v4a_one _ _ _ _ _) ?_)
            | ((with_reducible show wpList _ _ _ (Oper.mk _ (Op.load 24 _) _ _ _ _ :: _) _ _); refine wpList_val rfl (run_load_v4 rfl rfl hAt rfl) ?_)
            | (go_at_call 19; refine (c4check x.q x.A x.c x.A' x.c' _ hxo hxd).mono ?_; rintro e w2 ⟨rfl, x2⟩; rw [HCX.out]))
          go_roundw
          case rel =>
            refine ⟨k + 1, by omega, by simp, Lib.hid (fun i hi => ?_), hbx.trans (x2.mono hbx.size)⟩
            rcases Nat.lt_or_ge i k with h | h
            · exact HC.out i h
            · rw [show i = k by omega, HXQ.out]; exact HCX.out
          case measure => simp [intOf]; omega
        · obtain ⟨ce, hce⟩ : ∃ z, z = chk4 x.q := ⟨_, rfl⟩
          have HCX := Lib.hid hce.symm
          have dC : (ce != 0) = true := by rw [hce]; simpa using hck
          have HE : Hid (glE Q = ce) := Lib.hid (by rw [glE, if_neg (by rw [HQn.out]; exact h0), bad1_at Q k HC.out (by rw [HQn.out]; exact hlt) (by rw [HXQ.out]; exact hck), HXQ.out, if_neg hck, hce])
          have HV : Hid (glV Q = p4z) := Lib.hid (by rw [glV, HE.out, hce, if_neg hck])
          clear hck hce
          go_upto_region 8 with (first
            | ((with_reducible show wpList _ _ _ (Oper.mk _ (Op.load 24 _) _ _ _ _ :: _) _ _); refine wpList_val (v := .agg (v4a x.q x.A x.c x.A' x.c')) rfl (run_load_v4o rfl rfl hrx rfl) ?_)
            | ((with_reducible show wpList _ _ _ (Oper.mk _ (Op.store 24 _ _) _ _ _ _ :: _) _ _); refine v4_store_new (cs := v4a x.q x.A x.c x.A' x.c') rfl rfl rfl rfl (v4a_one _ _ _ _ _) ?_)
            | ((with_reducible show wpList _ _ _ (Oper.mk _ (Op.load 24 _) _ _ _ _ :: _) _ _); refine wpList_val rfl (run_load_v4 rfl rfl hAt rfl) ?_)
            | (go_at_call 19; refine (c4check x.q x.A x.c x.A' x.c' _ hxo hxd).mono ?_; rintro e w2 ⟨rfl, x2⟩; rw [HCX.out]))
          have hB2 := hbx.trans (x2.mono hbx.size)
          have hrow2 := (hB2.block g hgz).trans hrow
          go_wp2_with ((with_reducible show wpList _ _ _ (Oper.mk _ (Op.store 24 _ _) _ _ _ _ :: _) _ _); refine v4_store (g := g) (cs := v4a p4z none 0 none 0) rfl rfl hrow2 rfl rfl (v4a_one _ _ _ _ _) ?_)
          exact bodyPost_ret (res2 rfl rfl (run_loadVar_row _ _ _ 24 (v4a p4z none 0 none 0) _ _ (setRow_heap _ _ _ _ _ _ hrow2) Try.underlying24 rfl (by kernel_rfl))) rfl ⟨none, 0, none, 0, by rw [HV.out, HE.out]; rfl, by rw [HV.out]; exact Arg.nil _ _, by rw [HV.out]; exact Arg.nil _ _, below_row (hBW.trans (hB2.mono (by have := hBW.size; omega))) (by have := HG.out; omega)⟩
      · obtain rfl : n = k := by omega
        have HCA := HC
        clear HC
        rename World => V0
        go_wp2
        go_loopw [7, 31] (fun d i wr => ∃ (k : Nat) (P : Option Addr) (p : Nat) (D : List UInt8), k ≤ n ∧ i = .int .i64 (k : Int) ∧ d = .slice P D.length p ∧ Hid (D = datas (Q.take k)) ∧ Hid (chn Q k) ∧ D.length ≤ 1000000 ∧ Below W.heap.size W wr ∧ wr.ownsRow W.heap.size 5 1 (.slice P D.length p) D.length (row D))
          (fun _ i _ => n - (intOf i).toNat)
        case atStart => exact ⟨0, none, 0, [], Nat.zero_le _, rfl, rfl, Lib.hid rfl, Lib.hid (fun i h => by omega), Nat.zero_le _, hbel, World.ownsRow_nil _ _ _ _⟩
        case round =>
          clear hbel
          obtain ⟨k, P, p, D, hk, rfl, rfl, HDk, HCH, hDl, hbel, hown⟩ := hrel
          by_cases hlt : k < n
          · skip
            obtain ⟨x, hx⟩ : ∃ x, l[k]? = some x := ⟨_, List.getElem?_eq_getElem (by rw [← HN.out]; exact hlt)⟩
            have hxm := List.mem_of_getElem? hx
            have HXQ : Hid (Q.getD k p4z = x.q) := Lib.hid (by rw [HQ.out, List.getD_eq_getElem?_getD, List.getElem?_map, hx]; rfl)
            have hrx := range_below (range_below (HRR.out k x hx) hb1 hBW) (Nat.lt_of_lt_of_le hb1 hBW.size) hbel
            have hzr := hbel.size
            have hxo := HO.out x hxm
            have hxd := HDX.out x hxm
            have hAx1 := (((HL.out.arg x hxm).1.below (hBW.mono hB)).below (hbel.mono hBz)).more (Nat.le_trans hBz hzr)
            have hAx2 := (((HL.out.arg x hxm).2.below (hBW.mono hB)).below (hbel.mono hBz)).more (Nat.le_trans hBz hzr)
            have hAt := At4.new (q := x.q) (A := x.A) (c := x.c) (A' := x.A') (c' := x.c') wr
            have hzx : wr.heap.size < (wr.alloc (.cells (v4a x.q x.A x.c x.A' x.c') 24)).heap.size := by simp
            have hbx : Below W.heap.size W (wr.alloc (.cells (v4a x.q x.A x.c x.A' x.c') 24)) := hbel.trans ((Below.refl wr.heap.size wr).alloc (Nat.le_refl _) _ |>.mono hzr)
            have hDl3 : (D ++ x.q.dat).length ≤ 1000000 := by
              have h1 := datas_take_le Q (k + 1)
              rw [datas_take Q (by rw [HQn.out]; exact hlt), ← HDk.out, HXQ.out] at h1
              exact Nat.le_trans h1 HD.out
            rw [List.length_append] at hDl3
            rcases Nat.eq_zero_or_pos k with hk0 | hk0
            · subst hk0
              go_upto_region 14 with (first
                | ((with_reducible show wpList _ _ _ (Oper.mk _ (Op.load 24 _) _ _ _ _ :: _) _ _); refine wpList_val (v := .agg (v4a x.q x.A x.c x.A' x.c')) rfl (run_load_v4o rfl rfl hrx rfl) ?_)
                | ((with_reducible show wpList _ _ _ (Oper.mk _ (Op.store 24 _ _) _ _ _ _ :: _) _ _); refine v4_store_new (cs := v4a x.q x.A x.c x.A' x.c') rfl rfl rfl rfl (v4a_one _ _ _ _ _) ?_))
              have hyX : Below wr.heap.size wr (wr.alloc (.cells (v4a x.q x.A x.c x.A' x.c') 24)) := (Below.refl _ wr).alloc (Nat.le_refl _) _
              obtain ⟨bx, hbxe⟩ : ∃ b, b = wr.heap.size := ⟨_, rfl⟩
              rw [← hbxe] at hAt hzx ⊢
              clear hbxe
              generalize wr.alloc (.cells (v4a x.q x.A x.c x.A' x.c') 24) = X at *
              have hatX := hAt
              have hzX := hzx
              have hBX := hbx
              refine wp_region_held_drew (S := fun w' => Below X.heap.size X w') (by kernel_rfl) (Below.refl _ X).drew (fun hS => ?_)
              refine held_pure (i := 0) (oi := ⟨some 36, _, _, _, _, _⟩) rfl (by kernel_rfl) (by kernel_rfl) (by kernel_rfl) (fun _ _ _ h => h) (by rfl) (v := ?_) (fun w hSw => ?_) hS (fun hS => ?_)
              rotate_left
              · go_simp; try with_reducible rfl
              try go_frame
              refine held_pure (i := 1) (oi := ⟨some 37, _, _, _, _, _⟩) rfl (by kernel_rfl) (by kernel_rfl) (by kernel_rfl) (fun _ _ _ h => h) (by rfl) (v := .bool false) (fun w hSw => by go_simp) hS (fun hS => ?_)
              try go_frame
              refine held_pure (i := 2) (oi := ⟨some 38, _, _, _, _, _⟩) rfl (by kernel_rfl) (by kernel_rfl) (by kernel_rfl) (fun _ _ _ h => h) (by rfl) (v := ?_) (fun w hSw => ?_) hS (fun hS => ?_)
              rotate_left
              · go_simp; try with_reducible rfl
              try go_frame
              refine held_skip (i := 3) (oi := ⟨some 39, _, _, _, _, _⟩) rfl (by kernel_rfl) (by kernel_rfl) (by kernel_rfl) (fun _ _ _ h => h) (by rfl) hS (fun hS => ?_)
              try go_frame
              refine held_skip (i := 4) (oi := ⟨some 40, _, _, _, _, _⟩) rfl (by kernel_rfl) (by kernel_rfl) (by kernel_rfl) (fun _ _ _ h => h) (by rfl) hS (fun hS => ?_)
              try go_frame
              refine held_skip (i := 5) (oi := ⟨some 41, _, _, _, _, _⟩) rfl (by kernel_rfl) (by kernel_rfl) (by kernel_rfl) (fun _ _ _ h => h) (by rfl) hS (fun hS => ?_)
              try go_frame
              refine held_skip (i := 6) (oi := ⟨some 42, _, _, _, _, _⟩) rfl (by kernel_rfl) (by kernel_rfl) (by kernel_rfl) (fun _ _ _ h => h) (by rfl) hS (fun hS => ?_)
              try go_frame
              refine held_skip (i := 7) (oi := ⟨some 43, _, _, _, _, _⟩) rfl (by kernel_rfl) (by kernel_rfl) (by kernel_rfl) (fun _ _ _ h => h) (by rfl) hS (fun hS => ?_)
              try go_frame
              refine held_skip (i := 8) (oi := ⟨some 44, _, _, _, _, _⟩) rfl (by kernel_rfl) (by kernel_rfl) (by kernel_rfl) (fun _ _ _ h => h) (by rfl) hS (fun hS => ?_)
              try go_frame
              refine held_skip (i := 9) (oi := ⟨some 45, _, _, _, _, _⟩) rfl (by kernel_rfl) (by kernel_rfl) (by kernel_rfl) (fun _ _ _ h => h) (by rfl) hS (fun hS => ?_)
              try go_frame
              refine held_skip (i := 10) (oi := ⟨some 46, _, _, _, _, _⟩) rfl (by kernel_rfl) (by kernel_rfl) (by kernel_rfl) (fun _ _ _ h => h) (by rfl) hS (fun hS => ?_)
              try go_frame
              refine held_pure (i := 11) (oi := ⟨some 47, _, _, _, _, _⟩) rfl (by kernel_rfl) (by kernel_rfl) (by kernel_rfl) (fun _ _ _ h => h) (by rfl) (v := .bool false) (fun w hSw => by go_simp) hS (fun hS => ?_)
              try go_frame
              refine wpAnyH_done (by kernel_rfl) ?_ _
              generalize X.drew = Y at *
              have hBY := hBX.trans (hS.mono hBX.size)
              have hatY := hatX.below hS hzX
              have k10 := hatY.dat
              have k10X := hatX.dat
              have hownY := own_below hown (hyX.trans (hS.mono hyX.size))
              have hAY := (hAx2.below (hyX.trans (hS.mono hyX.size))).more (Nat.le_trans hyX.size hS.size)
              have hWY := Nat.le_trans hzr (Nat.le_trans hyX.size hS.size)
              go_wp2_with (first
                | ((with_reducible show wpList _ _ _ (Oper.mk _ (Op.load 22 _) _ _ _ _ :: _) _ _); refine wpList_val rfl (run_load_sl rfl rfl hatY.dat) ?_)
                | (at_builtin; refine append_rd rfl _ _ rfl W.heap.size (.slice P D.length p) D.length (row D) rfl hownY _ x.A' x.c' x.q.dat rfl hAY.none_ hAY.rd (by omega) hWY ?_; intro v3 w3 own3 grow3; have y3 := hBY.grown grow3 hWY (fun k hk => own_block_ge hownY k hk); obtain ⟨P3, p3, rfl, o3⟩ := own_made (bs := D ++ x.q.dat) own3 (List.length_append).symm (row_append _ _).symm))
              go_roundw
              case rel =>
                refine ⟨0 + 1, P3, p3, D ++ x.q.dat, by omega, by simp, by rw [List.length_append], Lib.hid (by rw [datas_take Q (by rw [HQn.out]; exact hlt), ← HDk.out, HXQ.out]), Lib.hid ?_, ?_, y3, o3⟩
                · intro i hi
                  omega
                · have h1 := datas_take_le Q (0 + 1)
                  rw [datas_take Q (by rw [HQn.out]; exact hlt), ← HDk.out, HXQ.out] at h1
                  exact Nat.le_trans h1 HD.out
              case measure => simp [intOf]; omega
            · obtain ⟨j, rfl⟩ : ∃ j, k = j + 1 := ⟨k - 1, by omega⟩
              obtain ⟨y, hy⟩ : ∃ y, l[j]? = some y := ⟨_, List.getElem?_eq_getElem (by rw [← HN.out]; omega)⟩
              have HYQ : Hid (Q.getD j p4z = y.q) := Lib.hid (by rw [HQ.out, List.getD_eq_getElem?_getD, List.getElem?_map, hy]; rfl)
              have hrj0 := range_below (range_below (HRR.out j y hy) hb1 hBW) (Nat.lt_of_lt_of_le hb1 hBW.size) hbel
              have hwj : IntKind.i64.wrap (j : Int) = (j : Int) := IntWalk.i64_in _ (by omega)
              have hyd := HDX.out y (List.mem_of_getElem? hy)
              have hyo : 0 ≤ y.q.off ∧ y.q.off ≤ 65535 := by have h1 := HCA.out j (by omega); rw [HYQ.out] at h1; exact off_bd h1
              go_upto_region 14 with (first
                | ((with_reducible show wpList _ _ _ (Oper.mk _ (Op.load 24 _) _ _ _ _ :: _) _ _); refine wpList_val (v := .agg (v4a x.q x.A x.c x.A' x.c')) rfl (run_load_v4o rfl rfl hrx rfl) ?_)
                | ((with_reducible show wpList _ _ _ (Oper.mk _ (Op.store 24 _ _) _ _ _ _ :: _) _ _); refine v4_store_new (cs := v4a x.q x.A x.c x.A' x.c') rfl rfl rfl rfl (v4a_one _ _ _ _ _) ?_))
              have hyX : Below wr.heap.size wr (wr.alloc (.cells (v4a x.q x.A x.c x.A' x.c') 24)) := (Below.refl _ wr).alloc (Nat.le_refl _) _
              obtain ⟨bx, hbxe⟩ : ∃ b, b = wr.heap.size := ⟨_, rfl⟩
              rw [← hbxe] at hAt hzx ⊢
              clear hbxe
              generalize wr.alloc (.cells (v4a x.q x.A x.c x.A' x.c') 24) = X at *
              have hatX := hAt
              have hzX := hzx
              have hBX := hbx
              have hrj := range_below hrj0 (Nat.lt_of_lt_of_le hb1 (Nat.le_trans hBW.size hzr)) hyX
              have hbX : b1 < X.heap.size := Nat.lt_of_lt_of_le (Nat.lt_of_lt_of_le hb1 (Nat.le_trans hBW.size hzr)) hyX.size
              cases hfo : fol y.q x.q with
              | true =>
                have HF := Lib.hid hfo
                clear hfo
                refine wp_region_held_drew (S := fun w' => Below X.heap.size X w') (by kernel_rfl) (Below.refl _ X).drew (fun hS => ?_)
                refine held_pure (i := 0) (oi := ⟨some 36, _, _, _, _, _⟩) rfl (by kernel_rfl) (by kernel_rfl) (by kernel_rfl) (fun _ _ _ h => h) (by rfl) (v := ?_) (fun w hSw => ?_) hS (fun hS => ?_)
                rotate_left
                · go_simp; try with_reducible rfl
                try go_frame
                refine held_pure (i := 1) (oi := ⟨some 37, _, _, _, _, _⟩) rfl (by kernel_rfl) (by kernel_rfl) (by kernel_rfl) (fun _ _ _ h => h) (by rfl) (v := .bool true) (fun w hSw => by go_simp) hS (fun hS => ?_)
                try go_frame
                refine held_pure (i := 2) (oi := ⟨some 38, _, _, _, _, _⟩) rfl (by kernel_rfl) (by kernel_rfl) (by kernel_rfl) (fun _ _ _ h => h) (by rfl) (v := ?_) (fun w hSw => ?_) hS (fun hS => ?_)
                rotate_left
                · go_simp; try with_reducible rfl
                try go_frame
                refine held_pure (i := 3) (oi := ⟨some 39, _, _, _, _, _⟩) rfl (by kernel_rfl) (by kernel_rfl) (by kernel_rfl) (fun _ _ _ h => h) (by rfl) (v := ?_) (fun w hSw => ?_) hS (fun hS => ?_)
                rotate_left
                · go_simp; try with_reducible rfl
                try go_frame
                refine held_pure (i := 4) (oi := ⟨some 40, _, _, _, _, _⟩) rfl (by kernel_rfl) (by kernel_rfl) (by kernel_rfl) (fun _ _ _ h => h) (by rfl) (v := ?_) (fun w hSw => ?_) hS (fun hS => ?_)
                rotate_left
                · go_simp; try with_reducible rfl
                try go_frame
                refine held_pure (i := 5) (oi := ⟨some 41, _, _, _, _, _⟩) rfl (by kernel_rfl) (by kernel_rfl) (by kernel_rfl) (fun _ _ _ h => h) (by rfl) (v := .int .i64 (j : Int)) (fun w hSw => by go_simp) hS (fun hS => ?_)
                try go_frame
                refine held_pure (i := 6) (oi := ⟨some 42, _, _, _, _, _⟩) rfl (by kernel_rfl) (by kernel_rfl) (by kernel_rfl) (fun _ _ _ h => h) (by rfl) (v := Value.pointer (some ⟨b1, o1 + j * 11, none⟩)) (fun w hSw => by go_simp; exact fun h => absurd h (by omega)) hS (fun hS => ?_)
                try go_frame
                refine held_pure (i := 7) (oi := ⟨some 43, _, _, _, _, _⟩) rfl (by kernel_rfl) (by kernel_rfl) (by kernel_rfl) (fun _ _ _ h => h) (by rfl) (fun w hSw => run_load_v4o rfl rfl (range_below hrj hbX hSw) rfl) hS (fun hS => ?_)
                try go_frame
                refine held_pure (i := 8) (oi := ⟨some 44, _, _, _, _, _⟩) rfl (by kernel_rfl) (by kernel_rfl) (by kernel_rfl) (fun _ _ _ h => h) (by rfl) (fun w hSw => run_load_v4 rfl rfl (hatX.below hSw hzX) rfl) hS (fun hS => ?_)
                try go_frame
                refine wpAnyH_ready (rs := [9]) (by kernel_rfl) (by simp) (AllReadyH.cons (o := ⟨some 45, _, _, _, _, _⟩) rfl (fun K hK => ?_) AllReadyH.nil)
                rw [if_pos (by rfl)]
                go_simp
                refine (c13follows y.q x.q y.A y.c y.A' y.c' x.A x.c x.A' x.c' _ hyo hyd).mono ?_
                rintro e w9 ⟨rfl, x9⟩
                rw [HF.out]
                show K _ _
                refine hK.out _ _ (below_step hS x9) (fun hS => ?_)
                clear hK K
                try go_frame
                refine held_pure (i := 10) (oi := ⟨some 46, _, _, _, _, _⟩) rfl (by kernel_rfl) (by kernel_rfl) (by kernel_rfl) (fun _ _ _ h => h) (by rfl) (v := ?_) (fun w hSw => ?_) hS (fun hS => ?_)
                rotate_left
                · go_simp; try with_reducible rfl
                try go_frame
                refine held_pure (i := 11) (oi := ⟨some 47, _, _, _, _, _⟩) rfl (by kernel_rfl) (by kernel_rfl) (by kernel_rfl) (fun _ _ _ h => h) (by rfl) (v := .bool false) (fun w hSw => by go_simp) hS (fun hS => ?_)
                try go_frame
                refine wpAnyH_done (by kernel_rfl) ?_ _
                have hBY := hBX.trans (hS.mono hBX.size)
                have hatY := hatX.below hS hzX
                have k10 := hatY.dat
                have k10X := hatX.dat
                have hownY := own_below hown (hyX.trans (hS.mono hyX.size))
                have hAY := (hAx2.below (hyX.trans (hS.mono hyX.size))).more (Nat.le_trans hyX.size hS.size)
                have hWY := Nat.le_trans hzr (Nat.le_trans hyX.size hS.size)
                go_wp2_with (first
                  | ((with_reducible show wpList _ _ _ (Oper.mk _ (Op.load 22 _) _ _ _ _ :: _) _ _); refine wpList_val rfl (run_load_sl rfl rfl hatY.dat) ?_)
                  | (at_builtin; refine append_rd rfl _ _ rfl W.heap.size (.slice P D.length p) D.length (row D) rfl hownY _ x.A' x.c' x.q.dat rfl hAY.none_ hAY.rd (by omega) hWY ?_; intro v3 w3 own3 grow3; have y3 := hBY.grown grow3 hWY (fun k hk => own_block_ge hownY k hk); obtain ⟨P3, p3, rfl, o3⟩ := own_made (bs := D ++ x.q.dat) own3 (List.length_append).symm (row_append _ _).symm))
                go_roundw
                case rel =>
                  refine ⟨(j + 1) + 1, P3, p3, D ++ x.q.dat, by omega, by simp, by rw [List.length_append], Lib.hid (by rw [datas_take Q (by rw [HQn.out]; exact hlt), ← HDk.out, HXQ.out]), Lib.hid ?_, ?_, y3, o3⟩
                  · intro i hi
                    rcases Nat.lt_or_ge (i + 1) (j + 1) with h | h
                    · exact HCH.out i h
                    · rw [show i = j by omega, HYQ.out, HXQ.out]; exact HF.out
                  · have h1 := datas_take_le Q ((j + 1) + 1)
                    rw [datas_take Q (by rw [HQn.out]; exact hlt), ← HDk.out, HXQ.out] at h1
                    exact Nat.le_trans h1 HD.out
                case measure => simp [intOf]; omega
              | false =>
                have HF := Lib.hid hfo
                clear hfo
                have HE : Hid (glE Q = 4) := Lib.hid (by
                  rw [glE, if_neg (by rw [HQn.out]; exact h0), bad1_ok Q (by rw [HQn.out]; exact HCA.out), if_pos rfl, if_neg (fun h => by
                    have h1 := h j (by rw [HQn.out]; exact hlt)
                    rw [HYQ.out, HXQ.out, HF.out] at h1; cases h1)])
                have HV : Hid (glV Q = p4z) := Lib.hid (by rw [glV, HE.out, if_neg (by decide)])
                refine wp_region_held_drew (S := fun w' => Below X.heap.size X w') (by kernel_rfl) (Below.refl _ X).drew (fun hS => ?_)
                refine held_pure (i := 0) (oi := ⟨some 36, _, _, _, _, _⟩) rfl (by kernel_rfl) (by kernel_rfl) (by kernel_rfl) (fun _ _ _ h => h) (by rfl) (v := ?_) (fun w hSw => ?_) hS (fun hS => ?_)
                rotate_left
                · go_simp; try with_reducible rfl
                try go_frame
                refine held_pure (i := 1) (oi := ⟨some 37, _, _, _, _, _⟩) rfl (by kernel_rfl) (by kernel_rfl) (by kernel_rfl) (fun _ _ _ h => h) (by rfl) (v := .bool true) (fun w hSw => by go_simp) hS (fun hS => ?_)
                try go_frame
                refine held_pure (i := 2) (oi := ⟨some 38, _, _, _, _, _⟩) rfl (by kernel_rfl) (by kernel_rfl) (by kernel_rfl) (fun _ _ _ h => h) (by rfl) (v := ?_) (fun w hSw => ?_) hS (fun hS => ?_)
                rotate_left
                · go_simp; try with_reducible rfl
                try go_frame
                refine held_pure (i := 3) (oi := ⟨some 39, _, _, _, _, _⟩) rfl (by kernel_rfl) (by kernel_rfl) (by kernel_rfl) (fun _ _ _ h => h) (by rfl) (v := ?_) (fun w hSw => ?_) hS (fun hS => ?_)
                rotate_left
                · go_simp; try with_reducible rfl
                try go_frame
                refine held_pure (i := 4) (oi := ⟨some 40, _, _, _, _, _⟩) rfl (by kernel_rfl) (by kernel_rfl) (by kernel_rfl) (fun _ _ _ h => h) (by rfl) (v := ?_) (fun w hSw => ?_) hS (fun hS => ?_)
                rotate_left
                · go_simp; try with_reducible rfl
                try go_frame
                refine held_pure (i := 5) (oi := ⟨some 41, _, _, _, _, _⟩) rfl (by kernel_rfl) (by kernel_rfl) (by kernel_rfl) (fun _ _ _ h => h) (by rfl) (v := .int .i64 (j : Int)) (fun w hSw => by go_simp) hS (fun hS => ?_)
                try go_frame
                refine held_pure (i := 6) (oi := ⟨some 42, _, _, _, _, _⟩) rfl (by kernel_rfl) (by kernel_rfl) (by kernel_rfl) (fun _ _ _ h => h) (by rfl) (v := Value.pointer (some ⟨b1, o1 + j * 11, none⟩)) (fun w hSw => by go_simp; exact fun h => absurd h (by omega)) hS (fun hS => ?_)
                try go_frame
                refine held_pure (i := 7) (oi := ⟨some 43, _, _, _, _, _⟩) rfl (by kernel_rfl) (by kernel_rfl) (by kernel_rfl) (fun _ _ _ h => h) (by rfl) (fun w hSw => run_load_v4o rfl rfl (range_below hrj hbX hSw) rfl) hS (fun hS => ?_)
                try go_frame
                refine held_pure (i := 8) (oi := ⟨some 44, _, _, _, _, _⟩) rfl (by kernel_rfl) (by kernel_rfl) (by kernel_rfl) (fun _ _ _ h => h) (by rfl) (fun w hSw => run_load_v4 rfl rfl (hatX.below hSw hzX) rfl) hS (fun hS => ?_)
                try go_frame
                refine wpAnyH_ready (rs := [9]) (by kernel_rfl) (by simp) (AllReadyH.cons (o := ⟨some 45, _, _, _, _, _⟩) rfl (fun K hK => ?_) AllReadyH.nil)
                rw [if_pos (by rfl)]
                go_simp
                refine (c13follows y.q x.q y.A y.c y.A' y.c' x.A x.c x.A' x.c' _ hyo hyd).mono ?_
                rintro e w9 ⟨rfl, x9⟩
                rw [HF.out]
                show K _ _
                refine hK.out _ _ (below_step hS x9) (fun hS => ?_)
                clear hK K
                try go_frame
                refine held_pure (i := 10) (oi := ⟨some 46, _, _, _, _, _⟩) rfl (by kernel_rfl) (by kernel_rfl) (by kernel_rfl) (fun _ _ _ h => h) (by rfl) (v := ?_) (fun w hSw => ?_) hS (fun hS => ?_)
                rotate_left
                · go_simp; try with_reducible rfl
                try go_frame
                refine held_pure (i := 11) (oi := ⟨some 47, _, _, _, _, _⟩) rfl (by kernel_rfl) (by kernel_rfl) (by kernel_rfl) (fun _ _ _ h => h) (by rfl) (v := .bool true) (fun w hSw => by go_simp) hS (fun hS => ?_)
                try go_frame
                refine wpAnyH_done (by kernel_rfl) ?_ _
                have hBY := hBX.trans (hS.mono hBX.size)
                have hrow2 := (hBY.block g hgz).trans hrow
                go_wp2_with ((with_reducible show wpList _ _ _ (Oper.mk _ (Op.store 24 _ _) _ _ _ _ :: _) _ _); refine v4_store (g := g) (cs := v4a p4z none 0 none 0) rfl rfl hrow2 rfl rfl (v4a_one _ _ _ _ _) ?_)
                exact bodyPost_ret (res2 rfl rfl (run_loadVar_row _ _ _ 24 (v4a p4z none 0 none 0) _ _ (setRow_heap _ _ _ _ _ _ hrow2) Try.underlying24 rfl (by kernel_rfl))) rfl ⟨none, 0, none, 0, by rw [HV.out, HE.out]; rfl, by rw [HV.out]; exact Arg.nil _ _, by rw [HV.out]; exact Arg.nil _ _, below_row (hBW.trans (hBY.mono (by have := hBW.size; omega))) (by have := HG.out; omega)⟩
          · skip
            obtain rfl : k = n := by omega
            have HDA : Hid (D = datas Q) := Lib.hid (by rw [HDk.out, List.take_of_length_le (by rw [HQn.out]; exact Nat.le_refl _)])
            have HB1 : Hid (bad1 Q = 0) := Lib.hid (bad1_ok Q (by rw [HQn.out]; exact HCA.out))
            obtain ⟨m, rfl⟩ : ∃ m, k = m + 1 := ⟨k - 1, by omega⟩
            obtain ⟨x, hx⟩ : ∃ x, l[0]? = some x := ⟨_, List.getElem?_eq_getElem (by rw [← HN.out]; omega)⟩
            obtain ⟨y, hy⟩ : ∃ y, l[m]? = some y := ⟨_, List.getElem?_eq_getElem (by rw [← HN.out]; omega)⟩
            have hxm := List.mem_of_getElem? hx
            have hzr := hbel.size
            have hrx := range_below (range_below (HRR.out 0 x hx) hb1 hBW) (Nat.lt_of_lt_of_le hb1 hBW.size) hbel
            rw [Nat.zero_mul, Nat.add_zero] at hrx
            have hry := range_below (range_below (HRR.out m y hy) hb1 hBW) (Nat.lt_of_lt_of_le hb1 hBW.size) hbel
            have kyr : wr.cell? ⟨b1, o1 + m * 11 + 8, none⟩ = some (.bool y.q.mf) := hry 8 _ rfl
            have hxo := HO.out x hxm
            have hxd := HDX.out x hxm
            have HW : Hid (whl Q = { x.q with mf := y.q.mf, dat := D }) := Lib.hid (by
              rw [whl, HQn.out, HDA.out, Nat.add_sub_cancel]
              rw [show Q.getD 0 p4z = x.q by rw [HQ.out, List.getD_eq_getElem?_getD, List.getElem?_map, hx]; rfl, show Q.getD m p4z = y.q by rw [HQ.out, List.getD_eq_getElem?_getD, List.getElem?_map, hy]; rfl])
            obtain ⟨M, hM⟩ : ∃ M, M = y.q.mf := ⟨_, rfl⟩
            rw [← hM] at kyr HW
            clear hM hry hy
            have hAx1 := (((HL.out.arg x hxm).1.below (hBW.mono hB)).below (hbel.mono hBz)).more (Nat.le_trans hBz hzr)
            have hrow10 := World.alloc_heap_new wr (.cells (v4a x.q x.A x.c x.A' x.c') 24)
            have hyX : Below wr.heap.size wr (wr.alloc (.cells (v4a x.q x.A x.c x.A' x.c') 24)) := (Below.refl _ wr).alloc (Nat.le_refl _) _
            go_upto_region 19 with (first
              | ((with_reducible show wpList _ _ _ (Oper.mk _ (Op.load 24 _) _ _ _ _ :: _) _ _); refine wpList_val (v := .agg (v4a x.q x.A x.c x.A' x.c')) rfl (run_load_v4o rfl rfl hrx rfl) ?_)
              | ((with_reducible show wpList _ _ _ (Oper.mk _ (Op.store 24 _ _) _ _ _ _ :: _) _ _); refine v4_store_new (cs := v4a x.q x.A x.c x.A' x.c') rfl rfl rfl rfl (v4a_one _ _ _ _ _) ?_))
            obtain ⟨b, hb⟩ : ∃ b, b = wr.heap.size := ⟨_, rfl⟩
            have hbW : W.heap.size ≤ b := by omega
            rw [← hb] at hrow10 ⊢
            have HBe := Lib.hid hb
            clear hb
            have kyX := (hyX.cell (show b1 < wr.heap.size from Nat.lt_of_lt_of_le (Nat.lt_of_lt_of_le hb1 hBW.size) hzr)).trans kyr
            have hBX := hbel.trans (hyX.mono hzr)
            have hownX := own_below hown hyX
            have hAxX := hAx1.below hyX
            rw [← HBe.out] at hAxX
            clear hown hAx1 kyr hyX
            generalize wr.alloc (.cells (v4a x.q x.A x.c x.A' x.c') 24) = X at *
            have k8 := (at4_of hrow10).mf
            have f8 := heap_frozen hrow10 8
            go_upto_region 20 with fail
            have row8 : (X.setCell ⟨b, 8, none⟩ (.bool M)).heap[b]? = some (.cells (v4a { x.q with mf := M } x.A x.c x.A' x.c') 24 (0, 0)) := heap_setCell_same X b 8 _ _ (.bool M) hrow10
            have hB8 := hBX.setCell (p := ⟨b, 8, none⟩) hbW (.bool M)
            have hbX := heap_lt hrow10
            have hA8 := hAxX.below ((Below.refl b X).setCell (p := ⟨b, 8, none⟩) (Nat.le_refl _) (.bool M))
            have hown8 := own_setCellB (i := 8) (u := .bool M) hownX hrow10 hTu
            clear k8 f8 kyX hrow10 hBX hownX hAxX
            generalize X.setCell ⟨b, 8, none⟩ (.bool M) = X8 at *
            have hbz := heap_lt row8
            have k9 := (at4_of row8).opt
            go_upto_region 21 with (first
              | ((with_reducible show wpList _ _ _ (Oper.mk _ (Op.load 22 _) _ _ _ _ :: _) _ _); refine wpList_val rfl (run_load_sl rfl rfl k9) ?_)
              | (go_at_call 37; refine (clone_any x.A x.q.opt x.c b X8 hA8 (Nat.le_of_lt hbz) (Nat.le_trans hxo (by omega))).mono ?_; rintro e w3 ⟨v3, rfl, m3⟩; obtain ⟨P', p', rfl, g3, o3, y3⟩ := made_shape m3; have row3 := (y3.block b hbz).trans row8; have c9 : w3.cell? ⟨b, 9, none⟩ = some (.slice x.A x.q.opt.length x.c) := by { rw [cell_of_row _ _ _ _ _ _ row3]; rfl }; have c10 : w3.cell? ⟨b, 10, none⟩ = some (.slice x.A' x.q.dat.length x.c') := by { rw [cell_of_row _ _ _ _ _ _ row3]; rfl }; have f9 := heap_frozen row3 9; have f10 := heap_frozen row3 10))
            have row4 := heap_setCell_same w3 b 9 _ _ (.slice P' x.q.opt.length p') row3
            have row5 := heap_setCell_same _ b 10 _ _ (.slice P D.length p) row4
            have row5 : ((w3.setCell ⟨b, 9, none⟩ (.slice P' x.q.opt.length p')).setCell ⟨b, 10, none⟩ (.slice P D.length p)).heap[b]? = some (.cells (v4a { x.q with mf := M, dat := D } P' p' P p) 24 (0, 0)) := row5
            have hz3 := hB8.size
            have ow5 := own_setCellB (i := 10) (u := .slice P D.length p) (own_setCellB (i := 9) (u := .slice P' x.q.opt.length p') (own_base o3 hz3) row3 hTu) row4 hTu
            have ow6 := own_setCellB (i := 10) (u := .slice P D.length p) (own_setCellB (i := 9) (u := .slice P' x.q.opt.length p') (own_below hown8 y3) row3 hTu) row4 hTu
            have hB5 := ((hB8.trans (y3.mono hz3)).setCell (p := ⟨b, 9, none⟩) hbW (.slice P' x.q.opt.length p')).setCell (p := ⟨b, 10, none⟩) hbW (.slice P D.length p)
            clear row4 row3 c9 c10 f9 f10 k9 m3 g3 o3 hown8 hA8 row8 hB8 hbz
            generalize (w3.setCell ⟨b, 9, none⟩ (.slice P' x.q.opt.length p')).setCell ⟨b, 10, none⟩ (.slice P D.length p) = V5 at *
            have at5 := at4_of row5
            have hb5 := heap_lt row5
            have hqo : ({ x.q with mf := M, dat := D } : P4).opt.length ≤ 1000000 := hxo
            have hqd : ({ x.q with mf := M, dat := D } : P4).dat.length ≤ 1000000 := hDl
            have hqe : ({ x.q with mf := M, dat := D } : P4).opt = x.q.opt := rfl
            have hqf : ({ x.q with mf := M, dat := D } : P4).dat = D := rfl
            rw [← hqe] at ow5
            rw [show D.length = ({ x.q with mf := M, dat := D } : P4).dat.length from rfl, show row D = row ({ x.q with mf := M, dat := D } : P4).dat from rfl] at ow6
            clear hqe hqf
            generalize ({ x.q with mf := M, dat := D } : P4) = q5 at *
            by_cases hck : chk4 q5 = 0
            · have HCX := Lib.hid hck
              have HE : Hid (glE Q = 0) := Lib.hid (by rw [glE, if_neg (by rw [HQn.out]; exact Nat.succ_ne_zero m), if_pos HB1.out, if_pos (by rw [HQn.out]; exact HCH.out), HW.out, HCX.out])
              have HV : Hid (glV Q = q5) := Lib.hid (by rw [glV, if_pos HE.out, HW.out])
              clear hck
              go_wp2_with (first
                | ((with_reducible show wpList _ _ _ (Oper.mk _ (Op.load 24 _) _ _ _ _ :: _) _ _); refine wpList_val rfl (run_load_v4 rfl rfl at6 rfl) ?_)
                | ((with_reducible show wpList _ _ _ (Oper.mk _ (Op.load 24 _) _ _ _ _ :: _) _ _); refine wpList_val rfl (run_load_v4 rfl rfl at5 rfl) ?_)
                | (go_at_call 19; refine (c4check q5 P' p' P p _ hqo hqd).mono ?_; rintro e w6 ⟨rfl, x6⟩; rw [HCX.out]; have at6 := at5.below x6 hb5; have hB6 := hB5.trans (x6.mono hB5.size); have hrow6 := (hB6.block g hgz).trans hrow)
                | ((with_reducible show wpList _ _ _ (Oper.mk _ (Op.store 24 _ _) _ _ _ _ :: _) _ _); refine v4_store (g := g) (cs := v4a q5 P' p' P p) rfl rfl hrow6 rfl rfl (v4a_one _ _ _ _ _) ?_))
              have e1 := arg_own (own_setRowB (cs' := v4a q5 P' p' P p) (own_below ow5 x6) hrow6 hTu)
              have e2 := arg_own (own_setRowB (cs' := v4a q5 P' p' P p) (own_below ow6 x6) hrow6 hTu)
              exact bodyPost_ret (res2 rfl rfl (run_loadVar_row _ _ _ 24 (v4a q5 P' p' P p) _ _ (setRow_heap _ _ _ _ _ _ hrow6) Try.underlying24 rfl (by kernel_rfl))) rfl ⟨P', p', P, p, by rw [HV.out, HE.out]; rfl, by rw [HV.out]; exact e1, by rw [HV.out]; exact e2, below_row (hBW.trans (hB6.mono (by have := hBW.size; omega))) (by have := HG.out; omega)⟩
            · obtain ⟨ce, hce⟩ : ∃ z, z = chk4 q5 := ⟨_, rfl⟩
              have HCX := Lib.hid hce.symm
              have dC : (ce != 0) = true := by rw [hce]; simpa using hck
              have HE : Hid (glE Q = ce) := Lib.hid (by rw [glE, if_neg (by rw [HQn.out]; exact Nat.succ_ne_zero m), if_pos HB1.out, if_pos (by rw [HQn.out]; exact HCH.out), HW.out, HCX.out])
              have HV : Hid (glV Q = p4z) := Lib.hid (by rw [glV, HE.out, hce, if_neg hck])
              clear hck hce
              go_upto_region 23 with (first
                | ((with_reducible show wpList _ _ _ (Oper.mk _ (Op.load 24 _) _ _ _ _ :: _) _ _); refine wpList_val rfl (run_load_v4 rfl rfl at5 rfl) ?_)
                | (go_at_call 19; refine (c4check q5 P' p' P p _ hqo hqd).mono ?_; rintro e w6 ⟨rfl, x6⟩; rw [HCX.out]))
              have hB6 := hB5.trans (x6.mono hB5.size)
              have hrow6 := (hB6.block g hgz).trans hrow
              go_wp2_with ((with_reducible show wpList _ _ _ (Oper.mk _ (Op.store 24 _ _) _ _ _ _ :: _) _ _); refine v4_store (g := g) (cs := v4a p4z none 0 none 0) rfl rfl hrow6 rfl rfl (v4a_one _ _ _ _ _) ?_)
              exact bodyPost_ret (res2 rfl rfl (run_loadVar_row _ _ _ 24 (v4a p4z none 0 none 0) _ _ (setRow_heap _ _ _ _ _ _ hrow6) Try.underlying24 rfl (by kernel_rfl))) rfl ⟨none, 0, none, 0, by rw [HV.out, HE.out]; rfl, by rw [HV.out]; exact Arg.nil _ _, by rw [HV.out]; exact Arg.nil _ _, below_row (hBW.trans (hB6.mono (by have := hBW.size; omega))) (by have := HG.out; omega)⟩
end Go.Proofs.Ytcebobcakiljhaa

/-
  Contract of the document's Glue of layer 13. Conditions are each theorem's own.
-/
namespace Go.Proofs.Ytcebobcakiljhaa
open Go.RowKit Go.Shelf

theorem own_keepB {w w' : World} {base E n n' s s' e e' : Nat} {v v' : Value} {xs xs' : List Value} (h : w.ownsRow base e s v n xs) (hs : ∀ k, v.ownBlock = some k → k < E) (hv : w.ownsRow E e' s' v' n' xs') (hg : w.grownBy w' v'.ownBlock) : w'.ownsRow base e s v n xs := by
  refine h.kept hg ?_
  rcases h.2 with ⟨rfl, _⟩ | ⟨g, cap, cur, rfl, _, hgb, _⟩
  · exact .inl rfl
  · refine .inr fun e1 => ?_
    rcases hv.2 with ⟨rfl, _⟩ | ⟨g2, cap2, cur2, rfl, hb2, hgb2, _⟩
    · simp [Value.ownBlock] at e1
    · have e2 : g = g2 := by simpa [Value.ownBlock] using e1
      have := hs g (by simp [Value.ownBlock])
      omega
set_option maxRecDepth 100000 in
set_option maxHeartbeats 20000000 in
theorem r13glue (AL : Option Addr) (cL : Nat) (l : List X4) (B : Nat) (w : World) (hL : L4 w B AL l) (hB : B ≤ w.heap.size) (hc : l.length ≤ cL) (hlen : l.length ≤ 1000000) (hd : (datas (l.map (·.q))).length ≤ 1000000) (ho : ∀ x ∈ l, x.q.opt.length ≤ 1000000) :
    Calls Try.prog 16 #[.slice AL l.length cL] w fun e w' => ∃ P p P' p', e = .returned (.tuple #[v4v (glV (l.map (·.q))) P p P' p', .int .i64 (glE (l.map (·.q)))]) ∧ Arg w' w'.heap.size P p (glV (l.map (·.q))).opt ∧ Arg w' w'.heap.size P' p' (glV (l.map (·.q))).dat ∧ Below w.heap.size w w' := by
  have hTu : 24 ≠ 5 := nat_ne (by kernel_rfl)
  have HDX : Hid (∀ x ∈ l, x.q.dat.length ≤ 1000000) := Lib.hid fun x hx => Nat.le_trans (mem_datas (List.mem_map.2 ⟨x, hx, rfl⟩)) hd
  obtain ⟨n, hn⟩ : ∃ n, n = l.length := ⟨_, rfl⟩
  have HN := Lib.hid hn
  rw [← hn] at hc hlen ⊢
  obtain ⟨Q, hQ⟩ : ∃ Q, Q = l.map (·.q) := ⟨_, rfl⟩
  have HQ := Lib.hid hQ
  have HQn : Hid (Q.length = n) := Lib.hid (by rw [hQ, List.length_map, hn])
  rw [← hQ] at hd ⊢
  have HL := Lib.hid hL
  have HO := Lib.hid ho
  have HD := Lib.hid hd
  clear hn hQ hL ho hd
  have hBW : Below w.heap.size w (w.alloc (.cells (v4a p4z none 0 none 0) 24)) := (Below.refl w.heap.size w).alloc (Nat.le_refl _) _
  have hrow := World.alloc_heap_new w (.cells (v4a p4z none 0 none 0) 24)
  obtain ⟨g, hg⟩ : ∃ g, g = w.heap.size := ⟨_, rfl⟩
  go_enter Try.func16, Try.ntmps16
  go_upto_region 1 with fail
  rw [show #[.int .i64 0, .int .i64 0, .int .i64 0, .int .i64 0, .int .i64 0, .int .i64 0, .int .i64 0, .bool false, .bool false, .slice none 0 0, .slice none 0 0] = v4a p4z none 0 none 0 from rfl]
  generalize w.alloc (.cells (v4a p4z none 0 none 0) 24) = W at *
  rw [← hg] at hrow ⊢
  have HG := Lib.hid hg
  have hgz := heap_lt hrow
  have hBz : B ≤ W.heap.size := by have := hBW.size; omega
  by_cases h0 : n = 0
  · subst h0
    have HE : Hid (glE Q = 1) := Lib.hid (by rw [glE, if_pos HQn.out])
    have HV : Hid (glV Q = p4z) := Lib.hid (by rw [glV, HE.out, if_neg (by decide)])
    clear hg
    go_wp2_with ((with_reducible show wpList _ _ _ (Oper.mk _ (Op.store 24 _ _) _ _ _ _ :: _) _ _); refine v4_store (g := g) (cs := v4a p4z none 0 none 0) rfl rfl hrow rfl rfl (v4a_one _ _ _ _ _) ?_)
    exact bodyPost_ret (res2 rfl rfl (run_loadVar_row _ _ _ 24 (v4a p4z none 0 none 0) _ _ (setRow_heap _ _ _ _ _ _ hrow) Try.underlying24 rfl (by kernel_rfl))) rfl ⟨none, 0, none, 0, by rw [HV.out, HE.out]; rfl, by rw [HV.out]; exact Arg.nil _ _, by rw [HV.out]; exact Arg.nil _ _, below_row hBW (by have := HG.out; omega)⟩
  · have d0 : ((n : Int) == 0) = false := by simp; omega
    obtain ⟨b1, o1, e1, hb1', hr1'⟩ := HL.out.rd (by rw [← HN.out]; omega)
    have hb1 : b1 < w.heap.size := by omega
    have hwg : w.heap.size ≤ g := by omega
    clear hg
    have HRR : Hid (∀ (k : Nat) (x : X4), l[k]? = some x → w.rangeAt b1 (o1 + k * 11) (cl4 x)) := Lib.hid hr1'
    obtain rfl := e1
    clear hb1' hr1'
    go_wp2
    go_loopw [4] (fun i wr => ∃ k : Nat, k ≤ n ∧ i = .int .i64 (k : Int) ∧ Hid (∀ i, i < k → chk4 (Q.getD i p4z) = 0) ∧ Below W.heap.size W wr)
      (fun i _ => n - (intOf i).toNat)
    case atStart => exact ⟨0, Nat.zero_le _, rfl, Lib.hid (fun i h => absurd h (Nat.not_lt_zero _)), Below.refl _ _⟩
    case round =>
      obtain ⟨k, hk, rfl, HC, hbel⟩ := hrel
      by_cases hlt : k < n
      · skip
        obtain ⟨x, hx⟩ : ∃ x, l[k]? = some x := ⟨_, List.getElem?_eq_getElem (by rw [← HN.out]; exact hlt)⟩
        have hxm := List.mem_of_getElem? hx
        have HXQ : Hid (Q.getD k p4z = x.q) := Lib.hid (by rw [HQ.out, List.getD_eq_getElem?_getD, List.getElem?_map, hx]; rfl)
        have hrx := range_below (range_below (HRR.out k x hx) hb1 hBW) (Nat.lt_of_lt_of_le hb1 hBW.size) hbel
        have hzr := hbel.size
        have hxo := HO.out x hxm
        have hxd := HDX.out x hxm
        by_cases hck : chk4 x.q = 0
        · have HCX := Lib.hid hck
          go_wp2_with (first
            | ((with_reducible show wpList _ _ _ (Oper.mk _ (Op.load 24 _) _ _ _ _ :: _) _ _); refine wpList_val (v := .agg (v4a x.q x.A x.c x.A' x.c')) rfl (run_load_v4o rfl rfl hrx rfl) ?_)
            | (go_at_call 30; refine (r5check x.q x.A x.c x.A' x.c' _ hxo hxd).mono ?_; rintro e w2 ⟨rfl, x2⟩; rw [HCX.out]))
          go_roundw
          case rel =>
            refine ⟨k + 1, by omega, by simp, Lib.hid (fun i hi => ?_), hbel.trans (x2.mono hzr)⟩
            rcases Nat.lt_or_ge i k with h | h
            · exact HC.out i h
            · rw [show i = k by omega, HXQ.out]; exact HCX.out
          case measure => simp [intOf]; omega
        · obtain ⟨ce, hce⟩ : ∃ z, z = chk4 x.q := ⟨_, rfl⟩
          have HCX := Lib.hid hce.symm
          have dC : (ce != 0) = true := by rw [hce]; simpa using hck
          have HE : Hid (glE Q = ce) := Lib.hid (by rw [glE, if_neg (by rw [HQn.out]; exact h0), bad1_at Q k HC.out (by rw [HQn.out]; exact hlt) (by rw [HXQ.out]; exact hck), HXQ.out, if_neg hck, hce])
          have HV : Hid (glV Q = p4z) := Lib.hid (by rw [glV, HE.out, hce, if_neg hck])
          clear hck hce
          go_upto_region 8 with (first
            | ((with_reducible show wpList _ _ _ (Oper.mk _ (Op.load 24 _) _ _ _ _ :: _) _ _); refine wpList_val (v := .agg (v4a x.q x.A x.c x.A' x.c')) rfl (run_load_v4o rfl rfl hrx rfl) ?_)
            | (go_at_call 30; refine (r5check x.q x.A x.c x.A' x.c' _ hxo hxd).mono ?_; rintro e w2 ⟨rfl, x2⟩; rw [HCX.out]))
          have hB2 := hbel.trans (x2.mono hzr)
          have hrow2 := (hB2.block g hgz).trans hrow
          go_wp2_with ((with_reducible show wpList _ _ _ (Oper.mk _ (Op.store 24 _ _) _ _ _ _ :: _) _ _); refine v4_store (g := g) (cs := v4a p4z none 0 none 0) rfl rfl hrow2 rfl rfl (v4a_one _ _ _ _ _) ?_)
          exact bodyPost_ret (res2 rfl rfl (run_loadVar_row _ _ _ 24 (v4a p4z none 0 none 0) _ _ (setRow_heap _ _ _ _ _ _ hrow2) Try.underlying24 rfl (by kernel_rfl))) rfl ⟨none, 0, none, 0, by rw [HV.out, HE.out]; rfl, by rw [HV.out]; exact Arg.nil _ _, by rw [HV.out]; exact Arg.nil _ _, below_row (hBW.trans (hB2.mono (by have := hBW.size; omega))) (by have := HG.out; omega)⟩
      · obtain rfl : n = k := by omega
        have HCA := HC
        clear HC
        rename World => V0
        obtain ⟨x, hx⟩ : ∃ x, l[0]? = some x := ⟨_, List.getElem?_eq_getElem (by rw [← HN.out]; omega)⟩
        have hxm := List.mem_of_getElem? hx
        have hzr := hbel.size
        have hrx := range_below (range_below (HRR.out 0 x hx) hb1 hBW) (Nat.lt_of_lt_of_le hb1 hBW.size) hbel
        rw [Nat.zero_mul, Nat.add_zero] at hrx
        have hO0 := (HL.out.arg x hxm).1
        have hD0 := (HL.out.arg x hxm).2
        have HQ0 : Hid (Q.getD 0 p4z = x.q) := Lib.hid (by rw [HQ.out, List.getD_eq_getElem?_getD, List.getElem?_map, hx]; rfl)
        have HD0 : Hid (x.q.dat = datas (Q.take 1)) := Lib.hid (by rw [show (1 : Nat) = 0 + 1 from rfl, datas_take Q (by rw [HQn.out]; omega), HQ0.out]; rfl)
        have hqol := HO.out x hxm
        have hqdl := HDX.out x hxm
        clear hx hxm
        go_upto_region 10 with (first
          | ((with_reducible show wpList _ _ _ (Oper.mk _ (Op.load 24 _) _ _ _ _ :: _) _ _); refine wpList_val (v := .agg (v4a x.q x.A x.c x.A' x.c')) rfl (run_load_v4o rfl rfl hrx rfl) ?_)
          | ((with_reducible show wpList _ _ _ (Oper.mk _ (Op.store 24 _ _) _ _ _ _ :: _) _ _); refine v4_store_new (cs := v4a x.q x.A x.c x.A' x.c') rfl rfl rfl rfl (v4a_one _ _ _ _ _) ?_))
        have hrow1 : (V0.alloc (.cells (v4a x.q x.A x.c x.A' x.c') 24)).heap[V0.heap.size]? = some (.cells (v4a x.q x.A x.c x.A' x.c') 24 (0, 0)) := World.alloc_heap_new V0 _
        have hyX : Below V0.heap.size V0 (V0.alloc (.cells (v4a x.q x.A x.c x.A' x.c') 24)) := (Below.refl _ V0).alloc (Nat.le_refl _) _
        have hzX : (V0.alloc (.cells (v4a x.q x.A x.c x.A' x.c') 24)).heap.size = V0.heap.size + 1 := by simp
        obtain ⟨b, hb⟩ : ∃ b, b = V0.heap.size := ⟨_, rfl⟩
        have hgb : g < b := by omega
        have hbw : w.heap.size ≤ b := by have := hBW.size; omega
        rw [← hb] at hrow1 hzX ⊢
        have hWr := hBW.trans (hbel.mono hBW.size)
        have hBX := hWr.trans (hyX.mono hWr.size)
        have hrowX := (hyX.block g (by omega)).trans ((hbel.block g hgz).trans hrow)
        clear hb hyX hbel hWr hrow hrx
        generalize V0.alloc (.cells (v4a x.q x.A x.c x.A' x.c') 24) = X at *
        rcases x with ⟨q, A, c, A', c'⟩
        have hO0 : Arg w B A c q.opt := hO0
        have hD0 : Arg w B A' c' q.dat := hD0
        have hqol : q.opt.length ≤ 1000000 := hqol
        have hqdl : q.dat.length ≤ 1000000 := hqdl
        have HQ0 : Hid (Q.getD 0 p4z = q) := HQ0
        have HD0 : Hid (q.dat = datas (Q.take 1)) := HD0
        have hrow1 : X.heap[b]? = some (.cells (v4a q A c A' c') 24 (0, 0)) := hrow1
        have hg1 : b + 1 ≤ X.heap.size := by omega
        have hO1 := (hO0.below (hBX.mono hB)).more (show B ≤ X.heap.size by have := hBX.size; omega)
        have hD1 := (hD0.below (hBX.mono hB)).more (show B ≤ X.heap.size by have := hBX.size; omega)
        clear hO0 hD0
        refine regionY 7 (fun V => Below X.heap.size X V ∧ V.heap[b]? = some (.cells (v4a q A c A' c') 24 (0, 0))) (by kernel_rfl) ?_
        have hS : Below X.heap.size X X.drew ∧ X.drew.heap[b]? = some (.cells (v4a q A c A' c') 24 (0, 0)) := ⟨(Below.refl _ X).drew, hrow1⟩
        refine pureY (i := 0) (oi := ⟨some 31, _, _, _, _, _⟩) rfl (by kernel_rfl) (by kernel_rfl) (by kernel_rfl) (by kernel_rfl) (by kernel_rfl) (fun _ _ _ h => h) (by rfl) (v := ?_) (fun w hSw => ?_) hS ?_
        rotate_left
        · go_simp; try with_reducible rfl
        try go_frame
        refine pureY (i := 1) (oi := ⟨some 32, _, _, _, _, _⟩) rfl (by kernel_rfl) (by kernel_rfl) (by kernel_rfl) (by kernel_rfl) (by kernel_rfl) (fun _ _ _ h => h) (by rfl) (fun w hSw => run_load_sl rfl rfl (at4_of hSw.2).opt) hS ?_
        try go_frame
        refine pureY (i := 3) (oi := ⟨some 34, _, _, _, _, _⟩) rfl (by kernel_rfl) (by kernel_rfl) (by kernel_rfl) (by kernel_rfl) (by kernel_rfl) (fun _ _ _ h => h) (by rfl) (v := ?_) (fun w hSw => ?_) hS ?_
        rotate_left
        · go_simp; try with_reducible rfl
        try go_frame
        refine pureY (i := 4) (oi := ⟨some 35, _, _, _, _, _⟩) rfl (by kernel_rfl) (by kernel_rfl) (by kernel_rfl) (by kernel_rfl) (by kernel_rfl) (fun _ _ _ h => h) (by rfl) (fun w hSw => run_load_sl rfl rfl (at4_of hSw.2).dat) hS ?_
        try go_frame
        refine oneY (i := 2) (oi := ⟨some 33, _, _, _, _, _⟩) (by kernel_rfl) rfl (by rfl) (fun K hK => ?_)
        refine appendI _ _ rfl X.drew.heap.size (.slice none 0 0) 0 [] rfl (World.ownsRow_nil _ _ _ _) X.heap.size A c q.opt rfl hO1.none_ (hO1.below hS.1).rd (by omega) (Nat.le_refl _) ?_
        intro v2 w2 own2 grow2
        have y2 := (Below.refl X.drew.heap.size X.drew).grown grow2 (Nat.le_refl _) (fun k hk => by cases hk)
        obtain ⟨P2, p2, rfl, o2⟩ := own_made (bs := q.opt) own2 (Nat.zero_add _) (List.nil_append _)
        have hS2 := hS
        have hS : Below X.heap.size X w2 ∧ w2.heap[b]? = some (.cells (v4a q A c A' c') 24 (0, 0)) := ⟨hS.1.trans (y2.mono hS.1.size), (y2.block b (by have := hS.1.size; have := hg1; omega)).trans hS.2⟩
        refine hK _ _ (fun _ => hS) ?_
        clear hK K
        try go_frame
        refine pureY (i := 6) (oi := ⟨some 37, _, _, _, _, _⟩) rfl (by kernel_rfl) (by kernel_rfl) (by kernel_rfl) (by kernel_rfl) (by kernel_rfl) (fun _ _ _ h => h) (by rfl) (v := ?_) (fun w hSw => ?_) hS ?_
        rotate_left
        · go_simp; try with_reducible rfl
        try go_frame
        refine oneY (i := 5) (oi := ⟨some 36, _, _, _, _, _⟩) (by kernel_rfl) rfl (by rfl) (fun K hK => ?_)
        refine appendI _ _ rfl w2.heap.size (.slice none 0 0) 0 [] rfl (World.ownsRow_nil _ _ _ _) X.heap.size A' c' q.dat rfl hD1.none_ (hD1.below hS.1).rd (by omega) (Nat.le_refl _) ?_
        intro v5 w5 own5 grow5
        have y5 := (Below.refl w2.heap.size w2).grown grow5 (Nat.le_refl _) (fun k hk => by cases hk)
        obtain ⟨P5, p5, rfl, o5⟩ := own_made (bs := q.dat) own5 (Nat.zero_add _) (List.nil_append _)
        have hS5 := hS
        have hS : Below X.heap.size X w5 ∧ w5.heap[b]? = some (.cells (v4a q A c A' c') 24 (0, 0)) := ⟨hS.1.trans (y5.mono hS.1.size), (y5.block b (by have := hS.1.size; have := hg1; omega)).trans hS.2⟩
        refine hK _ _ (fun _ => hS) ?_
        clear hK K
        try go_frame
        refine oneY (i := 7) (oi := ⟨none, _, _, _, _, _⟩) (by kernel_rfl) rfl (by rfl) (fun K hK => ?_)
        have k7 := (at4_of hS.2).opt
        have f7 := heap_frozen hS.2 9
        refine store_slI rfl rfl rfl k7 f7 ?_
        have hrow7 : (w5.setCell ⟨b, 9, none⟩ (.slice P2 q.opt.length p2)).heap[b]? = some (.cells (v4a q P2 p2 A' c') 24 (0, 0)) := heap_setCell_same w5 b 9 _ _ (.slice P2 q.opt.length p2) hS.2
        have o27 := own_setCellB (i := 9) (u := .slice P2 q.opt.length p2) (own_below o2 y5) hS.2 hTu
        have o57 := own_setCellB (i := 9) (u := .slice P2 q.opt.length p2) o5 hS.2 hTu
        have hS7 := hS.1
        have hz7 : (w5.setCell ⟨b, 9, none⟩ (.slice P2 q.opt.length p2)).heap.size = w5.heap.size := by simp
        have hk7 : KeepR b w5 (w5.setCell ⟨b, 9, none⟩ (.slice P2 q.opt.length p2)) := KeepR.set2 _ _ _
        clear k7 f7 hS
        refine hK _ _ (fun h => absurd h (by decide)) ?_
        clear hK K
        generalize w5.setCell ⟨b, 9, none⟩ (.slice P2 q.opt.length p2) = w7 at *
        try go_frame
        refine oneY (i := 8) (oi := ⟨some 38, _, _, _, _, _⟩) (by kernel_rfl) rfl (by rfl) (fun K hK => ?_)
        refine valI (v := ?_) ?_ ?_
        rotate_left
        · go_simp; try with_reducible rfl
        refine hK _ _ (fun h => absurd h (by decide)) ?_
        clear hK K
        try go_frame
        refine oneY (i := 9) (oi := ⟨none, _, _, _, _, _⟩) (by kernel_rfl) rfl (by rfl) (fun K hK => ?_)
        have k9 := (at4_of hrow7).dat
        have f9 := heap_frozen hrow7 10
        refine store_slI rfl rfl rfl k9 f9 ?_
        have hrow9 : (w7.setCell ⟨b, 10, none⟩ (.slice P5 q.dat.length p5)).heap[b]? = some (.cells (v4a q P2 p2 P5 p5) 24 (0, 0)) := heap_setCell_same w7 b 10 _ _ (.slice P5 q.dat.length p5) hrow7
        have o29 := own_setCellB (i := 10) (u := .slice P5 q.dat.length p5) o27 hrow7 hTu
        have o59 := own_setCellB (i := 10) (u := .slice P5 q.dat.length p5) o57 hrow7 hTu
        have hk9 : KeepR b w5 (w7.setCell ⟨b, 10, none⟩ (.slice P5 q.dat.length p5)) := (KeepR.set2 _ _ _).trans hk7
        clear k9 f9 hrow7 o27 o57 hk7 hz7
        refine hK _ _ (fun h => absurd h (by decide)) ?_
        clear hK K
        generalize w7.setCell ⟨b, 10, none⟩ (.slice P5 q.dat.length p5) = V at *
        try go_frame
        refine doneY (by kernel_rfl) ?_ _
        have hz5 := hS7.size
        have hbV : b < V.heap.size := heap_lt hrow9
        obtain ⟨E, hE⟩ : ∃ E, E = w2.heap.size := ⟨_, rfl⟩
        have hsep : ∀ k, (Value.slice P2 q.opt.length p2).ownBlock = some k → k < E := fun k hk => by
          rcases o2.2 with ⟨e, _⟩ | ⟨g', cap, cur, e, _, hh, _⟩
          · rw [e] at hk; cases hk
          · rw [e] at hk
            have : g' = k := by simpa [Value.ownBlock] using hk
            rw [hE, ← this]; exact heap_lt hh
        have hbE : b < E := by have := hS2.1.size; have := y2.size; have : X.drew.heap.size = X.heap.size := rfl; omega
        have hEV : E ≤ V.heap.size := by have := y5.size; have := hk9.1; omega
        have hBV0 : Below w.heap.size w V := hk9.below (hBX.trans (hS7.mono hBX.size)) hbw
        have hrowV : V.heap[g]? = some (.cells (v4a p4z none 0 none 0) 24 (0, 0)) := (hk9.2.2.2.2 g (by omega)).trans ((hS7.block g (by omega)).trans hrowX)
        have ownOV : V.ownsRow (b + 1) 5 1 (.slice P2 q.opt.length p2) q.opt.length (row q.opt) := own_base o29 hg1
        have ownDV : V.ownsRow E 5 1 (.slice P5 q.dat.length p5) q.dat.length (row q.dat) := own_base o59 (by rw [hE]; exact Nat.le_refl _)
        clear o29 o59 hk9 hS7 y2 y5 o2 o5 own2 grow2 own5 grow5 hS2 hS5 hO1 hD1 hrow1 hBX hE
        go_wp2
        go_loopw [7] (fun i wr => ∃ (k : Nat) (P : Option Addr) (p : Nat) (D : List UInt8), 1 ≤ k ∧ k ≤ n ∧ i = .int .i64 (k : Int) ∧ Hid (D = datas (Q.take k)) ∧ Hid (fitn Q k) ∧ D.length ≤ 1000000 ∧ Below w.heap.size w wr ∧ wr.heap[b]? = some (.cells (v4a { q with dat := D } P2 p2 P p) 24 (0, 0)) ∧ wr.ownsRow (b + 1) 5 1 (.slice P2 q.opt.length p2) q.opt.length (row q.opt) ∧ wr.ownsRow E 5 1 (.slice P D.length p) D.length (row D) ∧ wr.heap[g]? = some (.cells (v4a p4z none 0 none 0) 24 (0, 0)) ∧ E ≤ wr.heap.size)
          (fun i _ => n - (intOf i).toNat)
        case atStart => exact ⟨1, P5, p5, q.dat, Nat.le_refl _, by omega, rfl, Lib.hid HD0.out, Lib.hid (fun i h => by omega), hqdl, hBV0, hrow9, ownOV, ownDV, hrowV, hEV⟩
        case round =>
          obtain ⟨k, P, p, D, hk1, hk, rfl, HDk, HCH, hDl, hbel, hrowp, ownO, ownD, hrowg, hEz⟩ := hrel
          clear hBV0 hrow9 ownOV ownDV hrowV hEV hbV
          by_cases hlt : k < n
          · skip
            obtain ⟨j, rfl⟩ : ∃ j, k = j + 1 := ⟨k - 1, by omega⟩
            obtain ⟨x, hx⟩ : ∃ x, l[j + 1]? = some x := ⟨_, List.getElem?_eq_getElem (by rw [← HN.out]; exact hlt)⟩
            obtain ⟨y, hy⟩ : ∃ y, l[j]? = some y := ⟨_, List.getElem?_eq_getElem (by rw [← HN.out]; omega)⟩
            obtain ⟨z, hz⟩ : ∃ z, l[0]? = some z := ⟨_, List.getElem?_eq_getElem (by rw [← HN.out]; omega)⟩
            have hxm := List.mem_of_getElem? hx
            have HXQ : Hid (Q.getD (j + 1) p4z = x.q) := Lib.hid (by rw [HQ.out, List.getD_eq_getElem?_getD, List.getElem?_map, hx]; rfl)
            have HYQ : Hid (Q.getD j p4z = y.q) := Lib.hid (by rw [HQ.out, List.getD_eq_getElem?_getD, List.getElem?_map, hy]; rfl)
            have HZQ : Hid (Q.getD 0 p4z = z.q) := Lib.hid (by rw [HQ.out, List.getD_eq_getElem?_getD, List.getElem?_map, hz]; rfl)
            have hzr := hbel.size
            have hbr := Nat.lt_of_lt_of_le hb1 hzr
            have hrx0 := HRR.out (j + 1) x hx
            have kx : w.cell? ⟨b1, o1 + (j + 1) * 11 + 10, none⟩ = some (.slice x.A' x.q.dat.length x.c') := hrx0 10 _ rfl
            have hrx := range_below hrx0 hb1 hbel
            have hrj := range_below (HRR.out j y hy) hb1 hbel
            have hrz := range_below (HRR.out 0 z hz) hb1 hbel
            rw [Nat.zero_mul, Nat.add_zero] at hrz
            have hwj : IntKind.i64.wrap (j : Int) = (j : Int) := IntWalk.i64_in _ (by omega)
            have hyd := HDX.out y (List.mem_of_getElem? hy)
            have hyo : 0 ≤ y.q.off ∧ y.q.off ≤ 65535 := by have h1 := HCA.out j (by omega); rw [HYQ.out] at h1; exact off_bd h1
            have HAx := Lib.hid (HL.out.arg x hxm).2
            have hxd := HDX.out x hxm
            clear hx hy hz hxm hrx0
            cases hfo : fit4 z.q y.q x.q with
            | true =>
              have HF := Lib.hid hfo
              clear hfo
              go_wp2
              refine wp_region_held_drew (S := fun w' => Below wr.heap.size wr w') (by kernel_rfl) (Below.refl _ wr).drew (fun hS => ?_)
              refine held_pure (i := 0) (oi := ⟨some 45, _, _, _, _, _⟩) rfl (by kernel_rfl) (by kernel_rfl) (by kernel_rfl) (fun _ _ _ h => h) (by rfl) (v := ?_) (fun w hSw => ?_) hS (fun hS => ?_)
              rotate_left
              · go_simp; try with_reducible rfl
              try go_frame
              refine held_pure (i := 1) (oi := ⟨some 46, _, _, _, _, _⟩) rfl (by kernel_rfl) (by kernel_rfl) (by kernel_rfl) (fun _ _ _ h => h) (by rfl) (v := Value.pointer (some ⟨b1, o1, none⟩)) (fun w hSw => by go_simp) hS (fun hS => ?_)
              try go_frame
              refine held_pure (i := 2) (oi := ⟨some 47, _, _, _, _, _⟩) rfl (by kernel_rfl) (by kernel_rfl) (by kernel_rfl) (fun _ _ _ h => h) (by rfl) (fun w hSw => run_load_v4o rfl rfl (range_below hrz hbr hSw) rfl) hS (fun hS => ?_)
              try go_frame
              refine held_pure (i := 3) (oi := ⟨some 48, _, _, _, _, _⟩) rfl (by kernel_rfl) (by kernel_rfl) (by kernel_rfl) (fun _ _ _ h => h) (by rfl) (v := ?_) (fun w hSw => ?_) hS (fun hS => ?_)
              rotate_left
              · go_simp; try with_reducible rfl
              try go_frame
              refine held_pure (i := 4) (oi := ⟨some 49, _, _, _, _, _⟩) rfl (by kernel_rfl) (by kernel_rfl) (by kernel_rfl) (fun _ _ _ h => h) (by rfl) (v := ?_) (fun w hSw => ?_) hS (fun hS => ?_)
              rotate_left
              · go_simp; try with_reducible rfl
              try go_frame
              refine held_pure (i := 5) (oi := ⟨some 50, _, _, _, _, _⟩) rfl (by kernel_rfl) (by kernel_rfl) (by kernel_rfl) (fun _ _ _ h => h) (by rfl) (v := .int .i64 (j : Int)) (fun w hSw => by go_simp) hS (fun hS => ?_)
              try go_frame
              refine held_pure (i := 6) (oi := ⟨some 51, _, _, _, _, _⟩) rfl (by kernel_rfl) (by kernel_rfl) (by kernel_rfl) (fun _ _ _ h => h) (by rfl) (v := Value.pointer (some ⟨b1, o1 + j * 11, none⟩)) (fun w hSw => by go_simp; exact fun h => absurd h (by omega)) hS (fun hS => ?_)
              try go_frame
              refine held_pure (i := 7) (oi := ⟨some 52, _, _, _, _, _⟩) rfl (by kernel_rfl) (by kernel_rfl) (by kernel_rfl) (fun _ _ _ h => h) (by rfl) (fun w hSw => run_load_v4o rfl rfl (range_below hrj hbr hSw) rfl) hS (fun hS => ?_)
              try go_frame
              refine held_pure (i := 8) (oi := ⟨some 53, _, _, _, _, _⟩) rfl (by kernel_rfl) (by kernel_rfl) (by kernel_rfl) (fun _ _ _ h => h) (by rfl) (v := ?_) (fun w hSw => ?_) hS (fun hS => ?_)
              rotate_left
              · go_simp; try with_reducible rfl
              try go_frame
              refine held_pure (i := 9) (oi := ⟨some 54, _, _, _, _, _⟩) rfl (by kernel_rfl) (by kernel_rfl) (by kernel_rfl) (fun _ _ _ h => h) (by rfl) (v := ?_) (fun w hSw => ?_) hS (fun hS => ?_)
              rotate_left
              · go_simp; try with_reducible rfl
              try go_frame
              refine held_pure (i := 10) (oi := ⟨some 55, _, _, _, _, _⟩) rfl (by kernel_rfl) (by kernel_rfl) (by kernel_rfl) (fun _ _ _ h => h) (by rfl) (v := Value.pointer (some ⟨b1, o1 + (j + 1) * 11, none⟩)) (fun w hSw => by go_simp; exact fun h => absurd h (by omega)) hS (fun hS => ?_)
              try go_frame
              refine held_pure (i := 11) (oi := ⟨some 56, _, _, _, _, _⟩) rfl (by kernel_rfl) (by kernel_rfl) (by kernel_rfl) (fun _ _ _ h => h) (by rfl) (fun w hSw => run_load_v4o rfl rfl (range_below hrx hbr hSw) rfl) hS (fun hS => ?_)
              try go_frame
              refine wpAnyH_ready (rs := [12]) (by kernel_rfl) (by simp) (AllReadyH.cons (o := ⟨some 57, _, _, _, _, _⟩) rfl (fun K hK => ?_) AllReadyH.nil)
              rw [if_pos (by rfl)]
              go_simp
              refine (r13fits z.q y.q x.q z.A z.c z.A' z.c' y.A y.c y.A' y.c' x.A x.c x.A' x.c' _ hyo hyd).mono ?_
              rintro e w12 ⟨rfl, x12⟩
              rw [HF.out]
              show K _ _
              refine hK.out _ _ (below_step hS x12) (fun hS => ?_)
              clear hK K
              try go_frame
              refine held_pure (i := 13) (oi := ⟨some 58, _, _, _, _, _⟩) rfl (by kernel_rfl) (by kernel_rfl) (by kernel_rfl) (fun _ _ _ h => h) (by rfl) (v := .bool false) (fun w hSw => by go_simp) hS (fun hS => ?_)
              try go_frame
              refine wpAnyH_done (by kernel_rfl) ?_ _
              have hrowY := (hS.block b (heap_lt hrowp)).trans hrowp
              have hrowgY := (hS.block g (heap_lt hrowg)).trans hrowg
              have ownOY := own_below ownO hS
              have ownDY := own_below ownD hS
              have hbelY := hbel.trans (hS.mono hzr)
              have hEY := Nat.le_trans hEz hS.size
              clear hrowp hrowg ownO ownD hbel hS hrx hrj hrz x12
              generalize w12 = Y at *
              go_wp2
              refine regionY 9 (fun V => V.heap[b]? = some (.cells (v4a { q with dat := D } P2 p2 P p) 24 (0, 0)) ∧ Below w.heap.size w V) (by kernel_rfl) ?_
              have hS : Y.drew.heap[b]? = some (.cells (v4a { q with dat := D } P2 p2 P p) 24 (0, 0)) ∧ Below w.heap.size w Y.drew := ⟨hrowY, hbelY.drew⟩
              have hownO := own_below ownOY (Below.refl Y.heap.size Y).drew
              have hownD := own_below ownDY (Below.refl Y.heap.size Y).drew
              have hEZ : E ≤ Y.drew.heap.size := hEY
              have hrowgZ : Y.drew.heap[g]? = some (.cells (v4a p4z none 0 none 0) 24 (0, 0)) := hrowgY
              clear hrowY hrowgY ownOY ownDY hbelY hEY
              generalize Y.drew = Z at *
              refine pureY (i := 0) (oi := ⟨some 60, _, _, _, _, _⟩) rfl (by kernel_rfl) (by kernel_rfl) (by kernel_rfl) (by kernel_rfl) (by kernel_rfl) (fun _ _ _ h => h) (by rfl) (v := ?_) (fun w hSw => ?_) hS ?_
              rotate_left
              · go_simp; try with_reducible rfl
              try go_frame
              refine pureY (i := 1) (oi := ⟨some 61, _, _, _, _, _⟩) rfl (by kernel_rfl) (by kernel_rfl) (by kernel_rfl) (by kernel_rfl) (by kernel_rfl) (fun _ _ _ h => h) (by rfl) (fun w hSw => run_load_sl rfl rfl (at4_of hSw.1).dat) hS ?_
              try go_frame
              refine pureY (i := 2) (oi := ⟨some 62, _, _, _, _, _⟩) rfl (by kernel_rfl) (by kernel_rfl) (by kernel_rfl) (by kernel_rfl) (by kernel_rfl) (fun _ _ _ h => h) (by rfl) (v := ?_) (fun w hSw => ?_) hS ?_
              rotate_left
              · go_simp; try with_reducible rfl
              try go_frame
              refine pureY (i := 3) (oi := ⟨some 63, _, _, _, _, _⟩) rfl (by kernel_rfl) (by kernel_rfl) (by kernel_rfl) (by kernel_rfl) (by kernel_rfl) (fun _ _ _ h => h) (by rfl) (v := ?_) (fun w hSw => ?_) hS ?_
              rotate_left
              · go_simp; try with_reducible rfl
              try go_frame
              refine pureY (i := 4) (oi := ⟨some 64, _, _, _, _, _⟩) rfl (by kernel_rfl) (by kernel_rfl) (by kernel_rfl) (by kernel_rfl) (by kernel_rfl) (fun _ _ _ h => h) (by rfl) (v := Value.pointer (some ⟨b1, o1 + (j + 1) * 11, none⟩)) (fun w hSw => by go_simp; exact fun h => absurd h (by omega)) hS ?_
              try go_frame
              refine pureY (i := 5) (oi := ⟨some 65, _, _, _, _, _⟩) rfl (by kernel_rfl) (by kernel_rfl) (by kernel_rfl) (by kernel_rfl) (by kernel_rfl) (fun _ _ _ h => h) (by rfl) (v := Value.pointer (some ⟨b1, o1 + (j + 1) * 11 + 10, none⟩)) (fun w hSw => by go_simp) hS ?_
              try go_frame
              refine pureY (i := 6) (oi := ⟨some 66, _, _, _, _, _⟩) rfl (by kernel_rfl) (by kernel_rfl) (by kernel_rfl) (by kernel_rfl) (by kernel_rfl) (fun _ _ _ h => h) (by rfl) (fun w hSw => run_load_sl rfl rfl ((hSw.2.cell hb1).trans kx)) hS ?_
              try go_frame
              refine oneY (i := 7) (oi := ⟨some 67, _, _, _, _, _⟩) (by kernel_rfl) rfl (by rfl) (fun K hK => ?_)
              refine appendI _ _ rfl E (.slice P D.length p) D.length (row D) rfl hownD B x.A' x.c' x.q.dat rfl HAx.out.none_ (HAx.out.below (hS.2.mono hB)).rd (by omega) (by omega) ?_
              intro v7 w7 own7 grow7
              have y7 := hS.2.grown grow7 (by omega) (fun k hk => Nat.le_trans (by omega) (own_block_ge hownD k hk))
              have z7 := (Below.refl (b + 1) Z).grown grow7 (by omega) (fun k hk => Nat.le_trans (by omega) (own_block_ge hownD k hk))
              have o7' := own_keepB hownO hsep hownD grow7
              obtain ⟨P7, p7, rfl, o7⟩ := own_made (bs := D ++ x.q.dat) own7 (List.length_append).symm (row_append _ _).symm
              have hz7 := z7.size
              have rg7 := (z7.block g (by omega)).trans hrowgZ
              have hS7 := hS
              have hS : w7.heap[b]? = some (.cells (v4a { q with dat := D } P2 p2 P p) 24 (0, 0)) ∧ Below w.heap.size w w7 := ⟨(z7.block b (Nat.lt_succ_self b)).trans hS7.1, y7⟩
              refine hK _ _ (fun _ => hS) ?_
              clear hK K
              try go_frame
              refine pureY (i := 8) (oi := ⟨some 68, _, _, _, _, _⟩) rfl (by kernel_rfl) (by kernel_rfl) (by kernel_rfl) (by kernel_rfl) (by kernel_rfl) (fun _ _ _ h => h) (by rfl) (v := ?_) (fun w hSw => ?_) hS ?_
              rotate_left
              · go_simp; try with_reducible rfl
              try go_frame
              refine oneY (i := 9) (oi := ⟨none, _, _, _, _, _⟩) (by kernel_rfl) rfl (by rfl) (fun K hK => ?_)
              have k9 := (at4_of hS.1).dat
              have f9 := heap_frozen hS.1 10
              refine store_slI rfl rfl rfl k9 f9 ?_
              have row9 : (w7.setCell ⟨b, 10, none⟩ (.slice P7 (D ++ x.q.dat).length p7)).heap[b]? = some (.cells (v4a { q with dat := D ++ x.q.dat } P2 p2 P7 p7) 24 (0, 0)) := heap_setCell_same w7 b 10 _ _ (.slice P7 (D ++ x.q.dat).length p7) hS.1
              have ow9 := own_setCellB (i := 10) (u := .slice P7 (D ++ x.q.dat).length p7) o7 hS.1 hTu
              have ow8 := own_setCellB (i := 10) (u := .slice P7 (D ++ x.q.dat).length p7) o7' hS.1 hTu
              have hB9 := hS.2.setCell (p := ⟨b, 10, none⟩) hbw (.slice P7 (D ++ x.q.dat).length p7)
              have rg9 := (heap_setCell_other w7 ⟨b, 10, none⟩ g (.slice P7 (D ++ x.q.dat).length p7) (by show g ≠ b; omega)).trans rg7
              have hz9 : E ≤ (w7.setCell ⟨b, 10, none⟩ (.slice P7 (D ++ x.q.dat).length p7)).heap.size := by rw [show (w7.setCell ⟨b, 10, none⟩ (.slice P7 (D ++ x.q.dat).length p7)).heap.size = w7.heap.size by simp]; omega
              clear k9 f9 o7 o7' hS hS7 rg7
              refine hK _ _ (fun h => absurd h (by decide)) ?_
              clear hK K
              generalize w7.setCell ⟨b, 10, none⟩ (.slice P7 (D ++ x.q.dat).length p7) = V9 at *
              try go_frame
              refine doneY (by kernel_rfl) ?_ _
              go_wp2
              go_roundw
              case rel =>
                have hD1 : D ++ x.q.dat = datas (Q.take (j + 1 + 1)) := by rw [datas_take Q (by rw [HQn.out]; exact hlt), ← HDk.out, HXQ.out]
                refine ⟨j + 1 + 1, P7, p7, D ++ x.q.dat, by omega, by omega, by simp, Lib.hid hD1, Lib.hid (fun i hi => ?_), ?_, hB9, row9, ow8, ow9, rg9, hz9⟩
                · rcases Nat.lt_or_ge (i + 1) (j + 1) with h | h
                  · exact HCH.out i h
                  · rw [show i = j by omega, HYQ.out, HXQ.out, HZQ.out]; exact HF.out
                · have h1 := datas_take_le Q (j + 1 + 1)
                  rw [← hD1] at h1
                  exact Nat.le_trans h1 HD.out
              case measure => simp [intOf]; omega
            | false =>
              have HF := Lib.hid hfo
              clear hfo
              have HE : Hid (glE Q = 4) := Lib.hid (by
                rw [glE, if_neg (by rw [HQn.out]; exact h0), bad1_ok Q (by rw [HQn.out]; exact HCA.out), if_pos rfl, if_neg (fun h => by
                  have h1 := (chn_iff Q _).1 h j (by rw [HQn.out]; exact hlt)
                  rw [HYQ.out, HXQ.out, HZQ.out, HF.out] at h1; cases h1)])
              have HV : Hid (glV Q = p4z) := Lib.hid (by rw [glV, HE.out, if_neg (by decide)])
              go_wp2
              refine wp_region_held_drew (S := fun w' => Below wr.heap.size wr w') (by kernel_rfl) (Below.refl _ wr).drew (fun hS => ?_)
              refine held_pure (i := 0) (oi := ⟨some 45, _, _, _, _, _⟩) rfl (by kernel_rfl) (by kernel_rfl) (by kernel_rfl) (fun _ _ _ h => h) (by rfl) (v := ?_) (fun w hSw => ?_) hS (fun hS => ?_)
              rotate_left
              · go_simp; try with_reducible rfl
              try go_frame
              refine held_pure (i := 1) (oi := ⟨some 46, _, _, _, _, _⟩) rfl (by kernel_rfl) (by kernel_rfl) (by kernel_rfl) (fun _ _ _ h => h) (by rfl) (v := Value.pointer (some ⟨b1, o1, none⟩)) (fun w hSw => by go_simp) hS (fun hS => ?_)
              try go_frame
              refine held_pure (i := 2) (oi := ⟨some 47, _, _, _, _, _⟩) rfl (by kernel_rfl) (by kernel_rfl) (by kernel_rfl) (fun _ _ _ h => h) (by rfl) (fun w hSw => run_load_v4o rfl rfl (range_below hrz hbr hSw) rfl) hS (fun hS => ?_)
              try go_frame
              refine held_pure (i := 3) (oi := ⟨some 48, _, _, _, _, _⟩) rfl (by kernel_rfl) (by kernel_rfl) (by kernel_rfl) (fun _ _ _ h => h) (by rfl) (v := ?_) (fun w hSw => ?_) hS (fun hS => ?_)
              rotate_left
              · go_simp; try with_reducible rfl
              try go_frame
              refine held_pure (i := 4) (oi := ⟨some 49, _, _, _, _, _⟩) rfl (by kernel_rfl) (by kernel_rfl) (by kernel_rfl) (fun _ _ _ h => h) (by rfl) (v := ?_) (fun w hSw => ?_) hS (fun hS => ?_)
              rotate_left
              · go_simp; try with_reducible rfl
              try go_frame
              refine held_pure (i := 5) (oi := ⟨some 50, _, _, _, _, _⟩) rfl (by kernel_rfl) (by kernel_rfl) (by kernel_rfl) (fun _ _ _ h => h) (by rfl) (v := .int .i64 (j : Int)) (fun w hSw => by go_simp) hS (fun hS => ?_)
              try go_frame
              refine held_pure (i := 6) (oi := ⟨some 51, _, _, _, _, _⟩) rfl (by kernel_rfl) (by kernel_rfl) (by kernel_rfl) (fun _ _ _ h => h) (by rfl) (v := Value.pointer (some ⟨b1, o1 + j * 11, none⟩)) (fun w hSw => by go_simp; exact fun h => absurd h (by omega)) hS (fun hS => ?_)
              try go_frame
              refine held_pure (i := 7) (oi := ⟨some 52, _, _, _, _, _⟩) rfl (by kernel_rfl) (by kernel_rfl) (by kernel_rfl) (fun _ _ _ h => h) (by rfl) (fun w hSw => run_load_v4o rfl rfl (range_below hrj hbr hSw) rfl) hS (fun hS => ?_)
              try go_frame
              refine held_pure (i := 8) (oi := ⟨some 53, _, _, _, _, _⟩) rfl (by kernel_rfl) (by kernel_rfl) (by kernel_rfl) (fun _ _ _ h => h) (by rfl) (v := ?_) (fun w hSw => ?_) hS (fun hS => ?_)
              rotate_left
              · go_simp; try with_reducible rfl
              try go_frame
              refine held_pure (i := 9) (oi := ⟨some 54, _, _, _, _, _⟩) rfl (by kernel_rfl) (by kernel_rfl) (by kernel_rfl) (fun _ _ _ h => h) (by rfl) (v := ?_) (fun w hSw => ?_) hS (fun hS => ?_)
              rotate_left
              · go_simp; try with_reducible rfl
              try go_frame
              refine held_pure (i := 10) (oi := ⟨some 55, _, _, _, _, _⟩) rfl (by kernel_rfl) (by kernel_rfl) (by kernel_rfl) (fun _ _ _ h => h) (by rfl) (v := Value.pointer (some ⟨b1, o1 + (j + 1) * 11, none⟩)) (fun w hSw => by go_simp; exact fun h => absurd h (by omega)) hS (fun hS => ?_)
              try go_frame
              refine held_pure (i := 11) (oi := ⟨some 56, _, _, _, _, _⟩) rfl (by kernel_rfl) (by kernel_rfl) (by kernel_rfl) (fun _ _ _ h => h) (by rfl) (fun w hSw => run_load_v4o rfl rfl (range_below hrx hbr hSw) rfl) hS (fun hS => ?_)
              try go_frame
              refine wpAnyH_ready (rs := [12]) (by kernel_rfl) (by simp) (AllReadyH.cons (o := ⟨some 57, _, _, _, _, _⟩) rfl (fun K hK => ?_) AllReadyH.nil)
              rw [if_pos (by rfl)]
              go_simp
              refine (r13fits z.q y.q x.q z.A z.c z.A' z.c' y.A y.c y.A' y.c' x.A x.c x.A' x.c' _ hyo hyd).mono ?_
              rintro e w12 ⟨rfl, x12⟩
              rw [HF.out]
              show K _ _
              refine hK.out _ _ (below_step hS x12) (fun hS => ?_)
              clear hK K
              try go_frame
              refine held_pure (i := 13) (oi := ⟨some 58, _, _, _, _, _⟩) rfl (by kernel_rfl) (by kernel_rfl) (by kernel_rfl) (fun _ _ _ h => h) (by rfl) (v := .bool true) (fun w hSw => by go_simp) hS (fun hS => ?_)
              try go_frame
              refine wpAnyH_done (by kernel_rfl) ?_ _
              have hBY := hbel.trans (hS.mono hzr)
              have hrow2 := (hS.block g (Nat.lt_of_lt_of_le (show g < E by omega) hEz)).trans hrowg
              go_wp2_with ((with_reducible show wpList _ _ _ (Oper.mk _ (Op.store 24 _ _) _ _ _ _ :: _) _ _); refine v4_store (g := g) (cs := v4a p4z none 0 none 0) rfl rfl hrow2 rfl rfl (v4a_one _ _ _ _ _) ?_)
              exact bodyPost_ret (res2 rfl rfl (run_loadVar_row _ _ _ 24 (v4a p4z none 0 none 0) _ _ (setRow_heap _ _ _ _ _ _ hrow2) Try.underlying24 rfl (by kernel_rfl))) rfl ⟨none, 0, none, 0, by rw [HV.out, HE.out]; rfl, by rw [HV.out]; exact Arg.nil _ _, by rw [HV.out]; exact Arg.nil _ _, below_row hBY (by have := HG.out; omega)⟩
          · skip
            obtain rfl : k = n := by omega
            have HDA : Hid (D = datas Q) := Lib.hid (by rw [HDk.out, List.take_of_length_le (by rw [HQn.out]; exact Nat.le_refl _)])
            have HB1 : Hid (bad1 Q = 0) := Lib.hid (bad1_ok Q (by rw [HQn.out]; exact HCA.out))
            have HCN : Hid (chn Q k) := Lib.hid ((chn_iff Q k).2 HCH.out)
            obtain ⟨m, rfl⟩ : ∃ m, k = m + 1 := ⟨k - 1, by omega⟩
            obtain ⟨y, hy⟩ : ∃ y, l[m]? = some y := ⟨_, List.getElem?_eq_getElem (by rw [← HN.out]; omega)⟩
            have hzr := hbel.size
            have kyr : wr.cell? ⟨b1, o1 + m * 11 + 8, none⟩ = some (.bool y.q.mf) := (hbel.cell hb1).trans (HRR.out m y hy 8 _ rfl)
            have HW : Hid (whl Q = { q with mf := y.q.mf, dat := D }) := Lib.hid (by
              rw [whl, HQn.out, HDA.out, Nat.add_sub_cancel, HQ0.out]
              rw [show Q.getD m p4z = y.q by rw [HQ.out, List.getD_eq_getElem?_getD, List.getElem?_map, hy]; rfl])
            obtain ⟨M, hM⟩ : ∃ M, M = y.q.mf := ⟨_, rfl⟩
            rw [← hM] at kyr HW
            clear hM hy
            have k8 := (at4_of hrowp).mf
            have f8 := heap_frozen hrowp 8
            go_upto_region 18 with fail
            have row5 : (wr.setCell ⟨b, 8, none⟩ (.bool M)).heap[b]? = some (.cells (v4a { q with mf := M, dat := D } P2 p2 P p) 24 (0, 0)) := heap_setCell_same wr b 8 _ _ (.bool M) hrowp
            have hB5 := hbel.setCell (p := ⟨b, 8, none⟩) hbw (.bool M)
            have ow5 := own_setCellB (i := 8) (u := .bool M) ownO hrowp hTu
            have ow6 := own_setCellB (i := 8) (u := .bool M) ownD hrowp hTu
            have hrow5 : (wr.setCell ⟨b, 8, none⟩ (.bool M)).heap[g]? = some (.cells (v4a p4z none 0 none 0) 24 (0, 0)) := (heap_setCell_other wr ⟨b, 8, none⟩ g (.bool M) (by show g ≠ b; omega)).trans hrowg
            clear k8 f8 kyr hrowp ownO ownD hbel hrowg
            generalize wr.setCell ⟨b, 8, none⟩ (.bool M) = V5 at *
            have at5 := at4_of row5
            have hb5 := heap_lt row5
            have hg5 := heap_lt hrow5
            have hqo : ({ q with mf := M, dat := D } : P4).opt.length ≤ 1000000 := hqol
            have hqd : ({ q with mf := M, dat := D } : P4).dat.length ≤ 1000000 := hDl
            have hqe : ({ q with mf := M, dat := D } : P4).opt = q.opt := rfl
            rw [← hqe] at ow5
            rw [show D.length = ({ q with mf := M, dat := D } : P4).dat.length from rfl, show row D = row ({ q with mf := M, dat := D } : P4).dat from rfl] at ow6
            clear hqe
            generalize ({ q with mf := M, dat := D } : P4) = q5 at *
            by_cases hck : chk4 q5 = 0
            · have HCX := Lib.hid hck
              have HE : Hid (glE Q = 0) := Lib.hid (by rw [glE, if_neg (by rw [HQn.out]; exact Nat.succ_ne_zero m), if_pos HB1.out, if_pos (by rw [HQn.out]; exact HCN.out), HW.out, HCX.out])
              have HV : Hid (glV Q = q5) := Lib.hid (by rw [glV, if_pos HE.out, HW.out])
              clear hck
              go_wp2_with (first
                | ((with_reducible show wpList _ _ _ (Oper.mk _ (Op.load 24 _) _ _ _ _ :: _) _ _); refine wpList_val rfl (run_load_v4 rfl rfl at6 rfl) ?_)
                | ((with_reducible show wpList _ _ _ (Oper.mk _ (Op.load 24 _) _ _ _ _ :: _) _ _); refine wpList_val rfl (run_load_v4 rfl rfl at5 rfl) ?_)
                | (go_at_call 30; refine (r5check q5 P2 p2 P p _ hqo hqd).mono ?_; rintro e w6 ⟨rfl, x6⟩; rw [HCX.out]; have at6 := at5.below x6 hb5; have hB6 := hB5.trans (x6.mono hB5.size); have hrow6 := (x6.block g hg5).trans hrow5)
                | ((with_reducible show wpList _ _ _ (Oper.mk _ (Op.store 24 _ _) _ _ _ _ :: _) _ _); refine v4_store (g := g) (cs := v4a q5 P2 p2 P p) rfl rfl hrow6 rfl rfl (v4a_one _ _ _ _ _) ?_))
              have e1 := arg_own (own_setRowB (cs' := v4a q5 P2 p2 P p) (own_below ow5 x6) hrow6 hTu)
              have e2 := arg_own (own_setRowB (cs' := v4a q5 P2 p2 P p) (own_below ow6 x6) hrow6 hTu)
              exact bodyPost_ret (res2 rfl rfl (run_loadVar_row _ _ _ 24 (v4a q5 P2 p2 P p) _ _ (setRow_heap _ _ _ _ _ _ hrow6) Try.underlying24 rfl (by kernel_rfl))) rfl ⟨P2, p2, P, p, by rw [HV.out, HE.out]; rfl, by rw [HV.out]; exact e1, by rw [HV.out]; exact e2, below_row hB6 (by have := HG.out; omega)⟩
            · obtain ⟨ce, hce⟩ : ∃ z, z = chk4 q5 := ⟨_, rfl⟩
              have HCX := Lib.hid hce.symm
              have dC : (ce != 0) = true := by rw [hce]; simpa using hck
              have HE : Hid (glE Q = ce) := Lib.hid (by rw [glE, if_neg (by rw [HQn.out]; exact Nat.succ_ne_zero m), if_pos HB1.out, if_pos (by rw [HQn.out]; exact HCN.out), HW.out, HCX.out])
              have HV : Hid (glV Q = p4z) := Lib.hid (by rw [glV, HE.out, hce, if_neg hck])
              clear hck hce
              go_upto_region 20 with (first
                | ((with_reducible show wpList _ _ _ (Oper.mk _ (Op.load 24 _) _ _ _ _ :: _) _ _); refine wpList_val rfl (run_load_v4 rfl rfl at5 rfl) ?_)
                | (go_at_call 30; refine (r5check q5 P2 p2 P p _ hqo hqd).mono ?_; rintro e w6 ⟨rfl, x6⟩; rw [HCX.out]))
              have hB6 := hB5.trans (x6.mono hB5.size)
              have hrow6 := (x6.block g hg5).trans hrow5
              go_wp2_with ((with_reducible show wpList _ _ _ (Oper.mk _ (Op.store 24 _ _) _ _ _ _ :: _) _ _); refine v4_store (g := g) (cs := v4a p4z none 0 none 0) rfl rfl hrow6 rfl rfl (v4a_one _ _ _ _ _) ?_)
              exact bodyPost_ret (res2 rfl rfl (run_loadVar_row _ _ _ 24 (v4a p4z none 0 none 0) _ _ (setRow_heap _ _ _ _ _ _ hrow6) Try.underlying24 rfl (by kernel_rfl))) rfl ⟨none, 0, none, 0, by rw [HV.out, HE.out]; rfl, by rw [HV.out]; exact Arg.nil _ _, by rw [HV.out]; exact Arg.nil _ _, below_row hB6 (by have := HG.out; omega)⟩
end Go.Proofs.Ytcebobcakiljhaa

/-
  A slice of packets of IPv4 that came in, opened. Conditions are each theorem's own.
-/
namespace Go.Proofs.Ytcebobcakiljhaa
open Go.RowKit Go.ChangeShapes Go.WideShapes

section
variable {H : Type} {enc : TypeId × Value → H} {w : World} {base : Nat} {v : Value} {d : DataW H} {p : List MemPlace}
set_option maxRecDepth 100000 in
theorem cell_v4 {x : DataW H × List MemPlace} {fuel : Nat} {l : List Value} (hf : DataW.trod enc Try.prog w 0 (fun _ => true) true fuel 24 l = some x) :
    ∃ y : X4, l = cl4 y ∧ Arg w w.heap.size y.A y.c y.q.opt ∧ Arg w w.heap.size y.A' y.c' y.q.dat := by
  obtain ⟨xs, n, _, _, hl, hxs, hall⟩ := DataW.trod_struct Try.underlying24 hf
  have hci : Try.prog.cellsOf 3 = 1 := by kernel_rfl
  have hcb : Try.prog.cellsOf 4 = 1 := by kernel_rfl
  have hcy : Try.prog.cellsOf 22 = 1 := by kernel_rfl
  have hcu : Try.prog.cellsOf 5 = 1 := by kernel_rfl
  have hcn : Try.prog.cellsOf 24 = 11 := by kernel_rfl
  have hl' : l.length = 11 := by rw [← hcn]; exact hl
  have hall' : ∀ (i : Nat) (f : Field), _ → DataW.trod enc Try.prog w 0 (fun _ => true) true n f.type ((l.drop f.offset).take (Try.prog.cellsOf f.type)) = xs[i]? := hall
  match xs, hxs with
  | [y0, y1, y2, y3, y4, y5, y6, y7, y8, y9, y10], _ =>
    have h0 : DataW.trod enc Try.prog w 0 (fun _ => true) true n 3 ((l.drop 0).take (Try.prog.cellsOf 3)) = some y0 := hall' 0 _ rfl
    rw [hci] at h0
    obtain ⟨a0, e0, f0⟩ := cell_int Try.underlying3 h0
    have h1 : DataW.trod enc Try.prog w 0 (fun _ => true) true n 3 ((l.drop 1).take (Try.prog.cellsOf 3)) = some y1 := hall' 1 _ rfl
    rw [hci] at h1
    obtain ⟨a1, e1, f1⟩ := cell_int Try.underlying3 h1
    have h2 : DataW.trod enc Try.prog w 0 (fun _ => true) true n 3 ((l.drop 2).take (Try.prog.cellsOf 3)) = some y2 := hall' 2 _ rfl
    rw [hci] at h2
    obtain ⟨a2, e2, f2⟩ := cell_int Try.underlying3 h2
    have h3 : DataW.trod enc Try.prog w 0 (fun _ => true) true n 3 ((l.drop 3).take (Try.prog.cellsOf 3)) = some y3 := hall' 3 _ rfl
    rw [hci] at h3
    obtain ⟨a3, e3, f3⟩ := cell_int Try.underlying3 h3
    have h4 : DataW.trod enc Try.prog w 0 (fun _ => true) true n 3 ((l.drop 4).take (Try.prog.cellsOf 3)) = some y4 := hall' 4 _ rfl
    rw [hci] at h4
    obtain ⟨a4, e4, f4⟩ := cell_int Try.underlying3 h4
    have h5 : DataW.trod enc Try.prog w 0 (fun _ => true) true n 3 ((l.drop 5).take (Try.prog.cellsOf 3)) = some y5 := hall' 5 _ rfl
    rw [hci] at h5
    obtain ⟨a5, e5, f5⟩ := cell_int Try.underlying3 h5
    have h6 : DataW.trod enc Try.prog w 0 (fun _ => true) true n 3 ((l.drop 6).take (Try.prog.cellsOf 3)) = some y6 := hall' 6 _ rfl
    rw [hci] at h6
    obtain ⟨a6, e6, f6⟩ := cell_int Try.underlying3 h6
    have h7 : DataW.trod enc Try.prog w 0 (fun _ => true) true n 4 ((l.drop 7).take (Try.prog.cellsOf 4)) = some y7 := hall' 7 _ rfl
    rw [hcb] at h7
    obtain ⟨b7, e7⟩ := cell_bool Try.underlying4 h7
    have h8 : DataW.trod enc Try.prog w 0 (fun _ => true) true n 4 ((l.drop 8).take (Try.prog.cellsOf 4)) = some y8 := hall' 8 _ rfl
    rw [hcb] at h8
    obtain ⟨b8, e8⟩ := cell_bool Try.underlying4 h8
    have h9 : DataW.trod enc Try.prog w 0 (fun _ => true) true n 22 ((l.drop 9).take (Try.prog.cellsOf 22)) = some y9 := hall' 9 _ rfl
    rw [hcy] at h9
    obtain ⟨A9, c9, o9, e9, f9, g9⟩ := cell_bytes Try.underlying22 Try.underlying5 hcu h9
    have h10 : DataW.trod enc Try.prog w 0 (fun _ => true) true n 22 ((l.drop 10).take (Try.prog.cellsOf 22)) = some y10 := hall' 10 _ rfl
    rw [hcy] at h10
    obtain ⟨A10, c10, d10, e10, f10, g10⟩ := cell_bytes Try.underlying22 Try.underlying5 hcu h10
    have k0 := piece_get e0
    have k1 := piece_get e1
    have k2 := piece_get e2
    have k3 := piece_get e3
    have k4 := piece_get e4
    have k5 := piece_get e5
    have k6 := piece_get e6
    have k7 := piece_get e7
    have k8 := piece_get e8
    have k9 := piece_get e9
    have k10 := piece_get e10
    have el : l = [.int .i64 a0, .int .i64 a1, .int .i64 a2, .int .i64 a3, .int .i64 a4, .int .i64 a5, .int .i64 a6, .bool b7, .bool b8, .slice A9 o9.length c9, .slice A10 d10.length c10] := by
      match l, hl' with
      | [x0, x1, x2, x3, x4, x5, x6, x7, x8, x9, x10], _ => simp at k0 k1 k2 k3 k4 k5 k6 k7 k8 k9 k10; simp [k0, k1, k2, k3, k4, k5, k6, k7, k8, k9, k10]
    exact ⟨⟨⟨a0, a1, a2, a3, a4, a5, a6, b7, b8, o9, d10⟩, A9, c9, A10, c10⟩, el, f9, f10⟩
theorem cells_at {w : World} {base n : Nat} {b off : Nat} {cs : List Value} (h : w.cells? base ⟨b, off, none⟩ n = some cs) : w.rangeAt b off cs := fun j u hj => by
  obtain ⟨_, hl, hc⟩ := World.cells?_some h
  have hlt : j < n := by rw [← hl]; exact (List.getElem?_eq_some_iff.1 hj).1
  have h1 := hc j hlt
  rw [add_off, hj] at h1
  exact h1
set_option maxRecDepth 100000 in
theorem get_v4s (hv : Value.okWide Try.prog w .any base 26 v) (h : DataW.Trod enc Try.prog w 0 (fun _ => true) true 26 v d p) :
    ∃ A c l, v = .slice A l.length c ∧ L4 w w.heap.size A l ∧ l.length ≤ c ∧ c ≤ maxLen := by
  obtain ⟨A, len, cap, rfl⟩ := okWide_slice Try.underlying26 hv
  obtain ⟨fuel, hf⟩ := h
  rcases Deep.open_slice Try.underlying26 hf with ⟨hcs, _⟩ | ⟨a, len', cap', m, n, D, Pl, hcs, _, hl, hm, hmm, _, hall⟩
  · simp [Value.cells] at hcs
    obtain ⟨rfl, rfl, rfl⟩ := hcs
    exact ⟨none, 0, [], rfl, ⟨fun hn => absurd hn (by simp), fun x hx => by cases hx⟩, Nat.le_refl _, Nat.zero_le _⟩
  · simp [Value.cells] at hcs
    obtain ⟨rfl, rfl, rfl⟩ := hcs
    have hcn : Try.prog.cellsOf 24 = 11 := by kernel_rfl
    rw [hcn] at hall
    have hmm' : m = cap := by simpa using hmm
    subst hmm'
    have key : ∀ i, ∃ y : X4, i < len → w.cells? 0 (a.add (i * 11)) 11 = some (cl4 y) ∧ Arg w w.heap.size y.A y.c y.q.opt ∧ Arg w w.heap.size y.A' y.c' y.q.dat := fun i => by
      by_cases hi : i < len
      · obtain ⟨cs', h1, h2⟩ := hall i (by omega)
        obtain ⟨y, rfl, h3, h4⟩ := cell_v4 h2
        exact ⟨y, fun _ => ⟨h1, h3, h4⟩⟩
      · exact ⟨⟨p4z, none, 0, none, 0⟩, fun h => absurd h hi⟩
    obtain ⟨X, hX⟩ := Classical.skolem.1 key
    have el : ((List.range len).map X).length = len := by simp
    refine ⟨some a, m, (List.range len).map X, by rw [el], ⟨fun hn => ?_, fun x hx => ?_⟩, by rw [el]; exact hl, hm⟩
    · rw [el] at hn
      obtain ⟨b, off, spot⟩ := a
      have h0 := (hX 0 hn).1
      have hc0 : World.cell? w ((Addr.mk b off spot).add (0 * 11) |>.add 0) = (cl4 (X 0))[0]? := (World.cells?_some h0).2.2 0 (by decide)
      have hspot : spot = none := by simpa [Addr.add] using World.cell?_spot (hc0.trans rfl)
      subst hspot
      have hb : b < w.heap.size := by simpa [Addr.add] using World.cells?_block h0 (by decide)
      refine ⟨b, off, rfl, hb, fun j x hx => ?_⟩
      have hj : j < len := by
        have := (List.getElem?_eq_some_iff.1 hx).1
        rwa [el] at this
      have e : x = X j := by
        rw [List.getElem?_map, List.getElem?_range hj] at hx
        simpa using hx.symm
      have h1 := (hX j hj).1
      rw [add_off] at h1
      rw [e]
      exact cells_at h1
    · obtain ⟨i, hi, rfl⟩ := List.mem_map.1 hx
      exact (hX i (List.mem_range.1 hi)).2
end
end Go.Proofs.Ytcebobcakiljhaa
