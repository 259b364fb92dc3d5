/-
  Contracts and lemmas on which the proofs of this seat stand (several texts in one). Conditions are each theorem's own.
-/
import Derived.Test.YtpoigngpdcmipaaGreatMb21
namespace Go.Proofs.YtpoigngpdcmipaaGreat
open Go.RowKit
theorem hpx {P : Program} {ops : Array Oper} {Q : Exit → Act → World → Prop} {md : Region.Mode} {S : World → Prop} {i : Nat} {oi : Oper} {v : Value} {fuel : Nat} {listed : Array Bool} {a : Act} {w : World} (hi : ops[i]? = some oi)
    (hrun : ∀ w, S w → (execOp a.eval oi).run P w = .ok (.value v) w) (hS : S w) (h : S w → wpAnyH P md ops Q S fuel (listed.setIfInBounds i true) (a.put oi.dst v) w)
    (hs : Region.noSelect ops = true := by kernel_rfl) (hf : Region.free md ops listed i = true := by kernel_rfl) (hr : (Region.ready md ops listed).contains i = true := by kernel_rfl)
    (hQ : ∀ c a w, Q (.panic c) (a.put oi.dst v) w → Q (.panic c) a w := by exact fun _ _ _ h => h) (hw : Region.wanted oi (yielded ops a.tmps) = true := by rfl) : wpAnyH P md ops Q S (fuel + 1) listed a w :=
  held_pure hi hs hf hr hQ hw hrun hS h
theorem tj32 : ¬ TJ 60 ∧ ¬ TJ 97 ∧ ¬ TJ 38 ∧ ¬ TJ 42 ∧ ¬ TJ 5 ∧ ¬ TJ 22 := by
  refine ⟨?_, ?_, ?_, ?_, ?_, ?_⟩ <;> (rintro (h | h | h | h) <;> exact absurd h (nat_ne (by kernel_rfl)))
theorem run_load_tb {o : Oper} {a : Act} {w : World} {x : Operand} {p : Addr} {A : Option Addr} (ho : o.op = .load 57 x) (hx : a.eval x = .pointer (some p)) (hc : w.cell? p = some (.pointer A)) :
    (execOp a.eval o).run Tryz.prog w = .ok (.value (.pointer A)) w := by
  unfold execOp
  simp only [ho, hx, Instr.loadAt, Instr.sureAddr, Sem.run_bind, Sem.run_pure, Result.andThen_ok]
  go_simp
structure FromA (p : P6) : Prop where
  h6 : ok6 p
  src : p.src = aftQ
  dst : p.dst = ownQ
  chk : chk6 p = 0
theorem FragQ.from {p : P6} (h : FragQ p) : FromA p := ⟨h.h6, h.src, h.dst, h.chk⟩
section
variable {B0 : Nat} {w w' : World} {x t bm k N : Nat} {m now id : Int} {S S' : List Bu} {T T' : List Bf} {L : List Int}
theorem ne_type {g h : Nat} {cs cs' : Array Value} {ty ty' : TypeId} {fr fr' : Nat × Nat} (hg : w.heap[g]? = some (.cells cs ty fr)) (hh : w.heap[h]? = some (.cells cs' ty' fr')) (ht : ty ≠ ty') : g ≠ h := fun e => by
  subst e
  rw [hg] at hh
  injection hh with hh
  injection hh with _ e2 _
  exact ht e2
theorem Bf4.boxK (h : Bf4 B0 w x t bm k m now id N S T L) {g : Nat} {cs : Array Value} {fr : Nat × Nat} (hg : w.heap[g]? = some (.cells cs 38 fr)) (kp : Kept (fun i => i = g) w w') : Bf4 B0 w' x t bm k m now id N S T L :=
  ⟨(kp.block x (heap_lt h.obj) (ne_type h.obj hg (nat_ne (by kernel_rfl)))).trans h.obj, h.jv.oneV hg kp, h.sm,
    h.cn.keep (kp.block k (heap_lt h.cn.obj) (ne_type h.cn.obj hg (nat_ne (by kernel_rfl)))), h.bd, h.bx, h.bk, Nat.le_trans h.be kp.size⟩
theorem Bf4.tab (h : Bf4 B0 w x t bm k m now id N S T L) (j : Jv w' B0 t bm 4 10000 60 (N + 1) S') (s : SameT S' T') (kp : Kept (NJ B0 w) w w') : Bf4 B0 w' x t bm k m now id (N + 1) S' T' L :=
  ⟨nj_stay kp h.obj tj32.1, j, s, h.cn.keep (kp.block k (heap_lt h.cn.obj) (fun hn => tj32.2.1 (hn.2 _ _ _ h.cn.obj))), bdC_more h.bd (Nat.le_succ _), h.bx, h.bk, Nat.le_trans h.be kp.size⟩
set_option maxRecDepth 100000 in
set_option maxHeartbeats 4000000 in
theorem bpart_more (h : Bf4 B0 w x t bm k m 0 id N S T L) (hN : N + 1 ≤ 100000) (p : P6) (A : Option Addr) (c : Nat) (hA : Arg w w.heap.size A c p.dat) (hg : FragQ p) (hr : addJ 4 10000 T keyK (pcOf p) [4] 0 = (T', [], [], false, 0)) :
    Calls Tryz.prog 73 #[.pointer (some ⟨x, 0, none⟩), .agg (v6a p A c)] w fun e w' => Hid (e = .returned (.tuple #[.slice none 0 0, .int .i64 0])) ∧ Kept (NJ B0 w) w w' ∧ ∃ S', Bf4 B0 w' x t bm k m 0 id (N + 1) S' T' L := by
  have h6 := hg.h6
  have HGQ := Lib.hid hg
  have HN := Lib.hid hN
  have HR := Lib.hid hr
  clear hg hN hr
  have hb0 := (Below.refl _ w).alloc (Nat.le_refl _) (.cells (v6a p A c) 38)
  have k0 := World.alloc_heap_new w (.cells (v6a p A c) 38)
  have HG6 := Lib.hid h6
  have hA0 := hA.below hb0
  have HA0 := Lib.hid hA0
  have hF0 := h.below hb0
  have hz0 := hb0.size
  have hxw := heap_lt h.obj
  clear h hA h6
  go_enter Tryz.func73, Tryz.ntmps73
  go_upto_region 1 with fail
  generalize w.alloc (.cells (v6a p A c) 38) = W at *
  have bW := hb0
  have HKW := Lib.hid k0
  have HFW := Lib.hid hF0
  have KX : ∀ V, Kept (fun i => i = w.heap.size ∨ NJ B0 W i) W V → V.heap[x]? = W.heap[x]? := fun V hV => hV.block x (heap_lt hF0.obj) (fun e => by
    rcases e with e | e
    · omega
    · exact tj32.1 (e.2 _ _ _ hF0.obj))
  have KT : Hid (∀ V, Kept (fun i => i = w.heap.size ∨ NJ B0 W i) W V → V.cell? ⟨x, 37, none⟩ = some (.pointer (some ⟨t, 0, none⟩))) := Lib.hid (fun V hV => cellC ((KX V hV).trans HFW.out.obj) rfl)
  have KN : Hid (∀ V, Kept (fun i => i = w.heap.size ∨ NJ B0 W i) W V → V.cell? ⟨x, 39, none⟩ = some (.int .i64 0)) := Lib.hid (fun V hV => cellC ((KX V hV).trans HFW.out.obj) rfl)
  have at1 : At6 W.drew w.heap.size p A c := range_hpR (((Below.refl _ W).drew.block _ (heap_lt k0)).trans k0)
  have yZ : Below W.heap.size W W.drew := (Below.refl _ W).drew
  have hAZ : Arg W.drew W.drew.heap.size A c p.dat := (hA0.below (yZ.mono hz0)).more hz0
  clear KX k0 hF0 hA0
  refine wp_region_held_drew (S := fun V => Kept (fun i => i = w.heap.size ∨ NJ B0 W i) W V) (by kernel_rfl) (Kept.drew W) (fun hS => ?_)
  clear hS
  have hS : Kept (fun i => i = w.heap.size ∨ NJ B0 W i) W W.drew := Kept.drew W
  refine hpx (i := 0) (oi := ⟨some 10, _, _, _, _, _⟩) rfl (v := ?_) (fun w hSw => ?_) hS (fun hS => ?_)
  rotate_left
  · go_simp; try with_reducible rfl
  try go_frame
  refine hpx (i := 1) (oi := ⟨some 11, _, _, _, _, _⟩) rfl (v := ?_) (fun w hSw => ?_) hS (fun hS => ?_)
  rotate_left
  · go_simp; try with_reducible rfl
  try go_frame
  refine hpx (i := 2) (oi := ⟨some 12, _, _, _, _, _⟩) rfl (v := ?_) (fun w hSw => ?_) hS (fun hS => ?_)
  rotate_left
  · go_simp; try with_reducible rfl
  try go_frame
  refine hpx (i := 3) (oi := ⟨some 13, _, _, _, _, _⟩) rfl (fun w hSw => run_load_tb rfl rfl (KT.out w hSw)) hS (fun hS => ?_)
  try go_frame
  refine hpx (i := 5) (oi := ⟨some 15, _, _, _, _, _⟩) rfl (v := ?_) (fun w hSw => ?_) hS (fun hS => ?_)
  rotate_left
  · go_simp; try with_reducible rfl
  try go_frame
  refine hpx (i := 6) (oi := ⟨some 16, _, _, _, _, _⟩) rfl (v := ?_) (fun w hSw => ?_) hS (fun hS => ?_)
  rotate_left
  · go_simp; try with_reducible rfl
  try go_frame
  refine hpx (i := 7) (oi := ⟨some 17, _, _, _, _, _⟩) rfl (v := ?_) (fun w hSw => ?_) hS (fun hS => ?_)
  rotate_left
  · go_simp; try with_reducible rfl
  try go_frame
  refine hpx (i := 8) (oi := ⟨some 18, _, _, _, _, _⟩) rfl (fun w hSw => run_load_int rfl rfl (KN.out w hSw)) hS (fun hS => ?_)
  try go_frame
  refine wpAnyH_ready (rs := [4]) (by kernel_rfl) (by simp) (AllReadyH.cons (o := ⟨some 14, _, _, _, _, _⟩) rfl (fun K hK => ?_) AllReadyH.nil)
  rw [if_pos (by rfl)]
  refine wp_valR (run_load_v6 rfl rfl at1 (v6l_len HG6.out.1 HG6.out.2)) ?_
  refine hK _ _ (Kept.drew W) (fun hS => ?_)
  clear hK K
  try go_frame
  refine wpAnyH_ready (rs := [9]) (by kernel_rfl) (by simp) (AllReadyH.cons (o := ⟨some 19, _, _, _, _, _⟩) rfl (fun K hK => ?_) AllReadyH.nil)
  rw [if_pos (by rfl)]
  go_simp
  refine (tnwhole_more (HFW.out.below yZ).jv HFW.out.sm (by decide) (by decide) (Nat.le_trans HFW.out.be yZ.size) HN.out p A c hAZ HGQ.out HR.out).mono ?_
  rintro e Z9 ⟨he, k9, S9, j9, s9⟩
  obtain rfl := he.out
  clear he
  have yZ9 := nj_trans yZ k9
  have HF9 := Lib.hid ((HFW.out.below yZ).tab j9 s9 k9)
  clear j9 s9 k9
  show K _ _
  refine hK.out _ _ (yZ9.mono (fun i _ e => .inr e)) (fun hS => ?_)
  clear hK K
  try go_frame
  refine hpx (i := 10) (oi := ⟨some 9, _, _, _, _, _⟩) rfl (v := ?_) (fun w hSw => ?_) hS (fun hS => ?_)
  rotate_left
  · go_simp; try with_reducible rfl
  try go_frame
  refine hpx (i := 11) (oi := ⟨some 20, _, _, _, _, _⟩) rfl (v := ?_) (fun w hSw => ?_) hS (fun hS => ?_)
  rotate_left
  · go_simp; try with_reducible rfl
  try go_frame
  refine hpx (i := 12) (oi := ⟨some 21, _, _, _, _, _⟩) rfl (v := ?_) (fun w hSw => ?_) hS (fun hS => ?_)
  rotate_left
  · go_simp; try with_reducible rfl
  try go_frame
  refine hpx (i := 13) (oi := ⟨some 22, _, _, _, _, _⟩) rfl (v := ?_) (fun w hSw => ?_) hS (fun hS => ?_)
  rotate_left
  · go_simp; try with_reducible rfl
  try go_frame
  refine wpAnyH_ready (rs := [14]) (by kernel_rfl) (by simp) (AllReadyH.cons (o := ⟨none, _, _, _, _, _⟩) rfl (fun K hK => ?_) AllReadyH.nil)
  rw [if_pos (by rfl)]
  have HK9 := Lib.hid (nj_stay yZ9 HKW.out tj32w.1)
  refine wp_store_row 38 _ _ rfl w.heap.size (v6a p6z none 0) rfl rfl 38 _ HK9.out (by rw [show (v6a p6z none 0).size = 37 from rfl]; kernel_rfl) ((v6a_szR _ _ _ HG6.out.1 HG6.out.2).trans (show (v6a p6z none 0).size = 37 from rfl).symm) (v6a_one _ _ _) ?_
  have kq := setRow_heap Z9 w.heap.size _ (v6a p6z none 0) _ _ HK9.out
  have kX : Kept (NJ B0 w) w (Z9.setRow w.heap.size (v6a p6z none 0)) := (nj_trans bW yZ9).trans (Kept.setRow _ _ _) (fun i hi e => absurd e (by omega))
  have HF10 := Lib.hid (HF9.out.boxK HK9.out (Kept.setRow Z9 w.heap.size (v6a p6z none 0)))
  refine hK _ _ ((yZ9.mono (fun i _ e => .inr e)).trans (Kept.setRow _ _ _) (fun i _ e => .inl e)) (fun hS => ?_)
  clear hK K
  generalize Z9.setRow w.heap.size (v6a p6z none 0) = X at *
  try go_frame
  refine hpx (i := 15) (oi := ⟨some 6, _, _, _, _, _⟩) rfl (v := ?_) (fun w hSw => ?_) hS (fun hS => ?_)
  rotate_left
  · go_simp; try with_reducible rfl
  try go_frame
  refine hpx (i := 16) (oi := ⟨some 7, _, _, _, _, _⟩) rfl (v := ?_) (fun w hSw => ?_) hS (fun hS => ?_)
  rotate_left
  · go_simp; try with_reducible rfl
  try go_frame
  refine wpAnyH_done (by kernel_rfl) ?_ _
  go_wp2_with fail
  refine bodyPost_ret (results_tmp2 rfl _ _ _) rfl ?_
  exact ⟨Lib.hid rfl, kX, _, HF10.out⟩
set_option maxRecDepth 100000 in
set_option maxHeartbeats 4000000 in
theorem bpart_last (h : Bf4 B0 w x t bm k m 0 id N S T L) (hN : N + 1 ≤ 100000) (p : P6) (A : Option Addr) (c : Nat) (hA : Arg w w.heap.size A c p.dat) (hg : FragQ p) (q : P4) (hq : Sent q) (hr : addJ 4 10000 T keyK (pcOf p) [4] 0 = (T', [4], bld4 q, true, 0)) :
    Calls Tryz.prog 73 #[.pointer (some ⟨x, 0, none⟩), .agg (v6a p A c)] w fun e w' => ∃ v l, Hid (e = .returned (.tuple #[v, .int .i64 0])) ∧ RowY w' w.heap.size v l ∧ Hid (l.map (·.b) = [bld4 q]) ∧ Kept (NJ B0 w) w w' ∧ ∃ S', Bf4 B0 w' x t bm k m 0 id (N + 1) S' T' L := by
  have HQ := Lib.hid hq
  clear hq
  have h6 := hg.h6
  have HGQ := Lib.hid hg
  have HN := Lib.hid hN
  have HR := Lib.hid hr
  clear hg hN hr
  have hb0 := (Below.refl _ w).alloc (Nat.le_refl _) (.cells (v6a p A c) 38)
  have k0 := World.alloc_heap_new w (.cells (v6a p A c) 38)
  have HG6 := Lib.hid h6
  have hA0 := hA.below hb0
  have HA0 := Lib.hid hA0
  have hF0 := h.below hb0
  have hz0 := hb0.size
  have hxw := heap_lt h.obj
  clear h hA h6
  go_enter Tryz.func73, Tryz.ntmps73
  go_upto_region 1 with fail
  generalize w.alloc (.cells (v6a p A c) 38) = W at *
  have bW := hb0
  have HKW := Lib.hid k0
  have HFW := Lib.hid hF0
  have KX : ∀ V, Kept (fun i => i = w.heap.size ∨ NJ B0 W i) W V → V.heap[x]? = W.heap[x]? := fun V hV => hV.block x (heap_lt hF0.obj) (fun e => by
    rcases e with e | e
    · omega
    · exact tj32.1 (e.2 _ _ _ hF0.obj))
  have KT : Hid (∀ V, Kept (fun i => i = w.heap.size ∨ NJ B0 W i) W V → V.cell? ⟨x, 37, none⟩ = some (.pointer (some ⟨t, 0, none⟩))) := Lib.hid (fun V hV => cellC ((KX V hV).trans HFW.out.obj) rfl)
  have KN : Hid (∀ V, Kept (fun i => i = w.heap.size ∨ NJ B0 W i) W V → V.cell? ⟨x, 39, none⟩ = some (.int .i64 0)) := Lib.hid (fun V hV => cellC ((KX V hV).trans HFW.out.obj) rfl)
  have at1 : At6 W.drew w.heap.size p A c := range_hpR (((Below.refl _ W).drew.block _ (heap_lt k0)).trans k0)
  have yZ : Below W.heap.size W W.drew := (Below.refl _ W).drew
  have hAZ : Arg W.drew W.drew.heap.size A c p.dat := (hA0.below (yZ.mono hz0)).more hz0
  clear KX k0 hF0 hA0
  refine wp_region_held_drew (S := fun V => Kept (fun i => i = w.heap.size ∨ NJ B0 W i) W V) (by kernel_rfl) (Kept.drew W) (fun hS => ?_)
  clear hS
  have hS : Kept (fun i => i = w.heap.size ∨ NJ B0 W i) W W.drew := Kept.drew W
  refine hpx (i := 0) (oi := ⟨some 10, _, _, _, _, _⟩) rfl (v := ?_) (fun w hSw => ?_) hS (fun hS => ?_)
  rotate_left
  · go_simp; try with_reducible rfl
  try go_frame
  refine hpx (i := 1) (oi := ⟨some 11, _, _, _, _, _⟩) rfl (v := ?_) (fun w hSw => ?_) hS (fun hS => ?_)
  rotate_left
  · go_simp; try with_reducible rfl
  try go_frame
  refine hpx (i := 2) (oi := ⟨some 12, _, _, _, _, _⟩) rfl (v := ?_) (fun w hSw => ?_) hS (fun hS => ?_)
  rotate_left
  · go_simp; try with_reducible rfl
  try go_frame
  refine hpx (i := 3) (oi := ⟨some 13, _, _, _, _, _⟩) rfl (fun w hSw => run_load_tb rfl rfl (KT.out w hSw)) hS (fun hS => ?_)
  try go_frame
  refine hpx (i := 5) (oi := ⟨some 15, _, _, _, _, _⟩) rfl (v := ?_) (fun w hSw => ?_) hS (fun hS => ?_)
  rotate_left
  · go_simp; try with_reducible rfl
  try go_frame
  refine hpx (i := 6) (oi := ⟨some 16, _, _, _, _, _⟩) rfl (v := ?_) (fun w hSw => ?_) hS (fun hS => ?_)
  rotate_left
  · go_simp; try with_reducible rfl
  try go_frame
  refine hpx (i := 7) (oi := ⟨some 17, _, _, _, _, _⟩) rfl (v := ?_) (fun w hSw => ?_) hS (fun hS => ?_)
  rotate_left
  · go_simp; try with_reducible rfl
  try go_frame
  refine hpx (i := 8) (oi := ⟨some 18, _, _, _, _, _⟩) rfl (fun w hSw => run_load_int rfl rfl (KN.out w hSw)) hS (fun hS => ?_)
  try go_frame
  refine wpAnyH_ready (rs := [4]) (by kernel_rfl) (by simp) (AllReadyH.cons (o := ⟨some 14, _, _, _, _, _⟩) rfl (fun K hK => ?_) AllReadyH.nil)
  rw [if_pos (by rfl)]
  refine wp_valR (run_load_v6 rfl rfl at1 (v6l_len HG6.out.1 HG6.out.2)) ?_
  refine hK _ _ (Kept.drew W) (fun hS => ?_)
  clear hK K
  try go_frame
  refine wpAnyH_ready (rs := [9]) (by kernel_rfl) (by simp) (AllReadyH.cons (o := ⟨some 19, _, _, _, _, _⟩) rfl (fun K hK => ?_) AllReadyH.nil)
  rw [if_pos (by rfl)]
  go_simp
  refine (tnwhole_last (HFW.out.below yZ).jv HFW.out.sm (by decide) (by decide) (Nat.le_trans HFW.out.be yZ.size) HN.out p A c hAZ HGQ.out q HR.out).mono ?_
  rintro e Z9 ⟨A9, c9, he, o9, k9, S9, j9, s9⟩
  obtain rfl := he.out
  clear he
  have yZ9 := nj_trans yZ k9
  have HF9 := Lib.hid ((HFW.out.below yZ).tab j9 s9 k9)
  have HO9 := Lib.hid (own_base o9 yZ.size)
  clear j9 s9 k9 o9
  show K _ _
  refine hK.out _ _ (yZ9.mono (fun i _ e => .inr e)) (fun hS => ?_)
  clear hK K
  try go_frame
  refine hpx (i := 10) (oi := ⟨some 9, _, _, _, _, _⟩) rfl (v := ?_) (fun w hSw => ?_) hS (fun hS => ?_)
  rotate_left
  · go_simp; try with_reducible rfl
  try go_frame
  refine hpx (i := 11) (oi := ⟨some 20, _, _, _, _, _⟩) rfl (v := ?_) (fun w hSw => ?_) hS (fun hS => ?_)
  rotate_left
  · go_simp; try with_reducible rfl
  try go_frame
  refine hpx (i := 12) (oi := ⟨some 21, _, _, _, _, _⟩) rfl (v := ?_) (fun w hSw => ?_) hS (fun hS => ?_)
  rotate_left
  · go_simp; try with_reducible rfl
  try go_frame
  refine hpx (i := 13) (oi := ⟨some 22, _, _, _, _, _⟩) rfl (v := ?_) (fun w hSw => ?_) hS (fun hS => ?_)
  rotate_left
  · go_simp; try with_reducible rfl
  try go_frame
  refine wpAnyH_ready (rs := [14]) (by kernel_rfl) (by simp) (AllReadyH.cons (o := ⟨none, _, _, _, _, _⟩) rfl (fun K hK => ?_) AllReadyH.nil)
  rw [if_pos (by rfl)]
  have HK9 := Lib.hid (nj_stay yZ9 HKW.out tj32w.1)
  refine wp_store_row 38 _ _ rfl w.heap.size (v6a { p with next := 4, dat := bld4 q } A9 c9) rfl rfl 38 _ HK9.out (by rw [v6a_szR { p with next := 4, dat := bld4 q } A9 c9 HG6.out.1 HG6.out.2]; kernel_rfl) ((v6a_szR _ _ _ HG6.out.1 HG6.out.2).trans (v6a_szR { p with next := 4, dat := bld4 q } A9 c9 HG6.out.1 HG6.out.2).symm) (v6a_one _ _ _) ?_
  have kq := setRow_heap Z9 w.heap.size _ (v6a { p with next := 4, dat := bld4 q } A9 c9) _ _ HK9.out
  have kX : Kept (NJ B0 w) w (Z9.setRow w.heap.size (v6a { p with next := 4, dat := bld4 q } A9 c9)) := (nj_trans bW yZ9).trans (Kept.setRow _ _ _) (fun i hi e => absurd e (by omega))
  have HF10 := Lib.hid (HF9.out.boxK HK9.out (Kept.setRow Z9 w.heap.size (v6a { p with next := 4, dat := bld4 q } A9 c9)))
  have HO10 := Lib.hid (own_setRowR (cs' := v6a { p with next := 4, dat := bld4 q } A9 c9) HO9.out HK9.out (nat_ne (by kernel_rfl)))
  refine hK _ _ ((yZ9.mono (fun i _ e => .inr e)).trans (Kept.setRow _ _ _) (fun i _ e => .inl e)) (fun hS => ?_)
  clear hK K
  generalize Z9.setRow w.heap.size (v6a { p with next := 4, dat := bld4 q } A9 c9) = X at *
  try go_frame
  refine hpx (i := 15) (oi := ⟨some 6, _, _, _, _, _⟩) rfl (v := ?_) (fun w hSw => ?_) hS (fun hS => ?_)
  rotate_left
  · go_simp; try with_reducible rfl
  try go_frame
  refine hpx (i := 16) (oi := ⟨some 7, _, _, _, _, _⟩) rfl (v := ?_) (fun w hSw => ?_) hS (fun hS => ?_)
  rotate_left
  · go_simp; try with_reducible rfl
  try go_frame
  refine wpAnyH_done (by kernel_rfl) ?_ _
  have hA10 : Arg X X.heap.size A9 c9 (bld4 q) := arg_own HO10.out
  have at10 : At6 X w.heap.size { p with next := 4, dat := bld4 q } A9 c9 := range_hpR kq
  have h10 : ok6 { p with next := 4, dat := bld4 q } := HG6.out
  clear kq
  go_upto_region 5 with (first
    | ((with_reducible show wpList _ _ _ (Oper.mk _ (Op.load 38 _) _ _ _ _ :: _) _ _); refine wpList_val rfl (run_load_v6 rfl rfl at10 (v6l_len h10.1 h10.2)) ?_)
    | (go_at_call 101; refine (tnwithin { p with next := 4, dat := bld4 q } q A9 c9 X h10 hA10 rfl rfl HQ.out).mono ?_; rintro e w2 ⟨Pa, pa, Pb, pb, he, ga, gb, x11⟩; obtain rfl := he.out; clear he)
    | ((with_reducible show wpList _ _ _ (Oper.mk _ (Op.store 46 _ _) _ _ _ _ :: _) _ _); refine v4_store_new (cs := v4a q Pa pa Pb pb) rfl rfl rfl rfl (v4a_one _ _ _ _ _) ?_))
  have kz := World.alloc_heap_new w2 (.cells (v4a q Pa pa Pb pb) 46)
  have a2 : Below w2.heap.size w2 (w2.alloc (.cells (v4a q Pa pa Pb pb) 46)) := (Below.refl _ w2).alloc (Nat.le_refl _) _
  have y2 : Below X.heap.size X (w2.alloc (.cells (v4a q Pa pa Pb pb) 46)) := x11.alloc x11.size _
  have ga := (ga.below a2).more a2.size
  have gb := (gb.below a2).more a2.size
  generalize w2.alloc (.cells (v4a q Pa pa Pb pb) 46) = W2 at *
  have at2 := ofhE kz
  clear x11 a2 kz
  go_wp2_with (first
    | ((with_reducible show wpList _ _ _ (Oper.mk _ (Op.load 46 _) _ _ _ _ :: _) _ _); refine wpList_val rfl (run_load_v4 rfl rfl at2 rfl) ?_)
    | (go_at_call 88; refine (bbuilt q Pa pa Pb pb W2.heap.size W2 ga gb (Nat.le_refl _) (by rw [HQ.out.opt]; decide) (by have := HQ.out.len; omega) HQ.out.chk).mono ?_; rintro e w3 ⟨P3, p3, rfl, m3⟩; obtain ⟨_, _, e3, _, o3, x3⟩ := made_shape m3; cases e3; clear m3)
    | ((with_reducible show wpList _ _ _ (Oper.mk _ (Op.buildSlice _ _ _) _ _ _ _ :: _) _ _); refine wpList_growU rfl (run_bsY rfl rfl) ?_))
  refine bodyPost_ret (results_tmp2 rfl _ _ _) rfl ?_
  have y3 := y2.trans (x3.mono y2.size)
  have a3 : Below w3.heap.size w3 (w3.alloc (.cells #[.slice P3 (bld4 q).length p3] 22)) := (Below.refl _ w3).alloc (Nat.le_refl _) _
  have hzz : w.heap.size ≤ w3.heap.size := Nat.le_trans kX.size y3.size
  have rowN := World.ownsRow_lit (base := w.heap.size) (e := 22) (size := 1) w3 #[.slice P3 (bld4 q).length p3] 1 hzz (by decide) rfl
  have yE := y3.trans (a3.mono y3.size)
  exact ⟨_, [⟨P3, p3, bld4 q⟩], Lib.hid rfl, ⟨rowN, fun y hy => by rw [List.mem_singleton.1 hy]; exact own_below (own_base o3 (Nat.le_trans kX.size y2.size)) a3⟩, Lib.hid rfl, kX.trans (Kept.of_below (S := fun _ => False) yE) (fun i hi hf => hf.elim), _, HF10.out.below yE⟩
set_option maxRecDepth 100000 in
set_option maxHeartbeats 4000000 in
theorem bpart_whole (h : Bf4 B0 w x t bm k m 0 id N S T L) (p : P6) (A : Option Addr) (c : Nat) (hA : Arg w w.heap.size A c p.dat) (h6 : ok6 p) (hn : p.next = 4) (q : P4) (hd : p.dat = bld4 q) (hq : Sent q) :
    Calls Tryz.prog 73 #[.pointer (some ⟨x, 0, none⟩), .agg (v6a p A c)] w fun e w' => ∃ v l, Hid (e = .returned (.tuple #[v, .int .i64 0])) ∧ RowY w' w.heap.size v l ∧ Hid (l.map (·.b) = [bld4 q]) ∧ Kept (NJ B0 w) w w' ∧ ∃ S', Bf4 B0 w' x t bm k m 0 id (N + 1) S' T L := by
  have HQ := Lib.hid hq
  have HNX := Lib.hid hn
  have HDD := Lib.hid hd
  clear hq hn hd
  have hb0 := (Below.refl _ w).alloc (Nat.le_refl _) (.cells (v6a p A c) 38)
  have k0 := World.alloc_heap_new w (.cells (v6a p A c) 38)
  have HG6 := Lib.hid h6
  have hA0 := hA.below hb0
  have HA0 := Lib.hid hA0
  have hF0 := h.below hb0
  have hz0 := hb0.size
  have hxw := heap_lt h.obj
  clear h hA h6
  go_enter Tryz.func73, Tryz.ntmps73
  go_upto_region 1 with fail
  generalize w.alloc (.cells (v6a p A c) 38) = W at *
  have bW := hb0
  have HKW := Lib.hid k0
  have HFW := Lib.hid hF0
  have KX : ∀ V, Kept (fun i => i = w.heap.size ∨ NJ B0 W i) W V → V.heap[x]? = W.heap[x]? := fun V hV => hV.block x (heap_lt hF0.obj) (fun e => by
    rcases e with e | e
    · omega
    · exact tj32.1 (e.2 _ _ _ hF0.obj))
  have KT : Hid (∀ V, Kept (fun i => i = w.heap.size ∨ NJ B0 W i) W V → V.cell? ⟨x, 37, none⟩ = some (.pointer (some ⟨t, 0, none⟩))) := Lib.hid (fun V hV => cellC ((KX V hV).trans HFW.out.obj) rfl)
  have KN : Hid (∀ V, Kept (fun i => i = w.heap.size ∨ NJ B0 W i) W V → V.cell? ⟨x, 39, none⟩ = some (.int .i64 0)) := Lib.hid (fun V hV => cellC ((KX V hV).trans HFW.out.obj) rfl)
  have at1 : At6 W.drew w.heap.size p A c := range_hpR (((Below.refl _ W).drew.block _ (heap_lt k0)).trans k0)
  have yZ : Below W.heap.size W W.drew := (Below.refl _ W).drew
  have hAZ : Arg W.drew W.drew.heap.size A c p.dat := (hA0.below (yZ.mono hz0)).more hz0
  clear KX k0 hF0 hA0
  refine wp_region_held_drew (S := fun V => Kept (fun i => i = w.heap.size ∨ NJ B0 W i) W V) (by kernel_rfl) (Kept.drew W) (fun hS => ?_)
  clear hS
  have hS : Kept (fun i => i = w.heap.size ∨ NJ B0 W i) W W.drew := Kept.drew W
  refine hpx (i := 0) (oi := ⟨some 10, _, _, _, _, _⟩) rfl (v := ?_) (fun w hSw => ?_) hS (fun hS => ?_)
  rotate_left
  · go_simp; try with_reducible rfl
  try go_frame
  refine hpx (i := 1) (oi := ⟨some 11, _, _, _, _, _⟩) rfl (v := ?_) (fun w hSw => ?_) hS (fun hS => ?_)
  rotate_left
  · go_simp; try with_reducible rfl
  try go_frame
  refine hpx (i := 2) (oi := ⟨some 12, _, _, _, _, _⟩) rfl (v := ?_) (fun w hSw => ?_) hS (fun hS => ?_)
  rotate_left
  · go_simp; try with_reducible rfl
  try go_frame
  refine hpx (i := 3) (oi := ⟨some 13, _, _, _, _, _⟩) rfl (fun w hSw => run_load_tb rfl rfl (KT.out w hSw)) hS (fun hS => ?_)
  try go_frame
  refine hpx (i := 5) (oi := ⟨some 15, _, _, _, _, _⟩) rfl (v := ?_) (fun w hSw => ?_) hS (fun hS => ?_)
  rotate_left
  · go_simp; try with_reducible rfl
  try go_frame
  refine hpx (i := 6) (oi := ⟨some 16, _, _, _, _, _⟩) rfl (v := ?_) (fun w hSw => ?_) hS (fun hS => ?_)
  rotate_left
  · go_simp; try with_reducible rfl
  try go_frame
  refine hpx (i := 7) (oi := ⟨some 17, _, _, _, _, _⟩) rfl (v := ?_) (fun w hSw => ?_) hS (fun hS => ?_)
  rotate_left
  · go_simp; try with_reducible rfl
  try go_frame
  refine hpx (i := 8) (oi := ⟨some 18, _, _, _, _, _⟩) rfl (fun w hSw => run_load_int rfl rfl (KN.out w hSw)) hS (fun hS => ?_)
  try go_frame
  refine wpAnyH_ready (rs := [4]) (by kernel_rfl) (by simp) (AllReadyH.cons (o := ⟨some 14, _, _, _, _, _⟩) rfl (fun K hK => ?_) AllReadyH.nil)
  rw [if_pos (by rfl)]
  refine wp_valR (run_load_v6 rfl rfl at1 (v6l_len HG6.out.1 HG6.out.2)) ?_
  refine hK _ _ (Kept.drew W) (fun hS => ?_)
  clear hK K
  try go_frame
  refine wpAnyH_ready (rs := [9]) (by kernel_rfl) (by simp) (AllReadyH.cons (o := ⟨some 19, _, _, _, _, _⟩) rfl (fun K hK => ?_) AllReadyH.nil)
  rw [if_pos (by rfl)]
  go_simp
  refine (tnwhole_no _ 0 p A c W.drew HG6.out (by rw [HNX.out]; decide)).mono ?_
  rintro e Z9 ⟨he, x9⟩
  obtain rfl := he.out
  clear he
  have hAZ9 := (hAZ.below x9).more x9.size
  have yZ9 : Kept (NJ B0 W) W Z9 := Kept.of_below (yZ.trans (x9.mono yZ.size))
  have HF9 := Lib.hid (HFW.out.below (yZ.trans (x9.mono yZ.size)))
  show K _ _
  refine hK.out _ _ (yZ9.mono (fun i _ e => .inr e)) (fun hS => ?_)
  clear hK K
  try go_frame
  refine hpx (i := 10) (oi := ⟨some 9, _, _, _, _, _⟩) rfl (v := ?_) (fun w hSw => ?_) hS (fun hS => ?_)
  rotate_left
  · go_simp; try with_reducible rfl
  try go_frame
  refine hpx (i := 11) (oi := ⟨some 20, _, _, _, _, _⟩) rfl (v := ?_) (fun w hSw => ?_) hS (fun hS => ?_)
  rotate_left
  · go_simp; try with_reducible rfl
  try go_frame
  refine hpx (i := 12) (oi := ⟨some 21, _, _, _, _, _⟩) rfl (v := ?_) (fun w hSw => ?_) hS (fun hS => ?_)
  rotate_left
  · go_simp; try with_reducible rfl
  try go_frame
  refine hpx (i := 13) (oi := ⟨some 22, _, _, _, _, _⟩) rfl (v := ?_) (fun w hSw => ?_) hS (fun hS => ?_)
  rotate_left
  · go_simp; try with_reducible rfl
  try go_frame
  refine wpAnyH_ready (rs := [14]) (by kernel_rfl) (by simp) (AllReadyH.cons (o := ⟨none, _, _, _, _, _⟩) rfl (fun K hK => ?_) AllReadyH.nil)
  rw [if_pos (by rfl)]
  have HK9 := Lib.hid (nj_stay yZ9 HKW.out tj32w.1)
  refine wp_store_row 38 _ _ rfl w.heap.size (v6a p A c) rfl rfl 38 _ HK9.out (by rw [v6a_szR p A c HG6.out.1 HG6.out.2]; kernel_rfl) ((v6a_szR _ _ _ HG6.out.1 HG6.out.2).trans (v6a_szR p A c HG6.out.1 HG6.out.2).symm) (v6a_one _ _ _) ?_
  have kq := setRow_heap Z9 w.heap.size _ (v6a p A c) _ _ HK9.out
  have kX : Kept (NJ B0 w) w (Z9.setRow w.heap.size (v6a p A c)) := (nj_trans bW yZ9).trans (Kept.setRow _ _ _) (fun i hi e => absurd e (by omega))
  have HF10 := Lib.hid (HF9.out.boxK HK9.out (Kept.setRow Z9 w.heap.size (v6a p A c)))
  have hA10 : Arg (Z9.setRow w.heap.size (v6a p A c)) (Z9.setRow w.heap.size (v6a p A c)).heap.size A c p.dat := (HA0.out.below (below_row (g := w.heap.size) (cs := v6a p A c) ((yZ.trans (x9.mono yZ.size)).mono hz0) (Nat.le_refl _))).more kX.size
  refine hK _ _ ((yZ9.mono (fun i _ e => .inr e)).trans (Kept.setRow _ _ _) (fun i _ e => .inl e)) (fun hS => ?_)
  clear hK K
  generalize Z9.setRow w.heap.size (v6a p A c) = X at *
  try go_frame
  refine hpx (i := 15) (oi := ⟨some 6, _, _, _, _, _⟩) rfl (v := ?_) (fun w hSw => ?_) hS (fun hS => ?_)
  rotate_left
  · go_simp; try with_reducible rfl
  try go_frame
  refine hpx (i := 16) (oi := ⟨some 7, _, _, _, _, _⟩) rfl (v := ?_) (fun w hSw => ?_) hS (fun hS => ?_)
  rotate_left
  · go_simp; try with_reducible rfl
  try go_frame
  refine wpAnyH_done (by kernel_rfl) ?_ _
  have at10 : At6 X w.heap.size p A c := range_hpR kq
  have h10 : ok6 p := HG6.out
  clear kq
  go_upto_region 5 with (first
    | ((with_reducible show wpList _ _ _ (Oper.mk _ (Op.load 38 _) _ _ _ _ :: _) _ _); refine wpList_val rfl (run_load_v6 rfl rfl at10 (v6l_len h10.1 h10.2)) ?_)
    | (go_at_call 101; refine (tnwithin p q A c X h10 hA10 HNX.out HDD.out HQ.out).mono ?_; rintro e w2 ⟨Pa, pa, Pb, pb, he, ga, gb, x11⟩; obtain rfl := he.out; clear he)
    | ((with_reducible show wpList _ _ _ (Oper.mk _ (Op.store 46 _ _) _ _ _ _ :: _) _ _); refine v4_store_new (cs := v4a q Pa pa Pb pb) rfl rfl rfl rfl (v4a_one _ _ _ _ _) ?_))
  have kz := World.alloc_heap_new w2 (.cells (v4a q Pa pa Pb pb) 46)
  have a2 : Below w2.heap.size w2 (w2.alloc (.cells (v4a q Pa pa Pb pb) 46)) := (Below.refl _ w2).alloc (Nat.le_refl _) _
  have y2 : Below X.heap.size X (w2.alloc (.cells (v4a q Pa pa Pb pb) 46)) := x11.alloc x11.size _
  have ga := (ga.below a2).more a2.size
  have gb := (gb.below a2).more a2.size
  generalize w2.alloc (.cells (v4a q Pa pa Pb pb) 46) = W2 at *
  have at2 := ofhE kz
  clear x11 a2 kz
  go_wp2_with (first
    | ((with_reducible show wpList _ _ _ (Oper.mk _ (Op.load 46 _) _ _ _ _ :: _) _ _); refine wpList_val rfl (run_load_v4 rfl rfl at2 rfl) ?_)
    | (go_at_call 88; refine (bbuilt q Pa pa Pb pb W2.heap.size W2 ga gb (Nat.le_refl _) (by rw [HQ.out.opt]; decide) (by have := HQ.out.len; omega) HQ.out.chk).mono ?_; rintro e w3 ⟨P3, p3, rfl, m3⟩; obtain ⟨_, _, e3, _, o3, x3⟩ := made_shape m3; cases e3; clear m3)
    | ((with_reducible show wpList _ _ _ (Oper.mk _ (Op.buildSlice _ _ _) _ _ _ _ :: _) _ _); refine wpList_growU rfl (run_bsY rfl rfl) ?_))
  refine bodyPost_ret (results_tmp2 rfl _ _ _) rfl ?_
  have y3 := y2.trans (x3.mono y2.size)
  have a3 : Below w3.heap.size w3 (w3.alloc (.cells #[.slice P3 (bld4 q).length p3] 22)) := (Below.refl _ w3).alloc (Nat.le_refl _) _
  have hzz : w.heap.size ≤ w3.heap.size := Nat.le_trans kX.size y3.size
  have rowN := World.ownsRow_lit (base := w.heap.size) (e := 22) (size := 1) w3 #[.slice P3 (bld4 q).length p3] 1 hzz (by decide) rfl
  have yE := y3.trans (a3.mono y3.size)
  have f9 := HF10.out.below yE
  exact ⟨_, [⟨P3, p3, bld4 q⟩], Lib.hid rfl, ⟨rowN, fun y hy => by rw [List.mem_singleton.1 hy]; exact own_below (own_base o3 (Nat.le_trans kX.size y2.size)) a3⟩, Lib.hid rfl, kX.trans (Kept.of_below (S := fun _ => False) yE) (fun i hi hf => hf.elim), S, ⟨f9.obj, f9.jv.mono (Nat.le_succ _), f9.sm, f9.cn, bdC_more f9.bd (Nat.le_succ _), f9.bx, f9.bk, f9.be⟩⟩
end
end Go.Proofs.YtpoigngpdcmipaaGreat
namespace Go.Proofs.YtpoigngpdcmipaaGreat
open Go.RowKit
section
variable {B0 : Nat} {w w' : World} {x t bm k N : Nat} {m now id : Int} {S S' : List Bu} {T T' : List Bf} {L : List Int}
set_option maxRecDepth 100000 in
set_option maxHeartbeats 4000000 in
theorem bdown_more (h : Bf4 B0 w x t bm k m 0 id N S T L) (hN : N + 1 ≤ 100000) (p : P6) (A : Option Addr) (c : Nat) (hA : Arg w w.heap.size A c (bld6 p)) (hf : FragQ p) (hr : addJ 4 10000 T keyK (pcOf p) [4] 0 = (T', [], [], false, 0)) :
    Calls Tryz.prog 40 #[.pointer (some ⟨x, 0, none⟩), .slice A (bld6 p).length c] w fun e w' => Hid (e = .returned (.tuple #[.slice none 0 0, .int .i64 0])) ∧ Kept (NJ B0 w) w w' ∧ ∃ S', Bf4 B0 w' x t bm k m 0 id (N + 1) S' T' L := by
  have hg := hf.from
  have hnx := hf.next
  have HFQ := Lib.hid hf
  have HN := Lib.hid hN
  have HR := Lib.hid hr
  clear hf hN hr
  have hpl := bld6_len p hg.h6.1 hg.h6.2
  have hcl := (chk6_iff.1 hg.chk).2
  have HBL : Hid ((bld6 p).length ≤ 1000000) := Lib.hid (by omega)
  have HPB := Lib.hid (prs6_bld hg.h6.1 hg.h6.2 hg.chk).1
  have HBB := Lib.hid (prs6_bld hg.h6.1 hg.h6.2 hg.chk).2
  have HG := Lib.hid hg
  have HA := Lib.hid hA
  have HF := Lib.hid h
  have HNX := Lib.hid hnx
  have h6 := hg.h6
  have eD : ∀ w, (Op.equalIn 10000 25 (.agg (cel p.dst)) (.agg (cel ownQ))).run Tryz.prog w = .ok true w := fun w => six_eqT hg.h6.2 rfl hg.dst w
  have eS : ∀ w, (Op.equalIn 10000 25 (.agg (cel p.src)) (.agg (cel aftQ))).run Tryz.prog w = .ok true w := fun w => six_eqT hg.h6.1 rfl hg.src w
  clear h hA hg hpl hcl hnx
  go_enter Tryz.func40, Tryz.ntmps40
  go_upto_region 2 with (first
    | (go_at_call 11; refine (c6parse (bld6 p) A c w w.heap.size HA.out (Nat.le_refl _) HBL.out).mono ?_; rintro e w1 ⟨P1, p1, rfl, m1⟩; rw [HPB.out] at m1; rw [HPB.out, HBB.out])
    | ((with_reducible show wpList _ _ _ (Oper.mk _ (Op.store 38 _ _) _ _ _ _ :: _) _ _); refine v6_store_new (cs := v6a p P1 p1) rfl rfl rfl (by rw [v6a_szR _ _ _ h6.1 h6.2]) (v6a_one _ _ _) ?_))
  obtain ⟨_, _, e1, g1, _, x1⟩ := made_shape m1
  cases e1
  have kz := World.alloc_heap_new w1 (.cells (v6a p P1 p1) 38)
  have a1 : Below w1.heap.size w1 (w1.alloc (.cells (v6a p P1 p1) 38)) := (Below.refl _ w1).alloc (Nat.le_refl _) _
  have b1 : Below w.heap.size w (w1.alloc (.cells (v6a p P1 p1) 38)) := x1.trans (a1.mono x1.size)
  have gW := (g1.below a1).more a1.size
  clear g1
  have zz : w.heap.size ≤ w1.heap.size := x1.size
  clear m1 x1 a1
  generalize w1.alloc (.cells (v6a p P1 p1) 38) = W at *
  generalize w1.heap.size = g at *
  have zg := heap_lt kz
  have HF1 := Lib.hid (HF.out.below b1)
  have KA : ∀ V, Below W.heap.size W V → At6 V g p P1 p1 := fun V hV => range_hpR ((hV.block g zg).trans kz)
  have KD : Hid (∀ V, Below W.heap.size W V → V.rangeAt g 20 (row p.dst)) := Lib.hid (fun V hV => (KA V hV).dst h6.1)
  have KS : Hid (∀ V, Below W.heap.size W V → V.rangeAt g 4 (row p.src)) := Lib.hid (fun V hV => (KA V hV).src)
  have KO : Hid (∀ V, Below W.heap.size W V → V.rangeAt x 0 (row ownQ)) := Lib.hid (fun V hV => st_own (HF1.out.below hV).rng)
  have KT : Hid (∀ V, Below W.heap.size W V → V.rangeAt x 16 (row aftQ)) := Lib.hid (fun V hV => st_aft (HF1.out.below hV).rng)
  have KAA := Lib.hid KA
  clear KA kz
  go_upto_region 4 with fail
  refine wp_region_held_drew (S := fun V => Below W.heap.size W V) (by kernel_rfl) (Below.refl _ W).drew (fun hS => ?_)
  refine hpx (i := 0) (oi := ⟨some 17, _, _, _, _, _⟩) rfl (v := ?_) (fun w hSw => ?_) hS (fun hS => ?_)
  rotate_left
  · go_simp; try with_reducible rfl
  try go_frame
  refine hpx (i := 1) (oi := ⟨some 18, _, _, _, _, _⟩) rfl (fun w hSw => run_load_six rfl rfl (KD.out w hSw) h6.2) hS (fun hS => ?_)
  try go_frame
  refine hpx (i := 2) (oi := ⟨some 19, _, _, _, _, _⟩) rfl (v := ?_) (fun w hSw => ?_) hS (fun hS => ?_)
  rotate_left
  · go_simp; try with_reducible rfl
  try go_frame
  refine hpx (i := 3) (oi := ⟨some 20, _, _, _, _, _⟩) rfl (v := ?_) (fun w hSw => ?_) hS (fun hS => ?_)
  rotate_left
  · go_simp; try with_reducible rfl
  try go_frame
  refine hpx (i := 4) (oi := ⟨some 21, _, _, _, _, _⟩) rfl (v := ?_) (fun w hSw => ?_) hS (fun hS => ?_)
  rotate_left
  · go_simp; try with_reducible rfl
  try go_frame
  refine hpx (i := 5) (oi := ⟨some 22, _, _, _, _, _⟩) rfl (v := ?_) (fun w hSw => ?_) hS (fun hS => ?_)
  rotate_left
  · go_simp; try with_reducible rfl
  try go_frame
  refine hpx (i := 6) (oi := ⟨some 23, _, _, _, _, _⟩) rfl (fun w hSw => run_load_six rfl rfl (KO.out w hSw) own_len) hS (fun hS => ?_)
  try go_frame
  refine hpx (i := 7) (oi := ⟨some 24, _, _, _, _, _⟩) rfl (v := .bool false) (fun w hSw => by go_simp) hS (fun hS => ?_)
  try go_frame
  refine hpx (i := 8) (oi := ⟨some 16, _, _, _, _, _⟩) rfl (v := ?_) (fun w hSw => ?_) hS (fun hS => ?_)
  rotate_left
  · go_simp; try with_reducible rfl
  try go_frame
  refine wpAnyH_done (by kernel_rfl) ?_ _
  have yZ : Below W.heap.size W W.drew := (Below.refl _ W).drew
  have kn : W.drew.cell? ⟨g, 2, none⟩ = some (.int .i64 44) := by rw [← HNX.out]; exact (KAA.out _ yZ).next
  clear hS
  generalize W.drew = Z at *
  go_upto_region 8 with fail
  refine wp_region_held_drew (S := fun V => Below W.heap.size W V) (by kernel_rfl) yZ.drew (fun hS => ?_)
  refine hpx (i := 0) (oi := ⟨some 35, _, _, _, _, _⟩) rfl (v := ?_) (fun w hSw => ?_) hS (fun hS => ?_)
  rotate_left
  · go_simp; try with_reducible rfl
  try go_frame
  refine hpx (i := 1) (oi := ⟨some 36, _, _, _, _, _⟩) rfl (fun w hSw => run_load_six rfl rfl (KS.out w hSw) h6.1) hS (fun hS => ?_)
  try go_frame
  refine hpx (i := 2) (oi := ⟨some 37, _, _, _, _, _⟩) rfl (v := ?_) (fun w hSw => ?_) hS (fun hS => ?_)
  rotate_left
  · go_simp; try with_reducible rfl
  try go_frame
  refine hpx (i := 3) (oi := ⟨some 38, _, _, _, _, _⟩) rfl (v := ?_) (fun w hSw => ?_) hS (fun hS => ?_)
  rotate_left
  · go_simp; try with_reducible rfl
  try go_frame
  refine hpx (i := 4) (oi := ⟨some 39, _, _, _, _, _⟩) rfl (v := ?_) (fun w hSw => ?_) hS (fun hS => ?_)
  rotate_left
  · go_simp; try with_reducible rfl
  try go_frame
  refine hpx (i := 5) (oi := ⟨some 40, _, _, _, _, _⟩) rfl (v := ?_) (fun w hSw => ?_) hS (fun hS => ?_)
  rotate_left
  · go_simp; try with_reducible rfl
  try go_frame
  refine hpx (i := 6) (oi := ⟨some 41, _, _, _, _, _⟩) rfl (fun w hSw => run_load_six rfl rfl (KT.out w hSw) aft_len) hS (fun hS => ?_)
  try go_frame
  refine hpx (i := 7) (oi := ⟨some 42, _, _, _, _, _⟩) rfl (v := .bool false) (fun w hSw => by go_simp) hS (fun hS => ?_)
  try go_frame
  refine hpx (i := 8) (oi := ⟨some 34, _, _, _, _, _⟩) rfl (v := ?_) (fun w hSw => ?_) hS (fun hS => ?_)
  rotate_left
  · go_simp; try with_reducible rfl
  try go_frame
  refine wpAnyH_done (by kernel_rfl) ?_ _
  have yX : Below W.heap.size W Z.drew := yZ.drew
  have kn : Z.drew.cell? ⟨g, 2, none⟩ = some (.int .i64 44) := by rw [← HNX.out]; exact (KAA.out _ yX).next
  have at8 := KAA.out _ yX
  clear hS yZ
  generalize Z.drew = X at *
  have HFX := Lib.hid (HF1.out.below yX)
  have gX := (gW.below yX).more yX.size
  have bX := b1.trans (yX.mono b1.size)
  go_wp2_with (first
    | ((with_reducible show wpList _ _ _ (Oper.mk _ (Op.load 38 _) _ _ _ _ :: _) _ _); refine wpList_val rfl (run_load_v6 rfl rfl at8 (v6l_len h6.1 h6.2)) ?_)
    | (go_at_call 73; refine (bpart_more HFX.out HN.out p P1 p1 gX HFQ.out HR.out).mono ?_; rintro e w9 ⟨he, k9, S9, f9⟩; obtain rfl := he.out; clear he))
  refine bodyPost_ret (results_tmp2 rfl _ _ _) rfl ?_
  exact ⟨Lib.hid rfl, nj_trans bX k9, _, f9⟩
set_option maxRecDepth 100000 in
set_option maxHeartbeats 4000000 in
theorem bdown_last (h : Bf4 B0 w x t bm k m 0 id N S T L) (hN : N + 1 ≤ 100000) (p : P6) (A : Option Addr) (c : Nat) (hA : Arg w w.heap.size A c (bld6 p)) (hf : FragQ p) (q : P4) (hq : Sent q) (hr : addJ 4 10000 T keyK (pcOf p) [4] 0 = (T', [4], bld4 q, true, 0)) :
    Calls Tryz.prog 40 #[.pointer (some ⟨x, 0, none⟩), .slice A (bld6 p).length c] w fun e w' => ∃ v l, Hid (e = .returned (.tuple #[v, .int .i64 0])) ∧ RowY w' w.heap.size v l ∧ Hid (l.map (·.b) = [bld4 q]) ∧ Kept (NJ B0 w) w w' ∧ ∃ S', Bf4 B0 w' x t bm k m 0 id (N + 1) S' T' L := by
  have hg := hf.from
  have hnx := hf.next
  have HFQ := Lib.hid hf
  have HN := Lib.hid hN
  have HR := Lib.hid hr
  have HQ := Lib.hid hq
  clear hf hN hr hq
  have hpl := bld6_len p hg.h6.1 hg.h6.2
  have hcl := (chk6_iff.1 hg.chk).2
  have HBL : Hid ((bld6 p).length ≤ 1000000) := Lib.hid (by omega)
  have HPB := Lib.hid (prs6_bld hg.h6.1 hg.h6.2 hg.chk).1
  have HBB := Lib.hid (prs6_bld hg.h6.1 hg.h6.2 hg.chk).2
  have HG := Lib.hid hg
  have HA := Lib.hid hA
  have HF := Lib.hid h
  have HNX := Lib.hid hnx
  have h6 := hg.h6
  have eD : ∀ w, (Op.equalIn 10000 25 (.agg (cel p.dst)) (.agg (cel ownQ))).run Tryz.prog w = .ok true w := fun w => six_eqT hg.h6.2 rfl hg.dst w
  have eS : ∀ w, (Op.equalIn 10000 25 (.agg (cel p.src)) (.agg (cel aftQ))).run Tryz.prog w = .ok true w := fun w => six_eqT hg.h6.1 rfl hg.src w
  clear h hA hg hpl hcl hnx
  go_enter Tryz.func40, Tryz.ntmps40
  go_upto_region 2 with (first
    | (go_at_call 11; refine (c6parse (bld6 p) A c w w.heap.size HA.out (Nat.le_refl _) HBL.out).mono ?_; rintro e w1 ⟨P1, p1, rfl, m1⟩; rw [HPB.out] at m1; rw [HPB.out, HBB.out])
    | ((with_reducible show wpList _ _ _ (Oper.mk _ (Op.store 38 _ _) _ _ _ _ :: _) _ _); refine v6_store_new (cs := v6a p P1 p1) rfl rfl rfl (by rw [v6a_szR _ _ _ h6.1 h6.2]) (v6a_one _ _ _) ?_))
  obtain ⟨_, _, e1, g1, _, x1⟩ := made_shape m1
  cases e1
  have kz := World.alloc_heap_new w1 (.cells (v6a p P1 p1) 38)
  have a1 : Below w1.heap.size w1 (w1.alloc (.cells (v6a p P1 p1) 38)) := (Below.refl _ w1).alloc (Nat.le_refl _) _
  have b1 : Below w.heap.size w (w1.alloc (.cells (v6a p P1 p1) 38)) := x1.trans (a1.mono x1.size)
  have gW := (g1.below a1).more a1.size
  clear g1
  have zz : w.heap.size ≤ w1.heap.size := x1.size
  clear m1 x1 a1
  generalize w1.alloc (.cells (v6a p P1 p1) 38) = W at *
  generalize w1.heap.size = g at *
  have zg := heap_lt kz
  have HF1 := Lib.hid (HF.out.below b1)
  have KA : ∀ V, Below W.heap.size W V → At6 V g p P1 p1 := fun V hV => range_hpR ((hV.block g zg).trans kz)
  have KD : Hid (∀ V, Below W.heap.size W V → V.rangeAt g 20 (row p.dst)) := Lib.hid (fun V hV => (KA V hV).dst h6.1)
  have KS : Hid (∀ V, Below W.heap.size W V → V.rangeAt g 4 (row p.src)) := Lib.hid (fun V hV => (KA V hV).src)
  have KO : Hid (∀ V, Below W.heap.size W V → V.rangeAt x 0 (row ownQ)) := Lib.hid (fun V hV => st_own (HF1.out.below hV).rng)
  have KT : Hid (∀ V, Below W.heap.size W V → V.rangeAt x 16 (row aftQ)) := Lib.hid (fun V hV => st_aft (HF1.out.below hV).rng)
  have KAA := Lib.hid KA
  clear KA kz
  go_upto_region 4 with fail
  refine wp_region_held_drew (S := fun V => Below W.heap.size W V) (by kernel_rfl) (Below.refl _ W).drew (fun hS => ?_)
  refine hpx (i := 0) (oi := ⟨some 17, _, _, _, _, _⟩) rfl (v := ?_) (fun w hSw => ?_) hS (fun hS => ?_)
  rotate_left
  · go_simp; try with_reducible rfl
  try go_frame
  refine hpx (i := 1) (oi := ⟨some 18, _, _, _, _, _⟩) rfl (fun w hSw => run_load_six rfl rfl (KD.out w hSw) h6.2) hS (fun hS => ?_)
  try go_frame
  refine hpx (i := 2) (oi := ⟨some 19, _, _, _, _, _⟩) rfl (v := ?_) (fun w hSw => ?_) hS (fun hS => ?_)
  rotate_left
  · go_simp; try with_reducible rfl
  try go_frame
  refine hpx (i := 3) (oi := ⟨some 20, _, _, _, _, _⟩) rfl (v := ?_) (fun w hSw => ?_) hS (fun hS => ?_)
  rotate_left
  · go_simp; try with_reducible rfl
  try go_frame
  refine hpx (i := 4) (oi := ⟨some 21, _, _, _, _, _⟩) rfl (v := ?_) (fun w hSw => ?_) hS (fun hS => ?_)
  rotate_left
  · go_simp; try with_reducible rfl
  try go_frame
  refine hpx (i := 5) (oi := ⟨some 22, _, _, _, _, _⟩) rfl (v := ?_) (fun w hSw => ?_) hS (fun hS => ?_)
  rotate_left
  · go_simp; try with_reducible rfl
  try go_frame
  refine hpx (i := 6) (oi := ⟨some 23, _, _, _, _, _⟩) rfl (fun w hSw => run_load_six rfl rfl (KO.out w hSw) own_len) hS (fun hS => ?_)
  try go_frame
  refine hpx (i := 7) (oi := ⟨some 24, _, _, _, _, _⟩) rfl (v := .bool false) (fun w hSw => by go_simp) hS (fun hS => ?_)
  try go_frame
  refine hpx (i := 8) (oi := ⟨some 16, _, _, _, _, _⟩) rfl (v := ?_) (fun w hSw => ?_) hS (fun hS => ?_)
  rotate_left
  · go_simp; try with_reducible rfl
  try go_frame
  refine wpAnyH_done (by kernel_rfl) ?_ _
  have yZ : Below W.heap.size W W.drew := (Below.refl _ W).drew
  have kn : W.drew.cell? ⟨g, 2, none⟩ = some (.int .i64 44) := by rw [← HNX.out]; exact (KAA.out _ yZ).next
  clear hS
  generalize W.drew = Z at *
  go_upto_region 8 with fail
  refine wp_region_held_drew (S := fun V => Below W.heap.size W V) (by kernel_rfl) yZ.drew (fun hS => ?_)
  refine hpx (i := 0) (oi := ⟨some 35, _, _, _, _, _⟩) rfl (v := ?_) (fun w hSw => ?_) hS (fun hS => ?_)
  rotate_left
  · go_simp; try with_reducible rfl
  try go_frame
  refine hpx (i := 1) (oi := ⟨some 36, _, _, _, _, _⟩) rfl (fun w hSw => run_load_six rfl rfl (KS.out w hSw) h6.1) hS (fun hS => ?_)
  try go_frame
  refine hpx (i := 2) (oi := ⟨some 37, _, _, _, _, _⟩) rfl (v := ?_) (fun w hSw => ?_) hS (fun hS => ?_)
  rotate_left
  · go_simp; try with_reducible rfl
  try go_frame
  refine hpx (i := 3) (oi := ⟨some 38, _, _, _, _, _⟩) rfl (v := ?_) (fun w hSw => ?_) hS (fun hS => ?_)
  rotate_left
  · go_simp; try with_reducible rfl
  try go_frame
  refine hpx (i := 4) (oi := ⟨some 39, _, _, _, _, _⟩) rfl (v := ?_) (fun w hSw => ?_) hS (fun hS => ?_)
  rotate_left
  · go_simp; try with_reducible rfl
  try go_frame
  refine hpx (i := 5) (oi := ⟨some 40, _, _, _, _, _⟩) rfl (v := ?_) (fun w hSw => ?_) hS (fun hS => ?_)
  rotate_left
  · go_simp; try with_reducible rfl
  try go_frame
  refine hpx (i := 6) (oi := ⟨some 41, _, _, _, _, _⟩) rfl (fun w hSw => run_load_six rfl rfl (KT.out w hSw) aft_len) hS (fun hS => ?_)
  try go_frame
  refine hpx (i := 7) (oi := ⟨some 42, _, _, _, _, _⟩) rfl (v := .bool false) (fun w hSw => by go_simp) hS (fun hS => ?_)
  try go_frame
  refine hpx (i := 8) (oi := ⟨some 34, _, _, _, _, _⟩) rfl (v := ?_) (fun w hSw => ?_) hS (fun hS => ?_)
  rotate_left
  · go_simp; try with_reducible rfl
  try go_frame
  refine wpAnyH_done (by kernel_rfl) ?_ _
  have yX : Below W.heap.size W Z.drew := yZ.drew
  have kn : Z.drew.cell? ⟨g, 2, none⟩ = some (.int .i64 44) := by rw [← HNX.out]; exact (KAA.out _ yX).next
  have at8 := KAA.out _ yX
  clear hS yZ
  generalize Z.drew = X at *
  have HFX := Lib.hid (HF1.out.below yX)
  have gX := (gW.below yX).more yX.size
  have bX := b1.trans (yX.mono b1.size)
  go_wp2_with (first
    | ((with_reducible show wpList _ _ _ (Oper.mk _ (Op.load 38 _) _ _ _ _ :: _) _ _); refine wpList_val rfl (run_load_v6 rfl rfl at8 (v6l_len h6.1 h6.2)) ?_)
    | (go_at_call 73; refine (bpart_last HFX.out HN.out p P1 p1 gX HFQ.out q HQ.out HR.out).mono ?_; rintro e w9 ⟨v9, l9, he, r9, q9, k9, S9, f9⟩; obtain rfl := he.out; clear he))
  refine bodyPost_ret (results_tmp2 rfl _ _ _) rfl ?_
  exact ⟨_, l9, Lib.hid rfl, r9.base bX.size, q9, nj_trans bX k9, _, f9⟩
set_option maxRecDepth 100000 in
set_option maxHeartbeats 4000000 in
theorem bdown_whole (h : Bf4 B0 w x t bm k m 0 id N S T L) (p : P6) (A : Option Addr) (c : Nat) (hA : Arg w w.heap.size A c (bld6 p)) (hg : FromA p) (hnx : p.next = 4) (q : P4) (hd : p.dat = bld4 q) (hq : Sent q) :
    Calls Tryz.prog 40 #[.pointer (some ⟨x, 0, none⟩), .slice A (bld6 p).length c] w fun e w' => ∃ v l, Hid (e = .returned (.tuple #[v, .int .i64 0])) ∧ RowY w' w.heap.size v l ∧ Hid (l.map (·.b) = [bld4 q]) ∧ Kept (NJ B0 w) w w' ∧ ∃ S', Bf4 B0 w' x t bm k m 0 id (N + 1) S' T L := by
  have HQ := Lib.hid hq
  have HDD := Lib.hid hd
  clear hq hd
  have hpl := bld6_len p hg.h6.1 hg.h6.2
  have hcl := (chk6_iff.1 hg.chk).2
  have HBL : Hid ((bld6 p).length ≤ 1000000) := Lib.hid (by omega)
  have HPB := Lib.hid (prs6_bld hg.h6.1 hg.h6.2 hg.chk).1
  have HBB := Lib.hid (prs6_bld hg.h6.1 hg.h6.2 hg.chk).2
  have HG := Lib.hid hg
  have HA := Lib.hid hA
  have HF := Lib.hid h
  have HNX := Lib.hid hnx
  have h6 := hg.h6
  have eD : ∀ w, (Op.equalIn 10000 25 (.agg (cel p.dst)) (.agg (cel ownQ))).run Tryz.prog w = .ok true w := fun w => six_eqT hg.h6.2 rfl hg.dst w
  have eS : ∀ w, (Op.equalIn 10000 25 (.agg (cel p.src)) (.agg (cel aftQ))).run Tryz.prog w = .ok true w := fun w => six_eqT hg.h6.1 rfl hg.src w
  clear h hA hg hpl hcl hnx
  go_enter Tryz.func40, Tryz.ntmps40
  go_upto_region 2 with (first
    | (go_at_call 11; refine (c6parse (bld6 p) A c w w.heap.size HA.out (Nat.le_refl _) HBL.out).mono ?_; rintro e w1 ⟨P1, p1, rfl, m1⟩; rw [HPB.out] at m1; rw [HPB.out, HBB.out])
    | ((with_reducible show wpList _ _ _ (Oper.mk _ (Op.store 38 _ _) _ _ _ _ :: _) _ _); refine v6_store_new (cs := v6a p P1 p1) rfl rfl rfl (by rw [v6a_szR _ _ _ h6.1 h6.2]) (v6a_one _ _ _) ?_))
  obtain ⟨_, _, e1, g1, _, x1⟩ := made_shape m1
  cases e1
  have kz := World.alloc_heap_new w1 (.cells (v6a p P1 p1) 38)
  have a1 : Below w1.heap.size w1 (w1.alloc (.cells (v6a p P1 p1) 38)) := (Below.refl _ w1).alloc (Nat.le_refl _) _
  have b1 : Below w.heap.size w (w1.alloc (.cells (v6a p P1 p1) 38)) := x1.trans (a1.mono x1.size)
  have gW := (g1.below a1).more a1.size
  clear g1
  have zz : w.heap.size ≤ w1.heap.size := x1.size
  clear m1 x1 a1
  generalize w1.alloc (.cells (v6a p P1 p1) 38) = W at *
  generalize w1.heap.size = g at *
  have zg := heap_lt kz
  have HF1 := Lib.hid (HF.out.below b1)
  have KA : ∀ V, Below W.heap.size W V → At6 V g p P1 p1 := fun V hV => range_hpR ((hV.block g zg).trans kz)
  have KD : Hid (∀ V, Below W.heap.size W V → V.rangeAt g 20 (row p.dst)) := Lib.hid (fun V hV => (KA V hV).dst h6.1)
  have KS : Hid (∀ V, Below W.heap.size W V → V.rangeAt g 4 (row p.src)) := Lib.hid (fun V hV => (KA V hV).src)
  have KO : Hid (∀ V, Below W.heap.size W V → V.rangeAt x 0 (row ownQ)) := Lib.hid (fun V hV => st_own (HF1.out.below hV).rng)
  have KT : Hid (∀ V, Below W.heap.size W V → V.rangeAt x 16 (row aftQ)) := Lib.hid (fun V hV => st_aft (HF1.out.below hV).rng)
  have KAA := Lib.hid KA
  clear KA kz
  go_upto_region 4 with fail
  refine wp_region_held_drew (S := fun V => Below W.heap.size W V) (by kernel_rfl) (Below.refl _ W).drew (fun hS => ?_)
  refine hpx (i := 0) (oi := ⟨some 17, _, _, _, _, _⟩) rfl (v := ?_) (fun w hSw => ?_) hS (fun hS => ?_)
  rotate_left
  · go_simp; try with_reducible rfl
  try go_frame
  refine hpx (i := 1) (oi := ⟨some 18, _, _, _, _, _⟩) rfl (fun w hSw => run_load_six rfl rfl (KD.out w hSw) h6.2) hS (fun hS => ?_)
  try go_frame
  refine hpx (i := 2) (oi := ⟨some 19, _, _, _, _, _⟩) rfl (v := ?_) (fun w hSw => ?_) hS (fun hS => ?_)
  rotate_left
  · go_simp; try with_reducible rfl
  try go_frame
  refine hpx (i := 3) (oi := ⟨some 20, _, _, _, _, _⟩) rfl (v := ?_) (fun w hSw => ?_) hS (fun hS => ?_)
  rotate_left
  · go_simp; try with_reducible rfl
  try go_frame
  refine hpx (i := 4) (oi := ⟨some 21, _, _, _, _, _⟩) rfl (v := ?_) (fun w hSw => ?_) hS (fun hS => ?_)
  rotate_left
  · go_simp; try with_reducible rfl
  try go_frame
  refine hpx (i := 5) (oi := ⟨some 22, _, _, _, _, _⟩) rfl (v := ?_) (fun w hSw => ?_) hS (fun hS => ?_)
  rotate_left
  · go_simp; try with_reducible rfl
  try go_frame
  refine hpx (i := 6) (oi := ⟨some 23, _, _, _, _, _⟩) rfl (fun w hSw => run_load_six rfl rfl (KO.out w hSw) own_len) hS (fun hS => ?_)
  try go_frame
  refine hpx (i := 7) (oi := ⟨some 24, _, _, _, _, _⟩) rfl (v := .bool false) (fun w hSw => by go_simp) hS (fun hS => ?_)
  try go_frame
  refine hpx (i := 8) (oi := ⟨some 16, _, _, _, _, _⟩) rfl (v := ?_) (fun w hSw => ?_) hS (fun hS => ?_)
  rotate_left
  · go_simp; try with_reducible rfl
  try go_frame
  refine wpAnyH_done (by kernel_rfl) ?_ _
  have yZ : Below W.heap.size W W.drew := (Below.refl _ W).drew
  have kn : W.drew.cell? ⟨g, 2, none⟩ = some (.int .i64 4) := by rw [← HNX.out]; exact (KAA.out _ yZ).next
  clear hS
  generalize W.drew = Z at *
  go_upto_region 8 with fail
  refine wp_region_held_drew (S := fun V => Below W.heap.size W V) (by kernel_rfl) yZ.drew (fun hS => ?_)
  refine hpx (i := 0) (oi := ⟨some 35, _, _, _, _, _⟩) rfl (v := ?_) (fun w hSw => ?_) hS (fun hS => ?_)
  rotate_left
  · go_simp; try with_reducible rfl
  try go_frame
  refine hpx (i := 1) (oi := ⟨some 36, _, _, _, _, _⟩) rfl (fun w hSw => run_load_six rfl rfl (KS.out w hSw) h6.1) hS (fun hS => ?_)
  try go_frame
  refine hpx (i := 2) (oi := ⟨some 37, _, _, _, _, _⟩) rfl (v := ?_) (fun w hSw => ?_) hS (fun hS => ?_)
  rotate_left
  · go_simp; try with_reducible rfl
  try go_frame
  refine hpx (i := 3) (oi := ⟨some 38, _, _, _, _, _⟩) rfl (v := ?_) (fun w hSw => ?_) hS (fun hS => ?_)
  rotate_left
  · go_simp; try with_reducible rfl
  try go_frame
  refine hpx (i := 4) (oi := ⟨some 39, _, _, _, _, _⟩) rfl (v := ?_) (fun w hSw => ?_) hS (fun hS => ?_)
  rotate_left
  · go_simp; try with_reducible rfl
  try go_frame
  refine hpx (i := 5) (oi := ⟨some 40, _, _, _, _, _⟩) rfl (v := ?_) (fun w hSw => ?_) hS (fun hS => ?_)
  rotate_left
  · go_simp; try with_reducible rfl
  try go_frame
  refine hpx (i := 6) (oi := ⟨some 41, _, _, _, _, _⟩) rfl (fun w hSw => run_load_six rfl rfl (KT.out w hSw) aft_len) hS (fun hS => ?_)
  try go_frame
  refine hpx (i := 7) (oi := ⟨some 42, _, _, _, _, _⟩) rfl (v := .bool false) (fun w hSw => by go_simp) hS (fun hS => ?_)
  try go_frame
  refine hpx (i := 8) (oi := ⟨some 34, _, _, _, _, _⟩) rfl (v := ?_) (fun w hSw => ?_) hS (fun hS => ?_)
  rotate_left
  · go_simp; try with_reducible rfl
  try go_frame
  refine wpAnyH_done (by kernel_rfl) ?_ _
  have yX : Below W.heap.size W Z.drew := yZ.drew
  have kn : Z.drew.cell? ⟨g, 2, none⟩ = some (.int .i64 4) := by rw [← HNX.out]; exact (KAA.out _ yX).next
  have at8 := KAA.out _ yX
  clear hS yZ
  generalize Z.drew = X at *
  have HFX := Lib.hid (HF1.out.below yX)
  have gX := (gW.below yX).more yX.size
  have bX := b1.trans (yX.mono b1.size)
  go_wp2_with (first
    | ((with_reducible show wpList _ _ _ (Oper.mk _ (Op.load 38 _) _ _ _ _ :: _) _ _); refine wpList_val rfl (run_load_v6 rfl rfl at8 (v6l_len h6.1 h6.2)) ?_)
    | (go_at_call 73; refine (bpart_whole HFX.out p P1 p1 gX h6 HNX.out q HDD.out HQ.out).mono ?_; rintro e w9 ⟨v9, l9, he, r9, q9, k9, S9, f9⟩; obtain rfl := he.out; clear he))
  refine bodyPost_ret (results_tmp2 rfl _ _ _) rfl ?_
  exact ⟨_, l9, Lib.hid rfl, r9.base bX.size, q9, nj_trans bX k9, _, f9⟩
def KT (B0 x k : Nat) (w w' : World) : Prop := Kept (fun i => i = x ∨ i = k ∨ NJ B0 w i) w w'
theorem Bf4.ktO (h : Bf4 B0 w x t bm k m now id N S T L) (kp : KT B0 x k w w') {base e sz n : Nat} {v : Value} {xs : List Value} (ho : w.ownsRow base e sz v n xs) (he : ¬ T32 e) (hj : ¬ TJ e) : w'.ownsRow base e sz v n xs := by
  refine own_keptA ho kp (T := fun ty => T32 ty ∨ TJ ty) (fun j hjj cs ty fr hg => ?_) (fun e => e.elim he hj)
  rcases hjj with rfl | rfl | hn
  · exact .inl (away32 h.obj (.inl rfl) _ rfl cs ty fr hg)
  · exact .inl (away32 h.cn.obj (.inr rfl) _ rfl cs ty fr hg)
  · exact .inr (hn.2 cs ty fr hg)
theorem KT.below {B : Nat} (h : KT B0 x k w w') (hx : B ≤ x) (hk : B ≤ k) (h0 : B ≤ B0) (hB : B ≤ w.heap.size) : Below B w w' :=
  ⟨h.os, h.tape, h.output, h.size, fun i hi => h.block i (by omega) (fun e => by
    rcases e with e | e | e
    · omega
    · omega
    · have := e.1; omega)⟩
set_option maxRecDepth 100000 in
set_option maxHeartbeats 4000000 in
theorem btun_more (h : Bf4 B0 w x t bm k m 0 id N S T L) (hN : N + 1 ≤ 100000) (p : P6) (A : Option Addr) (c : Nat) (hA : Arg w w.heap.size A c (bld6 p)) (hf : FragQ p) (hr : addJ 4 10000 T keyK (pcOf p) [4] 0 = (T', [], [], false, 0)) :
    Calls Tryz.prog 17 #[.pointer (some ⟨x, 0, none⟩), .slice A (bld6 p).length c] w fun e w' => Hid (e = .returned (.tuple #[.slice none 0 0, .slice none 0 0, .int .i64 0])) ∧ KT B0 x k w w' ∧ ∃ S', Bf4 B0 w' x t bm k m 0 id (N + 1 + 1) S' T' L := by
  have HF := Lib.hid h
  have HN := Lib.hid hN
  have HU := Lib.hid (bdown_more h hN p A c hA hf hr)
  clear h hN hA hf hr
  go_enter Tryz.func17, Tryz.ntmps17
  go_upto_region 4 with (first
    | (go_at_call 27; refine (bmade HF.out).mono ?_; rintro e w1 ⟨rfl, rfl⟩)
    | (go_at_call 40; refine HU.out.mono ?_; rintro e w2 ⟨he, k2, S2, f2⟩; obtain rfl := he.out; clear he))
  have HF2 := Lib.hid f2
  have c38 := f2.cell 38 _ rfl
  clear f2
  go_wp2_with (go_at_call 29; refine (cnadd HF2.out.cn HF2.out.bd (by have := HN.out; omega) 0).mono ?_; rintro e w3 ⟨rfl, c3, o3⟩)
  refine bodyPost_ret (results_tmp3 rfl _ _ _) rfl ?_
  have hu : upC L 0 = L := rfl
  have f3 := HF2.out.count 0 c3 o3
  rw [hu] at f3
  have kk : KT B0 x k w w3 := (k2.mono (fun i _ e => (.inr (.inr e) : i = x ∨ i = k ∨ NJ B0 w i))).trans (o3.kept.mono (fun i _ e => (.inr (.inl e) : i = x ∨ i = k ∨ NJ B0 w i))) (fun _ _ h => h)
  exact ⟨Lib.hid rfl, kk, _, f3⟩
set_option maxRecDepth 100000 in
set_option maxHeartbeats 4000000 in
theorem btun_last (h : Bf4 B0 w x t bm k m 0 id N S T L) (hN : N + 1 ≤ 100000) (p : P6) (A : Option Addr) (c : Nat) (hA : Arg w w.heap.size A c (bld6 p)) (hf : FragQ p) (q : P4) (hq : Sent q) (hr : addJ 4 10000 T keyK (pcOf p) [4] 0 = (T', [4], bld4 q, true, 0)) :
    Calls Tryz.prog 17 #[.pointer (some ⟨x, 0, none⟩), .slice A (bld6 p).length c] w fun e w' => ∃ v l, Hid (e = .returned (.tuple #[.slice none 0 0, v, .int .i64 0])) ∧ RowY w' w.heap.size v l ∧ Hid (l.map (·.b) = [bld4 q]) ∧ KT B0 x k w w' ∧ ∃ S', Bf4 B0 w' x t bm k m 0 id (N + 1 + 1) S' T' L := by
  have HF := Lib.hid h
  have HN := Lib.hid hN
  have HU := Lib.hid (bdown_last h hN p A c hA hf q hq hr)
  clear h hN hA hf hq hr
  go_enter Tryz.func17, Tryz.ntmps17
  go_upto_region 4 with (first
    | (go_at_call 27; refine (bmade HF.out).mono ?_; rintro e w1 ⟨rfl, rfl⟩)
    | (go_at_call 40; refine HU.out.mono ?_; rintro e w2 ⟨v2, l2, he, r2, q2, k2, S2, f2⟩; obtain rfl := he.out; clear he))
  have HR2 := Lib.hid r2
  clear r2
  have HF2 := Lib.hid f2
  have c38 := f2.cell 38 _ rfl
  clear f2
  go_wp2_with (go_at_call 29; refine (cnadd HF2.out.cn HF2.out.bd (by have := HN.out; omega) 0).mono ?_; rintro e w3 ⟨rfl, c3, o3⟩)
  refine bodyPost_ret (results_tmp3 rfl _ _ _) rfl ?_
  have hu : upC L 0 = L := rfl
  have f3 := HF2.out.count 0 c3 o3
  rw [hu] at f3
  have kk : KT B0 x k w w3 := (k2.mono (fun i _ e => (.inr (.inr e) : i = x ∨ i = k ∨ NJ B0 w i))).trans (o3.kept.mono (fun i _ e => (.inr (.inl e) : i = x ∨ i = k ∨ NJ B0 w i))) (fun _ _ h => h)
  exact ⟨_, l2, Lib.hid rfl, HR2.out.one HF2.out.cn.obj (.inr rfl) o3.kept, q2, kk, _, f3⟩
set_option maxRecDepth 100000 in
set_option maxHeartbeats 4000000 in
theorem btun_whole (h : Bf4 B0 w x t bm k m 0 id N S T L) (hN : N + 1 ≤ 100000) (p : P6) (A : Option Addr) (c : Nat) (hA : Arg w w.heap.size A c (bld6 p)) (hg : FromA p) (hnx : p.next = 4) (q : P4) (hd : p.dat = bld4 q) (hq : Sent q) :
    Calls Tryz.prog 17 #[.pointer (some ⟨x, 0, none⟩), .slice A (bld6 p).length c] w fun e w' => ∃ v l, Hid (e = .returned (.tuple #[.slice none 0 0, v, .int .i64 0])) ∧ RowY w' w.heap.size v l ∧ Hid (l.map (·.b) = [bld4 q]) ∧ KT B0 x k w w' ∧ ∃ S', Bf4 B0 w' x t bm k m 0 id (N + 1 + 1) S' T L := by
  have HF := Lib.hid h
  have HN := Lib.hid hN
  have HU := Lib.hid (bdown_whole h p A c hA hg hnx q hd hq)
  clear h hN hA hg hnx hd hq
  go_enter Tryz.func17, Tryz.ntmps17
  go_upto_region 4 with (first
    | (go_at_call 27; refine (bmade HF.out).mono ?_; rintro e w1 ⟨rfl, rfl⟩)
    | (go_at_call 40; refine HU.out.mono ?_; rintro e w2 ⟨v2, l2, he, r2, q2, k2, S2, f2⟩; obtain rfl := he.out; clear he))
  have HR2 := Lib.hid r2
  clear r2
  have HF2 := Lib.hid f2
  have c38 := f2.cell 38 _ rfl
  clear f2
  go_wp2_with (go_at_call 29; refine (cnadd HF2.out.cn HF2.out.bd (by have := HN.out; omega) 0).mono ?_; rintro e w3 ⟨rfl, c3, o3⟩)
  refine bodyPost_ret (results_tmp3 rfl _ _ _) rfl ?_
  have hu : upC L 0 = L := rfl
  have f3 := HF2.out.count 0 c3 o3
  rw [hu] at f3
  have kk : KT B0 x k w w3 := (k2.mono (fun i _ e => (.inr (.inr e) : i = x ∨ i = k ∨ NJ B0 w i))).trans (o3.kept.mono (fun i _ e => (.inr (.inl e) : i = x ∨ i = k ∨ NJ B0 w i))) (fun _ _ h => h)
  exact ⟨_, l2, Lib.hid rfl, HR2.out.one HF2.out.cn.obj (.inr rfl) o3.kept, q2, kk, _, f3⟩
end
end Go.Proofs.YtpoigngpdcmipaaGreat
namespace Go.Proofs.YtpoigngpdcmipaaGreat
open Go.RowKit Go.Shelf
def splL4 : List Value → Nat → List Value → List Value
  | l, _, [] => l
  | l, o, v :: vs => splL4 (l.set o v) (o + 1) vs
theorem splL_len4 : ∀ (vs l : List Value) (o : Nat), (splL4 l o vs).length = l.length
  | [], _, _ => rfl
  | v :: vs, l, o => by rw [splL4, splL_len4 vs]; simp
theorem splL_get4 : ∀ (vs l : List Value) (o j : Nat), o + vs.length ≤ l.length → (splL4 l o vs)[j]? = if o ≤ j ∧ j < o + vs.length then vs[j - o]? else l[j]?
  | [], l, o, j, _ => by rw [splL4, if_neg (by simp)]
  | v :: vs, l, o, j, h => by
    rw [List.length_cons] at h
    rw [splL4, splL_get4 vs (l.set o v) (o + 1) j (by rw [List.length_set]; omega), List.length_cons]
    by_cases h1 : o + 1 ≤ j ∧ j < o + 1 + vs.length
    · rw [if_pos h1, if_pos (by omega), show j - o = (j - (o + 1)) + 1 from by omega, List.getElem?_cons_succ]
    · rw [if_neg h1]
      by_cases h2 : j = o
      · subst h2
        rw [if_pos (by omega), Nat.sub_self, List.getElem?_cons_zero, List.getElem?_set, if_pos rfl, if_pos (by omega)]
      · rw [if_neg (by omega), List.getElem?_set, if_neg (by omega)]
theorem splL_take4 : ∀ (vs l : List Value) (o m : Nat), (splL4 l o vs).take m = splL4 (l.take m) o vs
  | [], _, _, _ => rfl
  | v :: vs, l, o, m => by rw [splL4, splL4, splL_take4 vs, List.take_set]
theorem heap_setCellsL4 {T : TypeId} (b : Nat) : ∀ (vs : List Value) (o : Nat) (w : World) (cur : Array Value), w.heap[b]? = some (.cells cur T (0, 0)) → (w.setCells b o vs).heap[b]? = some (.cells (splL4 cur.toList o vs).toArray T (0, 0))
  | [], _, _, cur, h => by rw [splL4, Array.toArray_toList]; exact h
  | v :: vs, o, w, cur, h => by
    have h1 := heap_setCellsL4 b vs (o + 1) (w.setCell ⟨b, o, none⟩ v) _ (heap_setCell_same w b o cur T v h)
    rw [splL4]
    rw [Array.toList_setIfInBounds] at h1
    exact h1
section
variable {α : Type} {cl : α → List Value} {sz : Nat}
theorem flat_set4 (hl : ∀ x, (cl x).length = sz) (hz : 0 < sz) (S : List α) (i : Nat) (x : α) (hi : i < S.length) : splL4 (S.flatMap cl) (i * sz) (cl x) = (S.set i x).flatMap cl := by
  have e1 := flat_len (cl := cl) S (fun y _ => hl y)
  have e2 := flat_len (cl := cl) (S.set i x) (fun y _ => hl y)
  rw [List.length_set] at e2
  have hle : i * sz + sz ≤ S.length * sz := by
    have := Nat.mul_le_mul_right sz (show i + 1 ≤ S.length from hi)
    rwa [Nat.add_mul, Nat.one_mul] at this
  apply List.ext_getElem?
  intro j
  rw [splL_get4 _ _ _ _ (by rw [hl, e1]; exact hle), hl]
  by_cases hj : j < S.length * sz
  · have ha : j / sz < S.length := (Nat.div_lt_iff_lt_mul hz).2 hj
    have hr : j % sz < sz := Nat.mod_lt _ hz
    have hjj : j / sz * sz + j % sz = j := by rw [Nat.mul_comm]; exact Nat.div_add_mod j sz
    obtain ⟨y, hy⟩ : ∃ y, (S.set i x)[j / sz]? = some y := ⟨_, List.getElem?_eq_getElem (by rw [List.length_set]; exact ha)⟩
    have g1 := flat_at (cl := cl) (sz := sz) (S.set i x) (fun z _ => hl z) (j / sz) y hy (j % sz) _ (List.getElem?_eq_getElem (by rw [hl]; exact hr))
    rw [hjj] at g1
    rw [g1]
    rw [List.getElem?_set] at hy
    by_cases hi2 : i = j / sz
    · rw [if_pos hi2, if_pos (by omega)] at hy
      obtain rfl := Option.some.inj hy
      rw [hi2, if_pos (by omega), show j - j / sz * sz = j % sz from by omega]
      exact List.getElem?_eq_getElem _
    · rw [if_neg hi2] at hy
      have g2 := flat_at (cl := cl) (sz := sz) S (fun z _ => hl z) (j / sz) y hy (j % sz) _ (List.getElem?_eq_getElem (by rw [hl]; exact hr))
      rw [hjj] at g2
      rw [if_neg ?_, g2]
      rintro ⟨h1, h2⟩
      apply hi2
      have h3 : i * sz ≤ j := h1
      have h4 : j < (i + 1) * sz := by rw [Nat.add_mul, Nat.one_mul]; exact h2
      have h5 : i ≤ j / sz := (Nat.le_div_iff_mul_le hz).2 h3
      have h6 : j / sz < i + 1 := (Nat.div_lt_iff_lt_mul hz).2 h4
      omega
  · rw [if_neg (by omega), List.getElem?_eq_none (by rw [e1]; omega), List.getElem?_eq_none (by rw [e2]; omega)]
theorem own_setS4 {w : World} {base e g n c : Nat} {S : List α} (hl : ∀ x, (cl x).length = sz) (hz : 0 < sz) (h : w.ownsRow base e sz (.slice (some ⟨g, 0, none⟩) n c) n (S.flatMap cl)) (hn : n = S.length) {i : Nat} (hi : i < S.length) (x : α) :
    (w.setCells g (i * sz) (cl x)).ownsRow base e sz (.slice (some ⟨g, 0, none⟩) n c) n ((S.set i x).flatMap cl) ∧ w.there g (i * sz) sz ∧ base ≤ g ∧ ∃ cur, w.heap[g]? = some (.cells cur e (0, 0)) := by
  rcases h.2 with ⟨h0, _⟩ | ⟨k, cap, cur, hv, hb, hh, hle, hm, hs, ht⟩
  · cases h0
  · cases hv
    have hlen := flat_len (cl := cl) (S.set i x) (fun y _ => hl y)
    rw [List.length_set] at hlen
    have hnc : n * sz ≤ c * sz := Nat.mul_le_mul_right sz hle
    have hii : i * sz + sz ≤ n * sz := by
      have := Nat.mul_le_mul_right sz (show i + 1 ≤ n by omega)
      rwa [Nat.add_mul, Nat.one_mul] at this
    refine ⟨⟨by rw [hlen, hn], .inr ⟨g, c, _, rfl, hb, heap_setCellsL4 g _ _ w cur hh, hle, hm, by rw [List.size_toArray, splL_len4, Array.length_toList, hs], ?_⟩⟩, fun j hj => ⟨?_, heap_frozen hh _⟩, hb, ⟨cur, hh⟩⟩
    · show (splL4 cur.toList (i * sz) (cl x)).take (n * sz) = _
      rw [splL_take4, ht, flat_set4 hl hz S i x hi]
    · rw [cell_of_row _ _ _ _ _ _ hh, Array.getElem?_eq_getElem (by rw [hs]; omega)]; rfl
end
theorem kept_setCells4 (g : Nat) : ∀ (vs : List Value) (o : Nat) (w : World), Kept (fun i => i = g) w (w.setCells g o vs)
  | [], _, w => Kept.of_below (Below.refl _ w)
  | v :: vs, o, w => (Kept.setCell w g o v).trans (kept_setCells4 g vs (o + 1) (w.setCell ⟨g, o, none⟩ v)) (fun _ _ h => h)
theorem kept_below4 {w w' : World} {g B : Nat} (h : Kept (fun i => i = g) w w') (hg : B ≤ g) (hB : B ≤ w.heap.size) : Below B w w' :=
  ⟨h.os, h.tape, h.output, h.size, fun i hi => h.block i (by omega) (fun e => by omega)⟩
section
variable {V W : World} {base : Nat} {l : List X6}
theorem Row6.set {g n c : Nat} (h : Row6 V base (.slice (some ⟨g, 0, none⟩) n c) l) (hn : n = l.length) {i : Nat} (hi : i < l.length) {y : X6} (hy : Own6 V base y) :
    Row6 (V.setCells g (i * 37) (cl6 y)) base (.slice (some ⟨g, 0, none⟩) n c) (l.set i y) ∧ V.there g (i * 37) 37 ∧ base ≤ g ∧ ∀ z, Own6 V base z → Own6 (V.setCells g (i * 37) (cl6 y)) base z := by
  subst hn
  obtain ⟨h1, h2, h3, cur, h4⟩ := own_setS4 (cl := cl6) (sz := 37) (fun x => cl6_len x.h6) (by decide) h.1 rfl hi y
  have hk : ∀ z, Own6 V base z → Own6 (V.setCells g (i * 37) (cl6 y)) base z := fun z hz => ⟨hz.1, own_keptA hz.2 (kept_setCells4 g _ _ V) (T := fun ty => ty = 38) (fun j hj cs ty fr hg => by
    subst hj
    rw [h4] at hg
    injection hg with hg
    injection hg with _ e2 _
    exact e2.symm) (nat_ne (by kernel_rfl))⟩
  refine ⟨⟨by rw [List.length_set]; exact h1, fun z hz => ?_⟩, h2, h3, hk⟩
  rcases List.mem_or_eq_of_mem_set hz with hz | rfl
  · exact hk z (h.2 z hz)
  · exact hk z hy
theorem Row6.at_ {g n c : Nat} (h : Row6 V base (.slice (some ⟨g, 0, none⟩) n c) l) {i : Nat} {y : X6} (hy : l[i]? = some y) : V.rangeAt g (i * 37) (cl6 y) := by
  obtain ⟨b, o, c', e, hr, _⟩ := h.parts hy
  injection e with e1 _ _
  injection e1 with e1
  injection e1 with e2 e3 _
  subst e2
  subst e3
  rwa [Nat.zero_add] at hr
theorem set_perm4 {α : Type} {x y : α} : ∀ (l : List α) (k : Nat), l[k]? = some y → (y :: l.set k x).Perm (x :: l)
  | [], k, h => by simp at h
  | b :: t, 0, h => by
    simp at h
    subst h
    exact List.Perm.swap _ _ _
  | b :: t, k + 1, h => by
    have ih := set_perm4 (x := x) t k (by simpa using h)
    exact ((List.Perm.swap _ _ _).trans (ih.cons b)).trans (List.Perm.swap _ _ _)
theorem swap_perm4 {α : Type} {x y : α} : ∀ (l : List α) (i k : Nat), i < k → l[i]? = some x → l[k]? = some y → ((l.set i y).set k x).Perm l
  | [], i, k, _, h, _ => by simp at h
  | b :: t, 0, 0, h, _, _ => by omega
  | b :: t, i + 1, 0, h, _, _ => by omega
  | b :: t, 0, k + 1, _, hx, hy => by
    simp at hx
    subst hx
    exact set_perm4 t k (by simpa using hy)
  | b :: t, i + 1, k + 1, h, hx, hy => (swap_perm4 t i k (by omega) (by simpa using hx) (by simpa using hy)).cons b
theorem swap_perm {α : Type} {x y : α} {l : List α} {i k : Nat} (h : i ≤ k) (hx : l[i]? = some x) (hy : l[k]? = some y) : ((l.set i y).set k x).Perm l := by
  by_cases hik : i = k
  · subst hik
    rw [hx] at hy
    obtain rfl := Option.some.inj hy
    rw [List.set_set]
    obtain ⟨h1, h2⟩ := List.getElem?_eq_some_iff.1 hx
    rw [← h2, List.set_getElem_self]
  · exact swap_perm4 l i k (by omega) hx hy
end
theorem Row6.kt {B0 : Nat} {w w' : World} {x t bm k N : Nat} {m now id : Int} {S : List Bu} {T : List Bf} {L : List Int} {base : Nat} {v : Value} {l : List X6} (h : Row6 w base v l) (hf : Bf4 B0 w x t bm k m now id N S T L) (kp : KT B0 x k w w') : Row6 w' base v l :=
  ⟨hf.ktO kp h.1 t32_no.2.2.2.2.2.1 tj32.2.2.1, fun y hy => ⟨(h.2 y hy).1, hf.ktO kp (h.2 y hy).2 t32_no.2.2.2.1 tj32.2.2.2.2.1⟩⟩
theorem byt_bound (b : List UInt8) (j : Nat) : 0 ≤ byt b j ∧ byt b j ≤ 255 := by
  unfold byt
  cases b[j]? with
  | none => exact ⟨by decide, by decide⟩
  | some x => have := x.toNat_lt; exact ⟨by simp, by simp; omega⟩
theorem run_field_aft {o : Oper} {a : Act} {w : World} {x : Operand} (ho : o.op = .field 27 x 1) (hx : a.eval x = stV 1280) : (execOp a.eval o).run Tryz.prog w = .ok (.value (.agg (cel aftQ))) w := by
  have hb : (Instr.field 27 (stV 1280) 1).run Tryz.prog w = .ok (.agg (cel aftQ)) w := by kernel_rfl
  unfold execOp
  simp only [ho, hx, Sem.run_bind, hb]
  rfl
theorem run_field_own {o : Oper} {a : Act} {w : World} {x : Operand} (ho : o.op = .field 27 x 0) (hx : a.eval x = stV 1280) : (execOp a.eval o).run Tryz.prog w = .ok (.value (.agg (cel ownQ))) w := by
  have hb : (Instr.field 27 (stV 1280) 0).run Tryz.prog w = .ok (.agg (cel ownQ)) w := by kernel_rfl
  unfold execOp
  simp only [ho, hx, Sem.run_bind, hb]
  rfl
structure GetOk (q : P4) (Q : P6) : Prop where
  sq : Sent q
  nx : Q.next = 4
  hop : Q.hop = 9
  dat : Q.dat = bld4 q
  from_ : FromA Q
  e : cutE6 Q 77 1280 = 0
  ways : cutL6 Q 77 1280 = [Q] ∨ ((∀ p ∈ cutL6 Q 77 1280, FragQ p) ∧ Chain (bld4 q) 0 ((cutL6 Q 77 1280).map pcOf) ∧ 2 ≤ (cutL6 Q 77 1280).length)
  many : (cutL6 Q 77 1280).length ≤ 4000
theorem get_ok {b : List UInt8} (hb : b.length ≤ 3000) : ∃ q Q, q = dgE 3221225985 167772161 5 6 9 b ∧ Q = (⟨0, 0, 4, 9, aftQ, ownQ, bld4 q⟩ : P6) ∧ GetOk q Q ∧ chkU ⟨5, 6, false, b⟩ = 0 ∧ (bld4 q).length = 28 + b.length := by
  have hq : Sent (dgE 3221225985 167772161 5 6 9 b) := dg_sent (by decide) (by decide) (by decide) (by omega) (by decide)
  have hu := (dg_chkT (s := 0) (d := 0) (t := 0) (b := b) (by decide) (by decide) (by decide) (by omega)).1
  have hl : (bld4 (dgE 3221225985 167772161 5 6 9 b)).length = 28 + b.length := by
    have h1 := hq.bl
    have h2 := (dg_chkT (s := 3221225985) (d := 167772161) (t := 9) (b := b) (by decide) (by decide) (by decide) (by omega)).2.2
    omega
  obtain ⟨q, he⟩ : ∃ q, q = dgE 3221225985 167772161 5 6 9 b := ⟨_, rfl⟩
  rw [← he] at hq hl
  obtain ⟨Q, hQ⟩ : ∃ Q, Q = (⟨0, 0, 4, 9, aftQ, ownQ, bld4 q⟩ : P6) := ⟨_, rfl⟩
  have h6 : ok6 Q := by rw [hQ]; exact ⟨rfl, rfl⟩
  have hQd : Q.dat = bld4 q := by rw [hQ]
  have hQn : Q.next = 4 := by rw [hQ]
  have hQs : Q.src = aftQ := by rw [hQ]
  have hQt : Q.dst = ownQ := by rw [hQ]
  have hQh : Q.hop = 9 := by rw [hQ]
  have hck : chk6 Q = 0 := by
    refine chk6_iff.2 ⟨?_, by rw [hQd, hl]; omega⟩
    rw [hQ]
    exact ⟨(by show (0 : Int) ≤ 0; decide), (by show (0 : Int) ≤ 255; decide), (by show (0 : Int) ≤ 4; decide), (by show (4 : Int) ≤ 255; decide), (by show (0 : Int) ≤ 9; decide), (by show (9 : Int) ≤ 255; decide), (by show (0 : Int) ≤ 0; decide), (by show (0 : Int) < 1048576; decide)⟩
  have hE : cutE6 Q 77 1280 = 0 := cutE6_zero (by decide) (by decide) hck
  have hdl : Q.dat.length = 28 + b.length := by rw [hQd]; exact hl
  have hmany : (cutL6 Q 77 1280).length ≤ 4000 := by
    unfold cutL6
    have := rst6_len Q 77 1280 0
    repeat' split
    all_goals first | (simp; done) | omega
  refine ⟨q, Q, he, hQ, ⟨hq, hQn, hQh, hQd, ⟨h6, hQs, hQt, hck⟩, hE, ?_, hmany⟩, hu, hl⟩
  by_cases hs : size6 Q ≤ 1280
  · left
    rw [cutL6, if_pos hE, if_pos hs]
  · right
    have hln : (cutL6 Q 77 1280).length ≠ 1 := fun h => hs (cut6_one hE h).2
    have hF := cut6_many hE hln
    obtain ⟨hC, _⟩ := cutE6_ok hE
    have hrst : cutL6 Q 77 1280 = rst6 Q 77 1280 0 := by rw [cutL6, if_pos hE, if_neg hs]
    refine ⟨fun p hp => ?_, ?_, by have := hF.ne; omega⟩
    · have hp2 := hp
      rw [hrst] at hp2
      obtain ⟨d, hd⟩ := fg6_mem Q 77 1280 _ _ p hp2
      have hpn : p.next = 44 := by rw [hd]
      have hpa : arg6 p := by
        obtain ⟨a0, a1, _, _, a4, a5, a6, a7⟩ := (chk6_iff.1 hck).1
        rw [hd]
        exact ⟨a0, a1, (by show (0 : Int) ≤ 44; decide), (by show (44 : Int) ≤ 255; decide), a4, a5, a6, a7⟩
      clear hd hp2
      obtain ⟨i, hi', rfl⟩ := List.getElem_of_mem hp
      obtain ⟨g1, g2, g3, g4, g5, g6, g7, g8, g9⟩ := hF.at_ i hi'
      have hsz : (40 : Int) + (((cutL6 Q 77 1280)[i]).dat.length : Int) ≤ 1280 := g2
      have hle := behs_take_le (cutL6 Q 77 1280) i
      rw [hF.all, List.drop_zero] at hle
      refine ⟨⟨by rw [g7, hQs]; rfl, by rw [g8, hQt]; rfl⟩, g7.trans hQs, g8.trans hQt, hpn, g1, g4, g5.trans hQn, ?_, chk6_iff.2 ⟨hpa, by omega⟩, by omega⟩
      rw [g3]
      omega
    · rw [hrst, ← hQd]
      exact rst_chain hC (Q.dat.length + 1) 0 (by omega) (by omega) (by decide) (fun _ => rfl)
end Go.Proofs.YtpoigngpdcmipaaGreat
