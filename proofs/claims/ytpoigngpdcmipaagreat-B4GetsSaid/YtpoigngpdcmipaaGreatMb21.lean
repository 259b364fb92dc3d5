/-
  Contracts and lemmas on which the proofs of this seat stand (several texts in one). Conditions are each theorem's own.
-/
import Derived.Test.YtpoigngpdcmipaaGreatMb20
import Derived.Laws.IdiomStrings
namespace Go.Proofs.YtpoigngpdcmipaaGreat
open Go.RowKit
theorem byt_row (bs : List UInt8) (j : Nat) (hj : j < bs.length) : (bs[j].toNat : Int) = byt bs j := by simp [byt, hj]
theorem run_convB {o : Oper} {a : Act} {w : World} {x : Operand} {A : Option Addr} {n c B : Nat} {bs : List UInt8} (ho : o.op = .convert 22 9 x) (hx : a.eval x = .slice A n c) (hn : n = bs.length) (hA : Arg w B A c bs) (h0 : 0 < bs.length) :
    (execOp a.eval o).run Tryz.prog w = .ok (.value (sq bs)) w := by
  subst hn
  obtain ⟨b, off, rfl, _, hc⟩ := hA.rd h0
  have h := run_convert_bytes_back (P := Tryz.prog) w 22 9 5 ⟨b, off, none⟩ c bs Tryz.underlying22 Tryz.underlying5 Tryz.underlying9 (fun j hj => by rw [add_off, byt_row bs j hj]; exact hc j hj)
  unfold execOp
  simp only [ho, hx, Sem.run_bind, h]
  rfl
def numK : List UInt8 := [0, 0, 0, 77]
def keyK : List UInt8 := [54] ++ (aftQ ++ ownQ ++ numK)
theorem run_add54 {o : Oper} {a : Act} {w : World} {x y : Operand} (ho : o.op = .binOp .add 9 x y 9) (hx : a.eval x = .string ⟨#[54]⟩) (hy : a.eval y = sq (aftQ ++ ownQ ++ numK)) : (execOp a.eval o).run Tryz.prog w = .ok (.value (sq keyK)) w := by
  unfold execOp
  simp only [ho, hx, hy]
  unfold sq
  go_simp
  have e : (⟨#[54]⟩ : ByteArray) = strB [54] := rfl
  rw [e, if_neg (by rw [strB_size]; decide), strB_append]
  rfl
set_option maxRecDepth 100000 in
set_option maxHeartbeats 4000000 in
theorem bkey (p : P6) (A : Option Addr) (c : Nat) (w : World) (hs : p.src = aftQ) (hd : p.dst = ownQ) : Calls Tryz.prog 125 #[.agg (v6a p A c), .int .i64 77] w fun e w' => e = .returned (sq keyK) ∧ Below w.heap.size w w' := by
  have hb0 := (Below.refl _ w).alloc (Nat.le_refl _) (.cells (v6a p A c) 38)
  have k0 := World.alloc_heap_new w (.cells (v6a p A c) 38)
  have at0 : At6 (w.alloc (.cells (v6a p A c) 38)) w.heap.size p A c := range_hpR k0
  have ss := at0.src
  have sd := at0.dst (by rw [hs]; rfl)
  rw [hs] at ss
  rw [hd] at sd
  have zg := heap_lt k0
  clear hs hd at0 k0
  go_enter Tryz.func125, Tryz.ntmps125
  go_upto_region 1 with fail
  generalize w.alloc (.cells (v6a p A c) 38) = W at *
  go_upto_region 2 with fail
  have kn := World.alloc_heap_new W (.cells #[.int .u8 0, .int .u8 0, .int .u8 0, .int .u8 77] 5)
  have a1 : Below W.heap.size W (W.alloc (.cells #[.int .u8 0, .int .u8 0, .int .u8 0, .int .u8 77] 5)) := (Below.refl _ W).alloc (Nat.le_refl _) _
  have hb := hb0.trans (a1.mono hb0.size)
  have ss := range_below ss zg a1
  have sd := range_below sd zg a1
  have zg := Nat.lt_of_lt_of_le zg a1.size
  generalize W.heap.size = kb at *
  generalize W.alloc (.cells #[.int .u8 0, .int .u8 0, .int .u8 0, .int .u8 77] 5) = V at *
  have zk := heap_lt kn
  have KA : Hid (∀ X, Below V.heap.size V X → Arg X V.heap.size (some ⟨w.heap.size, 4, none⟩) 16 aftQ) := Lib.hid (fun X hX => ⟨Rd.of_range (range_below ss zg hX) zg, (by decide), fun e => by cases e⟩)
  have KO : Hid (∀ X, Below V.heap.size V X → Arg X V.heap.size (some ⟨w.heap.size, 20, none⟩) 16 ownQ) := Lib.hid (fun X hX => ⟨Rd.of_range (range_below sd zg hX) zg, (by decide), fun e => by cases e⟩)
  have KN : Hid (∀ X, Below V.heap.size V X → Arg X V.heap.size (some ⟨kb, 0, none⟩) 4 numK) := Lib.hid (fun X hX => ⟨Rd.of_range (range_hpR ((hX.block kb zk).trans kn)) zk, (by decide), fun e => by cases e⟩)
  clear ss sd kn a1 zg zk
  refine wp_region_held_drew (S := fun X => Below V.heap.size V X) (by kernel_rfl) (Below.refl _ V).drew (fun hS => ?_)
  have yZ := hS
  generalize V.drew = Z at *
  refine held_pure (i := 0) (oi := ⟨some 18, _, _, _, _, _⟩) rfl (by kernel_rfl) (by kernel_rfl) (by kernel_rfl) (fun _ _ _ h => h) (by rfl) (v := ?_) (fun w hSw => ?_) hS (fun hS => ?_)
  rotate_left
  · go_simp; try with_reducible rfl
  try go_frame
  refine held_pure (i := 1) (oi := ⟨some 19, _, _, _, _, _⟩) rfl (by kernel_rfl) (by kernel_rfl) (by kernel_rfl) (fun _ _ _ h => h) (by rfl) (fun w hSw => run_slice_six rfl rfl) hS (fun hS => ?_)
  try go_frame
  refine held_pure (i := 2) (oi := ⟨some 20, _, _, _, _, _⟩) rfl (by kernel_rfl) (by kernel_rfl) (by kernel_rfl) (fun _ _ _ h => h) (by rfl) (v := ?_) (fun w hSw => ?_) hS (fun hS => ?_)
  rotate_left
  · go_simp; try with_reducible rfl
  try go_frame
  refine held_pure (i := 3) (oi := ⟨some 21, _, _, _, _, _⟩) rfl (by kernel_rfl) (by kernel_rfl) (by kernel_rfl) (fun _ _ _ h => h) (by rfl) (fun w hSw => run_slice_six rfl rfl) hS (fun hS => ?_)
  try go_frame
  refine held_pure (i := 4) (oi := ⟨some 22, _, _, _, _, _⟩) rfl (by kernel_rfl) (by kernel_rfl) (by kernel_rfl) (fun _ _ _ h => h) (by rfl) (v := ?_) (fun w hSw => ?_) hS (fun hS => ?_)
  rotate_left
  · go_simp; try with_reducible rfl
  try go_frame
  refine wpAnyH_ready (rs := [5]) (by kernel_rfl) (by simp) (AllReadyH.cons (o := ⟨some 23, _, _, _, _, _⟩) rfl (fun K hK => ?_) AllReadyH.nil)
  rw [if_pos (by rfl)]
  go_simp
  have kr := World.alloc_heap_new Z (.cells #[.slice (some ⟨w.heap.size, 4, none⟩) 16 16, .slice (some ⟨w.heap.size, 20, none⟩) 16 16, .slice (some ⟨kb, 0, none⟩) 4 4] 22)
  have a5 : Below Z.heap.size Z (Z.alloc (.cells #[.slice (some ⟨w.heap.size, 4, none⟩) 16 16, .slice (some ⟨w.heap.size, 20, none⟩) 16 16, .slice (some ⟨kb, 0, none⟩) 4 4] 22)) := (Below.refl _ Z).alloc (Nat.le_refl _) _
  have zZ := yZ.size
  have yZ := yZ.alloc yZ.size (.cells #[.slice (some ⟨w.heap.size, 4, none⟩) 16 16, .slice (some ⟨w.heap.size, 20, none⟩) 16 16, .slice (some ⟨kb, 0, none⟩) 4 4] 22)
  show K _ (Z.alloc (.cells #[.slice (some ⟨w.heap.size, 4, none⟩) 16 16, .slice (some ⟨w.heap.size, 20, none⟩) 16 16, .slice (some ⟨kb, 0, none⟩) 4 4] 22))
  refine hK.out _ _ yZ (fun hS => ?_)
  clear hK K
  generalize Z.heap.size = gB at *
  generalize Z.alloc (.cells #[.slice (some ⟨w.heap.size, 4, none⟩) 16 16, .slice (some ⟨w.heap.size, 20, none⟩) 16 16, .slice (some ⟨kb, 0, none⟩) 4 4] 22) = Z at *
  have zr := heap_lt kr
  try go_frame
  refine wpAnyH_ready (rs := [6]) (by kernel_rfl) (by simp) (AllReadyH.cons (o := ⟨some 24, _, _, _, _, _⟩) rfl (fun K hK => ?_) AllReadyH.nil)
  rw [if_pos (by rfl)]
  go_simp
  refine (concat_three (some ⟨gB, 0, none⟩) aftQ ownQ numK 3 Z.heap.size (aftQ ++ ownQ ++ numK) (Lib.hid rfl) Z (Rd2.three rfl rfl rfl kr zr ((KA.out _ yZ).more yZ.size) ((KO.out _ yZ).more yZ.size) ((KN.out _ yZ).more yZ.size)) (Nat.le_refl _) (by decide) (by decide)).mono ?_
  rintro e Z ⟨v6, rfl, m6⟩
  obtain ⟨P6, p6, rfl, g6, _, x6⟩ := made_shape m6
  have yZ := yZ.trans (x6.mono yZ.size)
  clear m6 x6
  show K _ _
  refine hK.out _ _ yZ (fun hS => ?_)
  clear hK K
  try go_frame
  refine wpAnyH_ready (rs := [7]) (by kernel_rfl) (by simp) (AllReadyH.cons (o := ⟨some 25, _, _, _, _, _⟩) rfl (fun K hK => ?_) AllReadyH.nil)
  rw [if_pos (by rfl)]
  refine wp_valR (run_convB rfl rfl rfl g6 (by decide)) ?_
  refine hK _ _ yZ (fun hS => ?_)
  clear hK K
  try go_frame
  refine held_pure (i := 8) (oi := ⟨some 26, _, _, _, _, _⟩) rfl (by kernel_rfl) (by kernel_rfl) (by kernel_rfl) (fun _ _ _ h => h) (by rfl) (v := sq keyK) (fun w hSw => by exact run_add54 rfl rfl rfl) hS (fun hS => ?_)
  try go_frame
  refine held_pure (i := 9) (oi := ⟨some 4, _, _, _, _, _⟩) rfl (by kernel_rfl) (by kernel_rfl) (by kernel_rfl) (fun _ _ _ h => h) (by rfl) (v := ?_) (fun w hSw => ?_) hS (fun hS => ?_)
  rotate_left
  · go_simp; try with_reducible rfl
  try go_frame
  refine wpAnyH_done (by kernel_rfl) ?_ _
  go_wp2_with fail
  go_ret
  exact ⟨rfl, hb.trans (yZ.mono hb.size)⟩
theorem run_load_all4 {w : World} {g : Nat} {q : P4} {A A' : Option Addr} {c c' : Nat} (h : w.heap[g]? = some (.cells (v4a q A c A' c') 46 (0, 0))) : (loadVar 46 ⟨g, 0, none⟩).run Tryz.prog w = .ok (.agg (v4a q A c A' c')) w := by
  have := run_loadVar_mid (P := Tryz.prog) w g 0 46 (v4a q A c A' c').toList _ (range_hpR h) Tryz.underlying46 rfl (by kernel_rfl)
  simpa using this
set_option maxRecDepth 100000 in
set_option maxHeartbeats 4000000 in
theorem tnwithin (p : P6) (q : P4) (A : Option Addr) (c : Nat) (w : World) (h6 : ok6 p) (hA : Arg w w.heap.size A c p.dat) (hn : p.next = 4) (hd : p.dat = bld4 q) (hq : Sent q) : Calls Tryz.prog 101 #[.agg (v6a p A c)] w fun e w' => ∃ Pa pa Pb pb, Hid (e = .returned (.tuple #[.agg (v4a q Pa pa Pb pb), .int .i64 0])) ∧ Arg w' w'.heap.size Pa pa q.opt ∧ Arg w' w'.heap.size Pb pb q.dat ∧ Below w.heap.size w w' := by
  have hb0 := ((Below.refl _ w).alloc (Nat.le_refl _) (.cells (v6a p A c) 38)).alloc (by simp) (.cells (v4a p4z none 0 none 0) 46)
  obtain ⟨W, hW⟩ : ∃ W, W = (w.alloc (.cells (v6a p A c) 38)).alloc (.cells (v4a p4z none 0 none 0) 46) := ⟨_, rfl⟩
  have k0 : W.heap[w.heap.size]? = some (.cells (v6a p A c) 38 (0, 0)) := by rw [hW, Below.heap_alloc _ _ _ (by simp)]; exact World.alloc_heap_new w _
  have kr : W.heap[w.heap.size + 1]? = some (.cells (v4a p4z none 0 none 0) 46 (0, 0)) := by
    have := World.alloc_heap_new (w.alloc (.cells (v6a p A c) 38)) (.cells (v4a p4z none 0 none 0) 46)
    rw [World.size_alloc] at this
    rw [hW]; exact this
  rw [← hW] at hb0
  have at0 : At6 W w.heap.size p A c := range_hpR k0
  have hA0 := hA.below hb0
  have hbl := hq.bl
  have hql := hq.len
  have HUV : Hid (uwV p = bld4 q) := Lib.hid (by rw [uwV, if_pos hn, hd])
  have HUE : Hid (uwE p = 0) := Lib.hid (by rw [uwE, if_pos hn])
  have HPL : Hid (p.dat.length ≤ 1000000) := Lib.hid (by rw [hd]; omega)
  have HBL : Hid ((bld4 q).length ≤ 1000000) := Lib.hid (by omega)
  have HE := Lib.hid hq.back.1
  have HV := Lib.hid hq.back.2
  have hz0 := hb0.size
  have HKR := Lib.hid kr
  have hV' : (w.alloc (.cells (v6a p A c) 38)).alloc (.cells #[.int .i64 0, .int .i64 0, .int .i64 0, .int .i64 0, .int .i64 0, .int .i64 0, .int .i64 0, .bool false, .bool false, .slice none 0 0, .slice none 0 0] 46) = W := hW.symm
  have zs : W.heap.size = w.heap.size + 2 := by rw [hW]; simp
  have HZS := Lib.hid zs
  clear hA hn hd hq hbl hql k0 kr hW zs
  go_enter Tryz.func101, Tryz.ntmps101
  go_upto_region 1 with fail
  try rw [hV']
  clear hV'
  go_upto_region 4 with (first
    | ((with_reducible show wpList _ _ _ (Oper.mk _ (Op.load 38 _) _ _ _ _ :: _) _ _); refine wpList_val rfl (run_load_v6 rfl rfl at0 (v6l_len h6.1 h6.2)) ?_)
    | (go_at_call 127; refine (cWunwrap p A c w.heap.size W h6.1 h6.2 hA0 hz0 HPL.out).mono ?_; rintro e w1 ⟨P1, p1, rfl, m1⟩; rw [HUE.out]; rw [HUV.out] at m1 ⊢))
  obtain ⟨_, _, e1, g1, _, x1⟩ := made_shape m1
  cases e1
  have kr1 := (x1.block (w.heap.size + 1) (by have := HZS.out; omega)).trans HKR.out
  clear m1 at0 hA0
  go_upto_region 5 with (first
    | (go_at_call 54; refine (c4parse (bld4 q) P1 p1 w1 w1.heap.size g1 (Nat.le_refl _) HBL.out).mono ?_; rintro e w2 ⟨Pa, pa, Pb, pb, rfl, ma, mb⟩; rw [HE.out]; rw [HV.out] at ma mb ⊢)
    | ((with_reducible show wpList _ _ _ (Oper.mk _ (Op.store 46 _ _) _ _ _ _ :: _) _ _); refine v4_store_new (cs := v4a q Pa pa Pb pb) rfl rfl rfl rfl (v4a_one _ _ _ _ _) ?_))
  obtain ⟨_, _, ea, ga, oa, xa⟩ := made_shape ma
  obtain ⟨_, _, eb, gb, ob, _⟩ := made_shape mb
  cases ea
  cases eb
  have kz := World.alloc_heap_new w2 (.cells (v4a q Pa pa Pb pb) 46)
  have a2 : Below w2.heap.size w2 (w2.alloc (.cells (v4a q Pa pa Pb pb) 46)) := (Below.refl _ w2).alloc (Nat.le_refl _) _
  have y2 : Below w1.heap.size w1 (w2.alloc (.cells (v4a q Pa pa Pb pb) 46)) := xa.alloc xa.size _
  have oa := own_below oa a2
  have ob := own_below ob a2
  have z1 : w.heap.size + 2 ≤ w1.heap.size := by have := x1.size; have := HZS.out; omega
  have kr2 := (y2.block (w.heap.size + 1) (by omega)).trans kr1
  have b1 := hb0.trans (x1.mono hz0)
  have b2 := b1.trans (y2.mono b1.size)
  generalize w2.alloc (.cells (v4a q Pa pa Pb pb) 46) = W2 at *
  have at2 := ofhE kz
  have oa3 := own_setRowR (cs' := v4a q Pa pa Pb pb) oa kr2 (nat_ne (by kernel_rfl))
  have ob3 := own_setRowR (cs' := v4a q Pa pa Pb pb) ob kr2 (nat_ne (by kernel_rfl))
  have kq := setRow_heap W2 (w.heap.size + 1) _ (v4a q Pa pa Pb pb) _ _ kr2
  have b3 := below_row (g := w.heap.size + 1) (cs := v4a q Pa pa Pb pb) b2 (by omega)
  clear ma mb xa a2 y2 kz ga gb oa ob
  go_wp2_with (first
    | ((with_reducible show wpList _ _ _ (Oper.mk _ (Op.load 46 _) _ _ _ _ :: _) _ _); refine wpList_val rfl (run_load_v4 rfl rfl at2 rfl) ?_)
    | ((with_reducible show wpList _ _ _ (Oper.mk _ (Op.store 46 _ _) _ _ _ _ :: _) _ _); refine v4_store (cs := v4a q Pa pa Pb pb) rfl rfl kr2 rfl rfl (v4a_one _ _ _ _ _) ?_))
  refine bodyPost_ret (res2 rfl rfl (run_load_all4 kq)) rfl ?_
  exact ⟨_, _, _, _, Lib.hid rfl, arg_own oa3, arg_own ob3, b3⟩
theorem tj32w : ¬ TJ 38 ∧ ¬ TJ 42 ∧ ¬ TJ 5 ∧ ¬ TJ 22 := by
  refine ⟨?_, ?_, ?_, ?_⟩ <;> (rintro (h | h | h | h) <;> exact absurd h (nat_ne (by kernel_rfl)))
theorem nj_stay {B g : Nat} {w w' : World} {cs : Array Value} {ty : TypeId} {fr : Nat × Nat} (k : Kept (NJ B w) w w') (hg : w.heap[g]? = some (.cells cs ty fr)) (ht : ¬ TJ ty) : w'.heap[g]? = some (.cells cs ty fr) :=
  (k.block g (heap_lt hg) (fun hn => ht (hn.2 cs ty fr hg))).trans hg
theorem nj_trans {B : Nat} {a b c : World} (h : Below a.heap.size a b) (k : Kept (NJ B b) b c) : Kept (NJ B a) a c :=
  (Kept.of_below h).trans k (fun i hi hn => ⟨hn.1, fun cs ty fr hg => hn.2 cs ty fr ((h.block i hi).trans hg)⟩)
theorem w4_four : ∀ h : 0 < (strB [4]).size, wrap64 (((strB [4])[0]'h).toNat : Int) = 4  := fun h => by
  have e : ((((strB [4])[0]'h).toNat : Nat) : Int) = 4 := rfl
  rw [e]
  simp [wrap64]
structure FragQ (p : P6) : Prop where
  h6 : ok6 p
  src : p.src = aftQ
  dst : p.dst = ownQ
  next : p.next = 44
  ok : prtO p = true
  id : (prtF p).id = 77
  nx : (prtF p).next = 4
  off : 0 ≤ (prtF p).off ∧ (prtF p).off ≤ 65535
  chk : chk6 p = 0
  len : p.dat.length ≤ 60000
theorem Jv.oneV {w w' : World} {B0 t bm : Nat} {mb my wt : Int} {N : Nat} {S : List Bu} (h : Jv w B0 t bm mb my wt N S) {x : Nat} {cs : Array Value} {fr : Nat × Nat} (hx : w.heap[x]? = some (.cells cs 38 fr)) (k : Kept (fun i => i = x) w w') : Jv w' B0 t bm mb my wt N S := by
  refine ⟨h.tx.awayP k (U := fun ty => ty = 38) (fun j hj cs' ty' fr' hg => ?_) ?_ ?_ ?_ ?_ ?_ (fun e => ?_), h.z, h.by_, h.n, h.l⟩
  · subst hj
    rw [hx] at hg
    injection hg with hg
    injection hg with _ e2 _
    exact e2.symm
  · exact nat_ne (by kernel_rfl)
  · exact nat_ne (by kernel_rfl)
  · exact nat_ne (by kernel_rfl)
  · exact nat_ne (by kernel_rfl)
  · exact nat_ne (by kernel_rfl)
  · obtain ⟨es, hm, _⟩ := h.tx.map
    rw [← e] at hx
    exact map_is hm hx
theorem run_load_all6 {w : World} {g : Nat} {cs : Array Value} (h : w.heap[g]? = some (.cells cs 38 (0, 0))) (hl : cs.size = 37) : (loadVar 38 ⟨g, 0, none⟩).run Tryz.prog w = .ok (.agg cs) w := by
  have := run_loadVar_mid (P := Tryz.prog) w g 0 38 cs.toList _ (range_hpR h) Tryz.underlying38 rfl (by rw [Array.length_toList, hl]; kernel_rfl)
  simpa using this
section
variable {B0 : Nat} {w w' : World} {t bm N : Nat} {mb my wt now : Int} {S S' : List Bu} {T T' : List Bf}
theorem refused_ok (w : World) : Calls Tryz.prog 126 #[.int .i64 0] w fun e w' => e = .returned (.int .i64 0) ∧ w = w' := by
  go_enter Tryz.func126, Tryz.ntmps126
  go_wp2
  go_ret
  exact ⟨rfl, rfl⟩
theorem run_build_z6 {o : Oper} {a : Act} {w : World} (ho : o.op = .build 38 #[]) : (execOp a.eval o).run Tryz.prog w = .ok (.value (.agg (v6a p6z none 0))) w := by
  have hb : (Instr.build 38 #[]).run Tryz.prog w = .ok (.agg (v6a p6z none 0)) w := by kernel_rfl
  unfold execOp
  simp only [ho, List.map_toArray, List.map_nil, Sem.run_bind, hb]
  rfl
set_option maxRecDepth 100000 in
set_option maxHeartbeats 4000000 in
theorem tnwhole_no (v : Value) (now : Int) (p : P6) (A : Option Addr) (c : Nat) (w : World) (h6 : ok6 p) (hn : p.next ≠ 44) : Calls Tryz.prog 100 #[v, .agg (v6a p A c), .int .i64 now] w fun e w' => Hid (e = .returned (.tuple #[.agg (v6a p A c), .bool true, .int .i64 0])) ∧ Below w.heap.size w w' := by
  have hb0 := ((Below.refl _ w).alloc (Nat.le_refl _) (.cells (v6a p A c) 38)).alloc (by simp) (.cells (v6a p6z none 0) 38)
  obtain ⟨W, hW⟩ : ∃ W, W = (w.alloc (.cells (v6a p A c) 38)).alloc (.cells (v6a p6z none 0) 38) := ⟨_, rfl⟩
  have k0 : W.heap[w.heap.size]? = some (.cells (v6a p A c) 38 (0, 0)) := by rw [hW, Below.heap_alloc _ _ _ (by simp)]; exact World.alloc_heap_new w _
  have kr : W.heap[w.heap.size + 1]? = some (.cells (v6a p6z none 0) 38 (0, 0)) := by
    have := World.alloc_heap_new (w.alloc (.cells (v6a p A c) 38)) (.cells (v6a p6z none 0) 38)
    rw [World.size_alloc] at this
    rw [hW]; exact this
  rw [← hW] at hb0
  have hV' : (w.alloc (.cells (v6a p A c) 38)).alloc (.cells #[.int .i64 0, .int .i64 0, .int .i64 0, .int .i64 0, .int .u8 0, .int .u8 0, .int .u8 0, .int .u8 0, .int .u8 0, .int .u8 0, .int .u8 0, .int .u8 0, .int .u8 0, .int .u8 0, .int .u8 0, .int .u8 0, .int .u8 0, .int .u8 0, .int .u8 0, .int .u8 0, .int .u8 0, .int .u8 0, .int .u8 0, .int .u8 0, .int .u8 0, .int .u8 0, .int .u8 0, .int .u8 0, .int .u8 0, .int .u8 0, .int .u8 0, .int .u8 0, .int .u8 0, .int .u8 0, .int .u8 0, .int .u8 0, .slice none 0 0] 38) = W := hW.symm
  have at0 : At6 W w.heap.size p A c := range_hpR k0
  have hkn : W.cell? ⟨w.heap.size, 2, none⟩ = some (.int .i64 p.next) := at0.next
  have d1 : (p.next != 44) = true := bne_iff_ne.2 hn
  have d1' : (p.next == 44) = false := beq_eq_false_iff_ne.2 hn
  have hs0 : (v6a p A c).size = 37 := v6a_szR _ _ _ h6.1 h6.2
  have kq := setRow_heap W (w.heap.size + 1) _ (v6a p A c) _ _ kr
  have b1 := below_row (g := w.heap.size + 1) (cs := v6a p A c) hb0 (by omega)
  clear hW k0 hn
  go_enter Tryz.func100, Tryz.ntmps100
  go_upto_region 1 with fail
  try rw [hV']
  clear hV'
  go_wp2_with (first
    | ((with_reducible show wpList _ _ _ (Oper.mk _ (Op.load 38 _) _ _ _ _ :: _) _ _); refine wpList_val rfl (run_load_v6 rfl rfl at0 (v6l_len h6.1 h6.2)) ?_)
    | ((with_reducible show wpList _ _ _ (Oper.mk _ (Op.store 38 _ _) _ _ _ _ :: _) _ _); refine v6_store (cs := v6a p A c) rfl rfl kr rfl hs0 (v6a_one _ _ _) ?_))
  refine bodyPost_ret (res3 rfl rfl (run_load_all6 kq hs0)) rfl ?_
  exact ⟨Lib.hid rfl, b1⟩
def FragOut (B0 : Nat) (w : World) (t bm N : Nat) (mb my wt : Int) (T' : List Bf) (p : P6) (q : P4) (dn : Bool) (e : Ending) (w' : World) : Prop := ∃ A9 c9, Kept (NJ B0 w) w w' ∧ (∃ S', Jv w' B0 t bm mb my wt (N + 1) S' ∧ SameT S' T') ∧ ((dn = false ∧ Hid (e = .returned (.tuple #[.agg (v6a p6z none 0), .bool false, .int .i64 0]))) ∨
      (dn = true ∧ Hid (e = .returned (.tuple #[.agg (v6a { p with next := 4, dat := bld4 q } A9 c9), .bool true, .int .i64 0])) ∧ w'.ownsRow w.heap.size 5 1 (.slice A9 (bld4 q).length c9) (bld4 q).length (row (bld4 q))))
set_option maxRecDepth 100000 in
set_option maxHeartbeats 4000000 in
theorem tnwhole_frag (h : Jv w B0 t bm mb my wt N S) (hs : SameT S T) (hmb : mb ≤ 100000) (hmy : my ≤ 10000000000) (hBe : B0 ≤ w.heap.size) (hN : N + 1 ≤ 100000) (p : P6) (A : Option Addr) (c : Nat) (hA : Arg w w.heap.size A c p.dat) (hg : FragQ p) (q : P4) (hd bs : List UInt8) (dn : Bool) (hr : addJ mb my T keyK (pcOf p) [4] now = (T', hd, bs, dn, 0)) (hdn : dn = true → hd = [4] ∧ bs = bld4 q) :
    Calls Tryz.prog 100 #[.pointer (some ⟨t, 0, none⟩), .agg (v6a p A c), .int .i64 now] w (FragOut B0 w t bm N mb my wt T' p q dn) := by
  have HDN := Lib.hid hdn
  clear hdn
  have hb0 := ((Below.refl _ w).alloc (Nat.le_refl _) (.cells (v6a p A c) 38)).alloc (by simp) (.cells (v6a p6z none 0) 38)
  obtain ⟨W, hW⟩ : ∃ W, W = (w.alloc (.cells (v6a p A c) 38)).alloc (.cells (v6a p6z none 0) 38) := ⟨_, rfl⟩
  have k0 : W.heap[w.heap.size]? = some (.cells (v6a p A c) 38 (0, 0)) := by rw [hW, Below.heap_alloc _ _ _ (by simp)]; exact World.alloc_heap_new w _
  have kr : W.heap[w.heap.size + 1]? = some (.cells (v6a p6z none 0) 38 (0, 0)) := by
    have := World.alloc_heap_new (w.alloc (.cells (v6a p A c) 38)) (.cells (v6a p6z none 0) 38)
    rw [World.size_alloc] at this
    rw [hW]; exact this
  have zs : W.heap.size = w.heap.size + 2 := by rw [hW]; simp
  rw [← hW] at hb0
  have hV' : (w.alloc (.cells (v6a p A c) 38)).alloc (.cells #[.int .i64 0, .int .i64 0, .int .i64 0, .int .i64 0, .int .u8 0, .int .u8 0, .int .u8 0, .int .u8 0, .int .u8 0, .int .u8 0, .int .u8 0, .int .u8 0, .int .u8 0, .int .u8 0, .int .u8 0, .int .u8 0, .int .u8 0, .int .u8 0, .int .u8 0, .int .u8 0, .int .u8 0, .int .u8 0, .int .u8 0, .int .u8 0, .int .u8 0, .int .u8 0, .int .u8 0, .int .u8 0, .int .u8 0, .int .u8 0, .int .u8 0, .int .u8 0, .int .u8 0, .int .u8 0, .int .u8 0, .int .u8 0, .slice none 0 0] 38) = W := hW.symm
  have HG := Lib.hid hg
  have HR : Hid (addJ mb my T keyK ⟨(prtF p).off, (prtF p).more, prtB p⟩ [4] now = (T', hd, bs, dn, 0)) := Lib.hid hr
  have HN := Lib.hid hN
  have hA0 := hA.below hb0
  have HJ0 := Lib.hid (h.below hb0)
  have HSM := Lib.hid hs
  have HMY := Lib.hid hmy
  have HB0 := Lib.hid hBe
  have HSL : Hid (S.length < 1000000) := Lib.hid (by have := h.n; omega)
  have hz0 := hb0.size
  have zg := heap_lt k0
  have zr := heap_lt kr
  have HDL : Hid (p.dat.length ≤ 1000000) := Lib.hid (by have := hg.len; omega)
  have hkn : W.cell? ⟨w.heap.size, 2, none⟩ = some (.int .i64 44) := by rw [← hg.next]; exact (show At6 W w.heap.size p A c from range_hpR k0).next
  have HPL : Hid ((prtB p).length ≤ 1000000) := Lib.hid (by
    have h1 := hg.len
    rw [prtB, if_pos hg.next]
    have := rstF_len p.dat
    omega)
  clear h hA hg hr hN hs hmy hBe hW
  go_enter Tryz.func100, Tryz.ntmps100
  go_upto_region 1 with fail
  try rw [hV']
  clear hV'
  have at0 : At6 W w.heap.size p A c := range_hpR k0
  have h6 := HG.out.h6
  go_upto_region 4 with (first
    | ((with_reducible show wpList _ _ _ (Oper.mk _ (Op.load 38 _) _ _ _ _ :: _) _ _); refine wpList_val rfl (run_load_v6 rfl rfl at0 (v6l_len h6.1 h6.2)) ?_)
    | (go_at_call 12; refine (c14part p A c w.heap.size W h6 hA0 hz0 HDL.out).mono ?_; rintro e w7 ⟨P7, p7, rfl, g7, x7⟩; rw [HG.out.ok])
    | ((with_reducible show wpList _ _ _ (Oper.mk _ (Op.store 42 _ _) _ _ _ _ :: _) _ _); refine fr_store_new (cs := fra (prtF p)) rfl rfl rfl rfl (fra_one _) ?_))
  have kf := World.alloc_heap_new w7 (.cells (fra (prtF p)) 42)
  have a7 : Below w7.heap.size w7 (w7.alloc (.cells (fra (prtF p)) 42)) := (Below.refl _ w7).alloc (Nat.le_refl _) _
  have y7 : Below W.heap.size W (w7.alloc (.cells (fra (prtF p)) 42)) := x7.trans (a7.mono x7.size)
  have gV := (g7.below a7).more a7.size
  clear g7
  generalize w7.alloc (.cells (fra (prtF p)) 42) = V at *
  generalize w7.heap.size = fb at *
  have kV := (y7.block _ zg).trans k0
  have kVr := (y7.block _ zr).trans kr
  have HJV := Lib.hid (HJ0.out.below y7)
  have bV := hb0.trans (y7.mono hz0)
  have HBE := Lib.hid (Nat.le_trans HB0.out bV.size)
  have KQ : Hid (∀ X, Kept (NJ B0 V) V X → At6 X w.heap.size p A c) := Lib.hid (fun X hX => range_hpR (nj_stay hX kV tj32w.1))
  have KF : ∀ X, Kept (NJ B0 V) V X → X.heap[fb]? = some (.cells (fra (prtF p)) 42 (0, 0)) := fun X hX => nj_stay hX kf tj32w.2.1
  have KI : Hid (∀ X, Kept (NJ B0 V) V X → X.cell? ⟨fb, 2, none⟩ = some (.int .i64 77)) := Lib.hid (fun X hX => by rw [← HG.out.id]; exact cellC (KF X hX) rfl)
  have KO : Hid (∀ X, Kept (NJ B0 V) V X → X.cell? ⟨fb, 1, none⟩ = some (.int .i64 (prtF p).off)) := Lib.hid (fun X hX => cellC (KF X hX) rfl)
  have KM : Hid (∀ X, Kept (NJ B0 V) V X → X.cell? ⟨fb, 3, none⟩ = some (.bool (prtF p).more)) := Lib.hid (fun X hX => cellC (KF X hX) rfl)
  have KX : Hid (∀ X, Kept (NJ B0 V) V X → X.cell? ⟨fb, 0, none⟩ = some (.int .i64 4)) := Lib.hid (fun X hX => by rw [← HG.out.nx]; exact cellC (KF X hX) rfl)
  have HKV := Lib.hid kV
  have HKR := Lib.hid kVr
  clear at0 k0 kr kf x7 a7 y7 hA0 KF kV kVr hkn
  go_upto_region 6 with fail
  refine wp_region_held_drew (S := fun X => Kept (NJ B0 V) V X) (by kernel_rfl) (Kept.drew V) (fun hS => ?_)
  have yZ : Below V.heap.size V V.drew := (Below.refl _ V).drew
  clear hS
  have hS : Kept (NJ B0 V) V V.drew := Kept.drew V
  generalize V.drew = Z at *
  refine held_pure (i := 0) (oi := ⟨some 30, _, _, _, _, _⟩) rfl (by kernel_rfl) (by kernel_rfl) (by kernel_rfl) (fun _ _ _ h => h) (by rfl) (v := ?_) (fun w hSw => ?_) hS (fun hS => ?_)
  rotate_left
  · go_simp; try with_reducible rfl
  try go_frame
  refine held_pure (i := 1) (oi := ⟨some 31, _, _, _, _, _⟩) rfl (by kernel_rfl) (by kernel_rfl) (by kernel_rfl) (fun _ _ _ h => h) (by rfl) (fun w hSw => run_load_v6 rfl rfl (KQ.out w hSw) (v6l_len HG.out.h6.1 HG.out.h6.2)) hS (fun hS => ?_)
  try go_frame
  refine held_pure (i := 2) (oi := ⟨some 32, _, _, _, _, _⟩) rfl (by kernel_rfl) (by kernel_rfl) (by kernel_rfl) (fun _ _ _ h => h) (by rfl) (v := ?_) (fun w hSw => ?_) hS (fun hS => ?_)
  rotate_left
  · go_simp; try with_reducible rfl
  try go_frame
  refine held_pure (i := 3) (oi := ⟨some 33, _, _, _, _, _⟩) rfl (by kernel_rfl) (by kernel_rfl) (by kernel_rfl) (fun _ _ _ h => h) (by rfl) (fun w hSw => run_load_int rfl rfl (KI.out w hSw)) hS (fun hS => ?_)
  try go_frame
  refine held_pure (i := 5) (oi := ⟨some 35, _, _, _, _, _⟩) rfl (by kernel_rfl) (by kernel_rfl) (by kernel_rfl) (fun _ _ _ h => h) (by rfl) (v := ?_) (fun w hSw => ?_) hS (fun hS => ?_)
  rotate_left
  · go_simp; try with_reducible rfl
  try go_frame
  refine held_pure (i := 6) (oi := ⟨some 36, _, _, _, _, _⟩) rfl (by kernel_rfl) (by kernel_rfl) (by kernel_rfl) (fun _ _ _ h => h) (by rfl) (fun w hSw => run_load_int rfl rfl (KO.out w hSw)) hS (fun hS => ?_)
  try go_frame
  refine held_pure (i := 7) (oi := ⟨some 37, _, _, _, _, _⟩) rfl (by kernel_rfl) (by kernel_rfl) (by kernel_rfl) (fun _ _ _ h => h) (by rfl) (v := ?_) (fun w hSw => ?_) hS (fun hS => ?_)
  rotate_left
  · go_simp; try with_reducible rfl
  try go_frame
  refine held_pure (i := 8) (oi := ⟨some 38, _, _, _, _, _⟩) rfl (by kernel_rfl) (by kernel_rfl) (by kernel_rfl) (fun _ _ _ h => h) (by rfl) (fun w hSw => run_load_bool rfl rfl (KM.out w hSw)) hS (fun hS => ?_)
  try go_frame
  refine held_pure (i := 9) (oi := ⟨some 39, _, _, _, _, _⟩) rfl (by kernel_rfl) (by kernel_rfl) (by kernel_rfl) (fun _ _ _ h => h) (by rfl) (v := ?_) (fun w hSw => ?_) hS (fun hS => ?_)
  rotate_left
  · go_simp; try with_reducible rfl
  try go_frame
  refine held_pure (i := 10) (oi := ⟨some 40, _, _, _, _, _⟩) rfl (by kernel_rfl) (by kernel_rfl) (by kernel_rfl) (fun _ _ _ h => h) (by rfl) (v := ?_) (fun w hSw => ?_) hS (fun hS => ?_)
  rotate_left
  · go_simp; try with_reducible rfl
  try go_frame
  refine held_pure (i := 11) (oi := ⟨some 41, _, _, _, _, _⟩) rfl (by kernel_rfl) (by kernel_rfl) (by kernel_rfl) (fun _ _ _ h => h) (by rfl) (fun w hSw => run_load_int rfl rfl (KX.out w hSw)) hS (fun hS => ?_)
  try go_frame
  refine held_pure (i := 12) (oi := ⟨some 42, _, _, _, _, _⟩) rfl (by kernel_rfl) (by kernel_rfl) (by kernel_rfl) (fun _ _ _ h => h) (by rfl) (v := ?_) (fun w hSw => ?_) hS (fun hS => ?_)
  rotate_left
  · go_simp; try with_reducible rfl
  try go_frame
  refine held_pure (i := 15) (oi := ⟨some 45, _, _, _, _, _⟩) rfl (by kernel_rfl) (by kernel_rfl) (by kernel_rfl) (fun _ _ _ h => h) (by rfl) (v := ?_) (fun w hSw => ?_) hS (fun hS => ?_)
  rotate_left
  · go_simp; try with_reducible rfl
  try go_frame
  refine wpAnyH_ready (rs := [4, 13]) (by kernel_rfl) (by simp) (AllReadyH.cons (o := ⟨some 34, _, _, _, _, _⟩) rfl (fun K hK => ?_) (AllReadyH.cons (o := ⟨some 43, _, _, _, _, _⟩) rfl (fun K hK => ?_) AllReadyH.nil))
  · rw [if_pos (by rfl)]
    go_simp
    refine (bkey p A c Z HG.out.src HG.out.dst).mono ?_
    rintro e Z ⟨rfl, x7⟩
    try have gh := (gh.below x7).more x7.size
    have yZ := yZ.trans (x7.mono yZ.size)
    clear x7
    show K _ _
    refine hK.out _ _ (Kept.of_below yZ) (fun hS => ?_)
    clear hK K
    try go_frame
    refine wpAnyH_ready (rs := [13]) (by kernel_rfl) (by simp) (AllReadyH.cons (o := ⟨some 43, _, _, _, _, _⟩) rfl (fun K hK => ?_) AllReadyH.nil)
    rw [if_pos (by rfl)]
    go_simp
    have gh : Arg (Z.alloc (.cells #[.int .u8 4] 5)) (Z.alloc (.cells #[.int .u8 4] 5)).heap.size (some ⟨Z.heap.size, 0, none⟩) 1 [4] := ⟨Rd.of_range (range_hpR (World.alloc_heap_new Z _)) (by simp), by decide, fun e => by cases e⟩
    have yZ := yZ.alloc yZ.size (.cells #[.int .u8 4] 5)
    show K _ (Z.alloc (.cells #[.int .u8 4] 5))
    refine hK.out _ _ (Kept.of_below yZ) (fun hS => ?_)
    clear hK K
    generalize Z.heap.size = hk at *
    generalize Z.alloc (.cells #[.int .u8 4] 5) = Z at *
    try go_frame
    refine wpAnyH_ready (rs := [14]) (by kernel_rfl) (by simp) (AllReadyH.cons (o := ⟨some 44, _, _, _, _, _⟩) rfl (fun K hK => ?_) AllReadyH.nil)
    rw [if_pos (by rfl)]
    refine wp_valR (run_convB rfl rfl rfl gh (by decide)) ?_
    refine hK _ _ (Kept.of_below yZ) (fun hS => ?_)
    clear hK K
    try go_frame
    refine wpAnyH_ready (rs := [16]) (by kernel_rfl) (by simp) (AllReadyH.cons (o := ⟨some 46, _, _, _, _, _⟩) rfl (fun K hK => ?_) AllReadyH.nil)
    rw [if_pos (by rfl)]
    go_simp
    refine (kadd_says (HJV.out.below yZ) HSM.out HMY.out keyK [4] (prtF p).off now (prtF p).more P7 p7 (prtB p) ((gV.below yZ).more yZ.size) (by unfold maxLen; decide) HPL.out (by have := HG.out.off; omega) HN.out HSL.out (Nat.le_trans HBE.out yZ.size)).mono ?_
    rintro e Z9 hans
    rw [HR.out] at hans
    obtain ⟨V9, S', rfl, o9, j9, s9, k9, _⟩ := hans
    have yZ9 := nj_trans yZ k9
    have HJ9 := Lib.hid j9
    have HS9 := Lib.hid s9
    have HO9 := Lib.hid (own_base o9 yZ.size)
    clear j9 s9 k9 o9
    show K _ _
    refine hK.out _ _ yZ9 (fun hS => ?_)
    clear hK K
    try go_frame
    refine held_pure (i := 17) (oi := ⟨some 29, _, _, _, _, _⟩) rfl (by kernel_rfl) (by kernel_rfl) (by kernel_rfl) (fun _ _ _ h => h) (by rfl) (v := ?_) (fun w hSw => ?_) hS (fun hS => ?_)
    rotate_left
    · go_simp; try with_reducible rfl
    try go_frame
    refine held_pure (i := 18) (oi := ⟨some 47, _, _, _, _, _⟩) rfl (by kernel_rfl) (by kernel_rfl) (by kernel_rfl) (fun _ _ _ h => h) (by rfl) (v := ?_) (fun w hSw => ?_) hS (fun hS => ?_)
    rotate_left
    · go_simp; try with_reducible rfl
    try go_frame
    refine held_pure (i := 19) (oi := ⟨some 48, _, _, _, _, _⟩) rfl (by kernel_rfl) (by kernel_rfl) (by kernel_rfl) (fun _ _ _ h => h) (by rfl) (v := ?_) (fun w hSw => ?_) hS (fun hS => ?_)
    rotate_left
    · go_simp; try with_reducible rfl
    try go_frame
    refine held_pure (i := 20) (oi := ⟨some 49, _, _, _, _, _⟩) rfl (by kernel_rfl) (by kernel_rfl) (by kernel_rfl) (fun _ _ _ h => h) (by rfl) (v := ?_) (fun w hSw => ?_) hS (fun hS => ?_)
    rotate_left
    · go_simp; try with_reducible rfl
    try go_frame
    refine held_pure (i := 21) (oi := ⟨some 50, _, _, _, _, _⟩) rfl (by kernel_rfl) (by kernel_rfl) (by kernel_rfl) (fun _ _ _ h => h) (by rfl) (v := ?_) (fun w hSw => ?_) hS (fun hS => ?_)
    rotate_left
    · go_simp; try with_reducible rfl
    try go_frame
    refine held_pure (i := 22) (oi := ⟨some 12, _, _, _, _, _⟩) rfl (by kernel_rfl) (by kernel_rfl) (by kernel_rfl) (fun _ _ _ h => h) (by rfl) (v := ?_) (fun w hSw => ?_) hS (fun hS => ?_)
    rotate_left
    · go_simp; try with_reducible rfl
    try go_frame
    refine held_pure (i := 23) (oi := ⟨some 13, _, _, _, _, _⟩) rfl (by kernel_rfl) (by kernel_rfl) (by kernel_rfl) (fun _ _ _ h => h) (by rfl) (v := ?_) (fun w hSw => ?_) hS (fun hS => ?_)
    rotate_left
    · go_simp; try with_reducible rfl
    try go_frame
    refine held_pure (i := 24) (oi := ⟨some 14, _, _, _, _, _⟩) rfl (by kernel_rfl) (by kernel_rfl) (by kernel_rfl) (fun _ _ _ h => h) (by rfl) (v := ?_) (fun w hSw => ?_) hS (fun hS => ?_)
    rotate_left
    · go_simp; try with_reducible rfl
    try go_frame
    refine held_pure (i := 25) (oi := ⟨some 15, _, _, _, _, _⟩) rfl (by kernel_rfl) (by kernel_rfl) (by kernel_rfl) (fun _ _ _ h => h) (by rfl) (v := ?_) (fun w hSw => ?_) hS (fun hS => ?_)
    rotate_left
    · go_simp; try with_reducible rfl
    try go_frame
    refine wpAnyH_done (by kernel_rfl) ?_ _
    cases dn with
    | false =>
      have HK9 := Lib.hid (nj_stay yZ9 HKR.out tj32w.1)
      have kq := setRow_heap Z9 (w.heap.size + 1) _ (v6a p6z none 0) _ _ HK9.out
      have KZ : Kept (NJ B0 w) w (Z9.setRow (w.heap.size + 1) (v6a p6z none 0)) := (nj_trans bV yZ9).trans (Kept.setRow _ _ _) (fun i hi e => absurd e (by omega))
      have HJ10 := Lib.hid (HJ9.out.oneV HK9.out (Kept.setRow Z9 (w.heap.size + 1) (v6a p6z none 0)))
      go_wp2_with (first
        | ((with_reducible show wpList _ _ _ (Oper.mk _ (Op.build 38 _) _ _ _ _ :: _) _ _); refine wpList_val rfl (run_build_z6 rfl) ?_)
        | (go_at_call 126; refine (refused_ok _).mono ?_; rintro e w10 ⟨rfl, rfl⟩)
        | ((with_reducible show wpList _ _ _ (Oper.mk _ (Op.store 38 _ _) _ _ _ _ :: _) _ _); refine v6_store (cs := v6a p6z none 0) rfl rfl HK9.out rfl rfl (v6a_one _ _ _) ?_))
      refine bodyPost_ret (res3 rfl rfl (run_load_all6 kq rfl)) rfl ?_
      exact ⟨none, 0, KZ, ⟨_, HJ10.out, HS9.out⟩, .inl ⟨rfl, Lib.hid rfl⟩⟩
    | true =>
      obtain ⟨rfl, rfl⟩ := HDN.out rfl
      obtain ⟨A9, c9, rfl⟩ := own_slice HO9.out
      have HK9 := Lib.hid (nj_stay yZ9 HKV.out tj32w.1)
      have HKR9 := Lib.hid (nj_stay yZ9 HKR.out tj32w.1)
      have f2 := heap_frozen HK9.out 2
      have k2 := (show At6 Z9 w.heap.size p A c from range_hpR HK9.out).next
      have ks := heap_setCell_same Z9 w.heap.size 2 _ _ (.int .i64 4) HK9.out
      rw [set_next] at ks
      have f36 := heap_frozen ks 36
      have k36 := (show At6 (Z9.setCell ⟨w.heap.size, 2, none⟩ (.int .i64 4)) w.heap.size { p with next := 4 } A c from range_hpR ks).dat HG.out.h6.1 HG.out.h6.2
      have kt := heap_setCell_same (Z9.setCell ⟨w.heap.size, 2, none⟩ (.int .i64 4)) w.heap.size 36 _ _ (.slice A9 (bld4 q).length c9) ks
      rw [set_dat { p with next := 4 } A A9 c c9 (bld4 q) HG.out.h6.1 HG.out.h6.2] at kt
      have HT := Lib.hid kt
      have HR11 : Hid (((Z9.setCell ⟨w.heap.size, 2, none⟩ (.int .i64 4)).setCell ⟨w.heap.size, 36, none⟩ (.slice A9 (bld4 q).length c9)).heap[w.heap.size + 1]? = some (.cells (v6a p6z none 0) 38 (0, 0))) := Lib.hid ((heap_setCell_other _ ⟨w.heap.size, 36, none⟩ (w.heap.size + 1) _ (by show w.heap.size + 1 ≠ w.heap.size; omega)).trans ((heap_setCell_other _ ⟨w.heap.size, 2, none⟩ (w.heap.size + 1) _ (by show w.heap.size + 1 ≠ w.heap.size; omega)).trans HKR9.out))
      have HJ10 := Lib.hid ((HJ9.out.oneV HK9.out (Kept.setCell Z9 w.heap.size 2 (.int .i64 4))).oneV ks (Kept.setCell _ w.heap.size 36 (.slice A9 (bld4 q).length c9)))
      have HO10 : Hid (((Z9.setCell ⟨w.heap.size, 2, none⟩ (.int .i64 4)).setCell ⟨w.heap.size, 36, none⟩ (.slice A9 (bld4 q).length c9)).ownsRow V.heap.size 5 1 (.slice A9 (bld4 q).length c9) (bld4 q).length (row (bld4 q))) := Lib.hid (own_setCell (own_setCell HO9.out (p := ⟨w.heap.size, 2, none⟩) (by have := heap_lt HKV.out; exact this)) (p := ⟨w.heap.size, 36, none⟩) (by have := heap_lt HKV.out; exact this))
      have KZ : Kept (NJ B0 w) w ((Z9.setCell ⟨w.heap.size, 2, none⟩ (.int .i64 4)).setCell ⟨w.heap.size, 36, none⟩ (.slice A9 (bld4 q).length c9)) := ((nj_trans bV yZ9).trans (Kept.setCell _ _ _ _) (fun i hi e => absurd e (by omega))).trans (Kept.setCell _ _ _ _) (fun i hi e => absurd e (by omega))
      have hw4 := w4_four
      clear kt
      go_upto_region 10 with fail
      generalize (Z9.setCell ⟨w.heap.size, 2, none⟩ (.int .i64 4)).setCell ⟨w.heap.size, 36, none⟩ (.slice A9 (bld4 q).length c9) = X at *
      have at10 : At6 X w.heap.size { p with next := 4, dat := bld4 q } A9 c9 := range_hpR HT.out
      have h10 : ok6 { p with next := 4, dat := bld4 q } := HG.out.h6
      have hs10 : (v6a { p with next := 4, dat := bld4 q } A9 c9).size = 37 := v6a_szR _ _ _ HG.out.h6.1 HG.out.h6.2
      have kq := setRow_heap X (w.heap.size + 1) _ (v6a { p with next := 4, dat := bld4 q } A9 c9) _ _ HR11.out
      have o11 := own_setRowR (cs' := v6a { p with next := 4, dat := bld4 q } A9 c9) HO10.out HR11.out (nat_ne (by kernel_rfl))
      have K11 : Kept (NJ B0 w) w (X.setRow (w.heap.size + 1) (v6a { p with next := 4, dat := bld4 q } A9 c9)) := KZ.trans (Kept.setRow _ _ _) (fun i hi e => absurd e (by omega))
      have HJ11 := Lib.hid (HJ10.out.oneV HR11.out (Kept.setRow X (w.heap.size + 1) (v6a { p with next := 4, dat := bld4 q } A9 c9)))
      clear k2 f2 k36 f36 ks
      go_wp2_with (first
        | ((with_reducible show wpList _ _ _ (Oper.mk _ (Op.load 38 _) _ _ _ _ :: _) _ _); refine wpList_val rfl (run_load_v6 rfl rfl at10 (v6l_len h10.1 h10.2)) ?_)
        | ((with_reducible show wpList _ _ _ (Oper.mk _ (Op.store 38 _ _) _ _ _ _ :: _) _ _); refine v6_store (cs := v6a { p with next := 4, dat := bld4 q } A9 c9) rfl rfl HR11.out rfl hs10 (v6a_one _ _ _) ?_))
      refine bodyPost_ret (res3 rfl rfl (run_load_all6 kq hs10)) rfl ?_
      exact ⟨A9, c9, K11, ⟨_, HJ11.out, HS9.out⟩, .inr ⟨rfl, Lib.hid rfl, own_base o11 bV.size⟩⟩
  · rw [if_pos (by rfl)]
    go_simp
    have gh : Arg (Z.alloc (.cells #[.int .u8 4] 5)) (Z.alloc (.cells #[.int .u8 4] 5)).heap.size (some ⟨Z.heap.size, 0, none⟩) 1 [4] := ⟨Rd.of_range (range_hpR (World.alloc_heap_new Z _)) (by simp), by decide, fun e => by cases e⟩
    have yZ := yZ.alloc yZ.size (.cells #[.int .u8 4] 5)
    show K _ (Z.alloc (.cells #[.int .u8 4] 5))
    refine hK.out _ _ (Kept.of_below yZ) (fun hS => ?_)
    clear hK K
    generalize Z.heap.size = hk at *
    generalize Z.alloc (.cells #[.int .u8 4] 5) = Z at *
    try go_frame
    refine wpAnyH_ready (rs := [4, 14]) (by kernel_rfl) (by simp) (AllReadyH.cons (o := ⟨some 34, _, _, _, _, _⟩) rfl (fun K hK => ?_) (AllReadyH.cons (o := ⟨some 44, _, _, _, _, _⟩) rfl (fun K hK => ?_) AllReadyH.nil))
    · rw [if_pos (by rfl)]
      go_simp
      refine (bkey p A c Z HG.out.src HG.out.dst).mono ?_
      rintro e Z ⟨rfl, x7⟩
      try have gh := (gh.below x7).more x7.size
      have yZ := yZ.trans (x7.mono yZ.size)
      clear x7
      show K _ _
      refine hK.out _ _ (Kept.of_below yZ) (fun hS => ?_)
      clear hK K
      try go_frame
      refine wpAnyH_ready (rs := [14]) (by kernel_rfl) (by simp) (AllReadyH.cons (o := ⟨some 44, _, _, _, _, _⟩) rfl (fun K hK => ?_) AllReadyH.nil)
      rw [if_pos (by rfl)]
      refine wp_valR (run_convB rfl rfl rfl gh (by decide)) ?_
      refine hK _ _ (Kept.of_below yZ) (fun hS => ?_)
      clear hK K
      try go_frame
      refine wpAnyH_ready (rs := [16]) (by kernel_rfl) (by simp) (AllReadyH.cons (o := ⟨some 46, _, _, _, _, _⟩) rfl (fun K hK => ?_) AllReadyH.nil)
      rw [if_pos (by rfl)]
      go_simp
      refine (kadd_says (HJV.out.below yZ) HSM.out HMY.out keyK [4] (prtF p).off now (prtF p).more P7 p7 (prtB p) ((gV.below yZ).more yZ.size) (by unfold maxLen; decide) HPL.out (by have := HG.out.off; omega) HN.out HSL.out (Nat.le_trans HBE.out yZ.size)).mono ?_
      rintro e Z9 hans
      rw [HR.out] at hans
      obtain ⟨V9, S', rfl, o9, j9, s9, k9, _⟩ := hans
      have yZ9 := nj_trans yZ k9
      have HJ9 := Lib.hid j9
      have HS9 := Lib.hid s9
      have HO9 := Lib.hid (own_base o9 yZ.size)
      clear j9 s9 k9 o9
      show K _ _
      refine hK.out _ _ yZ9 (fun hS => ?_)
      clear hK K
      try go_frame
      refine held_pure (i := 17) (oi := ⟨some 29, _, _, _, _, _⟩) rfl (by kernel_rfl) (by kernel_rfl) (by kernel_rfl) (fun _ _ _ h => h) (by rfl) (v := ?_) (fun w hSw => ?_) hS (fun hS => ?_)
      rotate_left
      · go_simp; try with_reducible rfl
      try go_frame
      refine held_pure (i := 18) (oi := ⟨some 47, _, _, _, _, _⟩) rfl (by kernel_rfl) (by kernel_rfl) (by kernel_rfl) (fun _ _ _ h => h) (by rfl) (v := ?_) (fun w hSw => ?_) hS (fun hS => ?_)
      rotate_left
      · go_simp; try with_reducible rfl
      try go_frame
      refine held_pure (i := 19) (oi := ⟨some 48, _, _, _, _, _⟩) rfl (by kernel_rfl) (by kernel_rfl) (by kernel_rfl) (fun _ _ _ h => h) (by rfl) (v := ?_) (fun w hSw => ?_) hS (fun hS => ?_)
      rotate_left
      · go_simp; try with_reducible rfl
      try go_frame
      refine held_pure (i := 20) (oi := ⟨some 49, _, _, _, _, _⟩) rfl (by kernel_rfl) (by kernel_rfl) (by kernel_rfl) (fun _ _ _ h => h) (by rfl) (v := ?_) (fun w hSw => ?_) hS (fun hS => ?_)
      rotate_left
      · go_simp; try with_reducible rfl
      try go_frame
      refine held_pure (i := 21) (oi := ⟨some 50, _, _, _, _, _⟩) rfl (by kernel_rfl) (by kernel_rfl) (by kernel_rfl) (fun _ _ _ h => h) (by rfl) (v := ?_) (fun w hSw => ?_) hS (fun hS => ?_)
      rotate_left
      · go_simp; try with_reducible rfl
      try go_frame
      refine held_pure (i := 22) (oi := ⟨some 12, _, _, _, _, _⟩) rfl (by kernel_rfl) (by kernel_rfl) (by kernel_rfl) (fun _ _ _ h => h) (by rfl) (v := ?_) (fun w hSw => ?_) hS (fun hS => ?_)
      rotate_left
      · go_simp; try with_reducible rfl
      try go_frame
      refine held_pure (i := 23) (oi := ⟨some 13, _, _, _, _, _⟩) rfl (by kernel_rfl) (by kernel_rfl) (by kernel_rfl) (fun _ _ _ h => h) (by rfl) (v := ?_) (fun w hSw => ?_) hS (fun hS => ?_)
      rotate_left
      · go_simp; try with_reducible rfl
      try go_frame
      refine held_pure (i := 24) (oi := ⟨some 14, _, _, _, _, _⟩) rfl (by kernel_rfl) (by kernel_rfl) (by kernel_rfl) (fun _ _ _ h => h) (by rfl) (v := ?_) (fun w hSw => ?_) hS (fun hS => ?_)
      rotate_left
      · go_simp; try with_reducible rfl
      try go_frame
      refine held_pure (i := 25) (oi := ⟨some 15, _, _, _, _, _⟩) rfl (by kernel_rfl) (by kernel_rfl) (by kernel_rfl) (fun _ _ _ h => h) (by rfl) (v := ?_) (fun w hSw => ?_) hS (fun hS => ?_)
      rotate_left
      · go_simp; try with_reducible rfl
      try go_frame
      refine wpAnyH_done (by kernel_rfl) ?_ _
      cases dn with
      | false =>
        have HK9 := Lib.hid (nj_stay yZ9 HKR.out tj32w.1)
        have kq := setRow_heap Z9 (w.heap.size + 1) _ (v6a p6z none 0) _ _ HK9.out
        have KZ : Kept (NJ B0 w) w (Z9.setRow (w.heap.size + 1) (v6a p6z none 0)) := (nj_trans bV yZ9).trans (Kept.setRow _ _ _) (fun i hi e => absurd e (by omega))
        have HJ10 := Lib.hid (HJ9.out.oneV HK9.out (Kept.setRow Z9 (w.heap.size + 1) (v6a p6z none 0)))
        go_wp2_with (first
          | ((with_reducible show wpList _ _ _ (Oper.mk _ (Op.build 38 _) _ _ _ _ :: _) _ _); refine wpList_val rfl (run_build_z6 rfl) ?_)
          | (go_at_call 126; refine (refused_ok _).mono ?_; rintro e w10 ⟨rfl, rfl⟩)
          | ((with_reducible show wpList _ _ _ (Oper.mk _ (Op.store 38 _ _) _ _ _ _ :: _) _ _); refine v6_store (cs := v6a p6z none 0) rfl rfl HK9.out rfl rfl (v6a_one _ _ _) ?_))
        refine bodyPost_ret (res3 rfl rfl (run_load_all6 kq rfl)) rfl ?_
        exact ⟨none, 0, KZ, ⟨_, HJ10.out, HS9.out⟩, .inl ⟨rfl, Lib.hid rfl⟩⟩
      | true =>
        obtain ⟨rfl, rfl⟩ := HDN.out rfl
        obtain ⟨A9, c9, rfl⟩ := own_slice HO9.out
        have HK9 := Lib.hid (nj_stay yZ9 HKV.out tj32w.1)
        have HKR9 := Lib.hid (nj_stay yZ9 HKR.out tj32w.1)
        have f2 := heap_frozen HK9.out 2
        have k2 := (show At6 Z9 w.heap.size p A c from range_hpR HK9.out).next
        have ks := heap_setCell_same Z9 w.heap.size 2 _ _ (.int .i64 4) HK9.out
        rw [set_next] at ks
        have f36 := heap_frozen ks 36
        have k36 := (show At6 (Z9.setCell ⟨w.heap.size, 2, none⟩ (.int .i64 4)) w.heap.size { p with next := 4 } A c from range_hpR ks).dat HG.out.h6.1 HG.out.h6.2
        have kt := heap_setCell_same (Z9.setCell ⟨w.heap.size, 2, none⟩ (.int .i64 4)) w.heap.size 36 _ _ (.slice A9 (bld4 q).length c9) ks
        rw [set_dat { p with next := 4 } A A9 c c9 (bld4 q) HG.out.h6.1 HG.out.h6.2] at kt
        have HT := Lib.hid kt
        have HR11 : Hid (((Z9.setCell ⟨w.heap.size, 2, none⟩ (.int .i64 4)).setCell ⟨w.heap.size, 36, none⟩ (.slice A9 (bld4 q).length c9)).heap[w.heap.size + 1]? = some (.cells (v6a p6z none 0) 38 (0, 0))) := Lib.hid ((heap_setCell_other _ ⟨w.heap.size, 36, none⟩ (w.heap.size + 1) _ (by show w.heap.size + 1 ≠ w.heap.size; omega)).trans ((heap_setCell_other _ ⟨w.heap.size, 2, none⟩ (w.heap.size + 1) _ (by show w.heap.size + 1 ≠ w.heap.size; omega)).trans HKR9.out))
        have HJ10 := Lib.hid ((HJ9.out.oneV HK9.out (Kept.setCell Z9 w.heap.size 2 (.int .i64 4))).oneV ks (Kept.setCell _ w.heap.size 36 (.slice A9 (bld4 q).length c9)))
        have HO10 : Hid (((Z9.setCell ⟨w.heap.size, 2, none⟩ (.int .i64 4)).setCell ⟨w.heap.size, 36, none⟩ (.slice A9 (bld4 q).length c9)).ownsRow V.heap.size 5 1 (.slice A9 (bld4 q).length c9) (bld4 q).length (row (bld4 q))) := Lib.hid (own_setCell (own_setCell HO9.out (p := ⟨w.heap.size, 2, none⟩) (by have := heap_lt HKV.out; exact this)) (p := ⟨w.heap.size, 36, none⟩) (by have := heap_lt HKV.out; exact this))
        have KZ : Kept (NJ B0 w) w ((Z9.setCell ⟨w.heap.size, 2, none⟩ (.int .i64 4)).setCell ⟨w.heap.size, 36, none⟩ (.slice A9 (bld4 q).length c9)) := ((nj_trans bV yZ9).trans (Kept.setCell _ _ _ _) (fun i hi e => absurd e (by omega))).trans (Kept.setCell _ _ _ _) (fun i hi e => absurd e (by omega))
        have hw4 := w4_four
        clear kt
        go_upto_region 10 with fail
        generalize (Z9.setCell ⟨w.heap.size, 2, none⟩ (.int .i64 4)).setCell ⟨w.heap.size, 36, none⟩ (.slice A9 (bld4 q).length c9) = X at *
        have at10 : At6 X w.heap.size { p with next := 4, dat := bld4 q } A9 c9 := range_hpR HT.out
        have h10 : ok6 { p with next := 4, dat := bld4 q } := HG.out.h6
        have hs10 : (v6a { p with next := 4, dat := bld4 q } A9 c9).size = 37 := v6a_szR _ _ _ HG.out.h6.1 HG.out.h6.2
        have kq := setRow_heap X (w.heap.size + 1) _ (v6a { p with next := 4, dat := bld4 q } A9 c9) _ _ HR11.out
        have o11 := own_setRowR (cs' := v6a { p with next := 4, dat := bld4 q } A9 c9) HO10.out HR11.out (nat_ne (by kernel_rfl))
        have K11 : Kept (NJ B0 w) w (X.setRow (w.heap.size + 1) (v6a { p with next := 4, dat := bld4 q } A9 c9)) := KZ.trans (Kept.setRow _ _ _) (fun i hi e => absurd e (by omega))
        have HJ11 := Lib.hid (HJ10.out.oneV HR11.out (Kept.setRow X (w.heap.size + 1) (v6a { p with next := 4, dat := bld4 q } A9 c9)))
        clear k2 f2 k36 f36 ks
        go_wp2_with (first
          | ((with_reducible show wpList _ _ _ (Oper.mk _ (Op.load 38 _) _ _ _ _ :: _) _ _); refine wpList_val rfl (run_load_v6 rfl rfl at10 (v6l_len h10.1 h10.2)) ?_)
          | ((with_reducible show wpList _ _ _ (Oper.mk _ (Op.store 38 _ _) _ _ _ _ :: _) _ _); refine v6_store (cs := v6a { p with next := 4, dat := bld4 q } A9 c9) rfl rfl HR11.out rfl hs10 (v6a_one _ _ _) ?_))
        refine bodyPost_ret (res3 rfl rfl (run_load_all6 kq hs10)) rfl ?_
        exact ⟨A9, c9, K11, ⟨_, HJ11.out, HS9.out⟩, .inr ⟨rfl, Lib.hid rfl, own_base o11 bV.size⟩⟩
    · rw [if_pos (by rfl)]
      refine wp_valR (run_convB rfl rfl rfl gh (by decide)) ?_
      refine hK _ _ (Kept.of_below yZ) (fun hS => ?_)
      clear hK K
      try go_frame
      refine wpAnyH_ready (rs := [4]) (by kernel_rfl) (by simp) (AllReadyH.cons (o := ⟨some 34, _, _, _, _, _⟩) rfl (fun K hK => ?_) AllReadyH.nil)
      rw [if_pos (by rfl)]
      go_simp
      refine (bkey p A c Z HG.out.src HG.out.dst).mono ?_
      rintro e Z ⟨rfl, x7⟩
      try have gh := (gh.below x7).more x7.size
      have yZ := yZ.trans (x7.mono yZ.size)
      clear x7
      show K _ _
      refine hK.out _ _ (Kept.of_below yZ) (fun hS => ?_)
      clear hK K
      try go_frame
      refine wpAnyH_ready (rs := [16]) (by kernel_rfl) (by simp) (AllReadyH.cons (o := ⟨some 46, _, _, _, _, _⟩) rfl (fun K hK => ?_) AllReadyH.nil)
      rw [if_pos (by rfl)]
      go_simp
      refine (kadd_says (HJV.out.below yZ) HSM.out HMY.out keyK [4] (prtF p).off now (prtF p).more P7 p7 (prtB p) ((gV.below yZ).more yZ.size) (by unfold maxLen; decide) HPL.out (by have := HG.out.off; omega) HN.out HSL.out (Nat.le_trans HBE.out yZ.size)).mono ?_
      rintro e Z9 hans
      rw [HR.out] at hans
      obtain ⟨V9, S', rfl, o9, j9, s9, k9, _⟩ := hans
      have yZ9 := nj_trans yZ k9
      have HJ9 := Lib.hid j9
      have HS9 := Lib.hid s9
      have HO9 := Lib.hid (own_base o9 yZ.size)
      clear j9 s9 k9 o9
      show K _ _
      refine hK.out _ _ yZ9 (fun hS => ?_)
      clear hK K
      try go_frame
      refine held_pure (i := 17) (oi := ⟨some 29, _, _, _, _, _⟩) rfl (by kernel_rfl) (by kernel_rfl) (by kernel_rfl) (fun _ _ _ h => h) (by rfl) (v := ?_) (fun w hSw => ?_) hS (fun hS => ?_)
      rotate_left
      · go_simp; try with_reducible rfl
      try go_frame
      refine held_pure (i := 18) (oi := ⟨some 47, _, _, _, _, _⟩) rfl (by kernel_rfl) (by kernel_rfl) (by kernel_rfl) (fun _ _ _ h => h) (by rfl) (v := ?_) (fun w hSw => ?_) hS (fun hS => ?_)
      rotate_left
      · go_simp; try with_reducible rfl
      try go_frame
      refine held_pure (i := 19) (oi := ⟨some 48, _, _, _, _, _⟩) rfl (by kernel_rfl) (by kernel_rfl) (by kernel_rfl) (fun _ _ _ h => h) (by rfl) (v := ?_) (fun w hSw => ?_) hS (fun hS => ?_)
      rotate_left
      · go_simp; try with_reducible rfl
      try go_frame
      refine held_pure (i := 20) (oi := ⟨some 49, _, _, _, _, _⟩) rfl (by kernel_rfl) (by kernel_rfl) (by kernel_rfl) (fun _ _ _ h => h) (by rfl) (v := ?_) (fun w hSw => ?_) hS (fun hS => ?_)
      rotate_left
      · go_simp; try with_reducible rfl
      try go_frame
      refine held_pure (i := 21) (oi := ⟨some 50, _, _, _, _, _⟩) rfl (by kernel_rfl) (by kernel_rfl) (by kernel_rfl) (fun _ _ _ h => h) (by rfl) (v := ?_) (fun w hSw => ?_) hS (fun hS => ?_)
      rotate_left
      · go_simp; try with_reducible rfl
      try go_frame
      refine held_pure (i := 22) (oi := ⟨some 12, _, _, _, _, _⟩) rfl (by kernel_rfl) (by kernel_rfl) (by kernel_rfl) (fun _ _ _ h => h) (by rfl) (v := ?_) (fun w hSw => ?_) hS (fun hS => ?_)
      rotate_left
      · go_simp; try with_reducible rfl
      try go_frame
      refine held_pure (i := 23) (oi := ⟨some 13, _, _, _, _, _⟩) rfl (by kernel_rfl) (by kernel_rfl) (by kernel_rfl) (fun _ _ _ h => h) (by rfl) (v := ?_) (fun w hSw => ?_) hS (fun hS => ?_)
      rotate_left
      · go_simp; try with_reducible rfl
      try go_frame
      refine held_pure (i := 24) (oi := ⟨some 14, _, _, _, _, _⟩) rfl (by kernel_rfl) (by kernel_rfl) (by kernel_rfl) (fun _ _ _ h => h) (by rfl) (v := ?_) (fun w hSw => ?_) hS (fun hS => ?_)
      rotate_left
      · go_simp; try with_reducible rfl
      try go_frame
      refine held_pure (i := 25) (oi := ⟨some 15, _, _, _, _, _⟩) rfl (by kernel_rfl) (by kernel_rfl) (by kernel_rfl) (fun _ _ _ h => h) (by rfl) (v := ?_) (fun w hSw => ?_) hS (fun hS => ?_)
      rotate_left
      · go_simp; try with_reducible rfl
      try go_frame
      refine wpAnyH_done (by kernel_rfl) ?_ _
      cases dn with
      | false =>
        have HK9 := Lib.hid (nj_stay yZ9 HKR.out tj32w.1)
        have kq := setRow_heap Z9 (w.heap.size + 1) _ (v6a p6z none 0) _ _ HK9.out
        have KZ : Kept (NJ B0 w) w (Z9.setRow (w.heap.size + 1) (v6a p6z none 0)) := (nj_trans bV yZ9).trans (Kept.setRow _ _ _) (fun i hi e => absurd e (by omega))
        have HJ10 := Lib.hid (HJ9.out.oneV HK9.out (Kept.setRow Z9 (w.heap.size + 1) (v6a p6z none 0)))
        go_wp2_with (first
          | ((with_reducible show wpList _ _ _ (Oper.mk _ (Op.build 38 _) _ _ _ _ :: _) _ _); refine wpList_val rfl (run_build_z6 rfl) ?_)
          | (go_at_call 126; refine (refused_ok _).mono ?_; rintro e w10 ⟨rfl, rfl⟩)
          | ((with_reducible show wpList _ _ _ (Oper.mk _ (Op.store 38 _ _) _ _ _ _ :: _) _ _); refine v6_store (cs := v6a p6z none 0) rfl rfl HK9.out rfl rfl (v6a_one _ _ _) ?_))
        refine bodyPost_ret (res3 rfl rfl (run_load_all6 kq rfl)) rfl ?_
        exact ⟨none, 0, KZ, ⟨_, HJ10.out, HS9.out⟩, .inl ⟨rfl, Lib.hid rfl⟩⟩
      | true =>
        obtain ⟨rfl, rfl⟩ := HDN.out rfl
        obtain ⟨A9, c9, rfl⟩ := own_slice HO9.out
        have HK9 := Lib.hid (nj_stay yZ9 HKV.out tj32w.1)
        have HKR9 := Lib.hid (nj_stay yZ9 HKR.out tj32w.1)
        have f2 := heap_frozen HK9.out 2
        have k2 := (show At6 Z9 w.heap.size p A c from range_hpR HK9.out).next
        have ks := heap_setCell_same Z9 w.heap.size 2 _ _ (.int .i64 4) HK9.out
        rw [set_next] at ks
        have f36 := heap_frozen ks 36
        have k36 := (show At6 (Z9.setCell ⟨w.heap.size, 2, none⟩ (.int .i64 4)) w.heap.size { p with next := 4 } A c from range_hpR ks).dat HG.out.h6.1 HG.out.h6.2
        have kt := heap_setCell_same (Z9.setCell ⟨w.heap.size, 2, none⟩ (.int .i64 4)) w.heap.size 36 _ _ (.slice A9 (bld4 q).length c9) ks
        rw [set_dat { p with next := 4 } A A9 c c9 (bld4 q) HG.out.h6.1 HG.out.h6.2] at kt
        have HT := Lib.hid kt
        have HR11 : Hid (((Z9.setCell ⟨w.heap.size, 2, none⟩ (.int .i64 4)).setCell ⟨w.heap.size, 36, none⟩ (.slice A9 (bld4 q).length c9)).heap[w.heap.size + 1]? = some (.cells (v6a p6z none 0) 38 (0, 0))) := Lib.hid ((heap_setCell_other _ ⟨w.heap.size, 36, none⟩ (w.heap.size + 1) _ (by show w.heap.size + 1 ≠ w.heap.size; omega)).trans ((heap_setCell_other _ ⟨w.heap.size, 2, none⟩ (w.heap.size + 1) _ (by show w.heap.size + 1 ≠ w.heap.size; omega)).trans HKR9.out))
        have HJ10 := Lib.hid ((HJ9.out.oneV HK9.out (Kept.setCell Z9 w.heap.size 2 (.int .i64 4))).oneV ks (Kept.setCell _ w.heap.size 36 (.slice A9 (bld4 q).length c9)))
        have HO10 : Hid (((Z9.setCell ⟨w.heap.size, 2, none⟩ (.int .i64 4)).setCell ⟨w.heap.size, 36, none⟩ (.slice A9 (bld4 q).length c9)).ownsRow V.heap.size 5 1 (.slice A9 (bld4 q).length c9) (bld4 q).length (row (bld4 q))) := Lib.hid (own_setCell (own_setCell HO9.out (p := ⟨w.heap.size, 2, none⟩) (by have := heap_lt HKV.out; exact this)) (p := ⟨w.heap.size, 36, none⟩) (by have := heap_lt HKV.out; exact this))
        have KZ : Kept (NJ B0 w) w ((Z9.setCell ⟨w.heap.size, 2, none⟩ (.int .i64 4)).setCell ⟨w.heap.size, 36, none⟩ (.slice A9 (bld4 q).length c9)) := ((nj_trans bV yZ9).trans (Kept.setCell _ _ _ _) (fun i hi e => absurd e (by omega))).trans (Kept.setCell _ _ _ _) (fun i hi e => absurd e (by omega))
        have hw4 := w4_four
        clear kt
        go_upto_region 10 with fail
        generalize (Z9.setCell ⟨w.heap.size, 2, none⟩ (.int .i64 4)).setCell ⟨w.heap.size, 36, none⟩ (.slice A9 (bld4 q).length c9) = X at *
        have at10 : At6 X w.heap.size { p with next := 4, dat := bld4 q } A9 c9 := range_hpR HT.out
        have h10 : ok6 { p with next := 4, dat := bld4 q } := HG.out.h6
        have hs10 : (v6a { p with next := 4, dat := bld4 q } A9 c9).size = 37 := v6a_szR _ _ _ HG.out.h6.1 HG.out.h6.2
        have kq := setRow_heap X (w.heap.size + 1) _ (v6a { p with next := 4, dat := bld4 q } A9 c9) _ _ HR11.out
        have o11 := own_setRowR (cs' := v6a { p with next := 4, dat := bld4 q } A9 c9) HO10.out HR11.out (nat_ne (by kernel_rfl))
        have K11 : Kept (NJ B0 w) w (X.setRow (w.heap.size + 1) (v6a { p with next := 4, dat := bld4 q } A9 c9)) := KZ.trans (Kept.setRow _ _ _) (fun i hi e => absurd e (by omega))
        have HJ11 := Lib.hid (HJ10.out.oneV HR11.out (Kept.setRow X (w.heap.size + 1) (v6a { p with next := 4, dat := bld4 q } A9 c9)))
        clear k2 f2 k36 f36 ks
        go_wp2_with (first
          | ((with_reducible show wpList _ _ _ (Oper.mk _ (Op.load 38 _) _ _ _ _ :: _) _ _); refine wpList_val rfl (run_load_v6 rfl rfl at10 (v6l_len h10.1 h10.2)) ?_)
          | ((with_reducible show wpList _ _ _ (Oper.mk _ (Op.store 38 _ _) _ _ _ _ :: _) _ _); refine v6_store (cs := v6a { p with next := 4, dat := bld4 q } A9 c9) rfl rfl HR11.out rfl hs10 (v6a_one _ _ _) ?_))
        refine bodyPost_ret (res3 rfl rfl (run_load_all6 kq hs10)) rfl ?_
        exact ⟨A9, c9, K11, ⟨_, HJ11.out, HS9.out⟩, .inr ⟨rfl, Lib.hid rfl, own_base o11 bV.size⟩⟩
theorem tnwhole_more (h : Jv w B0 t bm mb my wt N S) (hs : SameT S T) (hmb : mb ≤ 100000) (hmy : my ≤ 10000000000) (hBe : B0 ≤ w.heap.size) (hN : N + 1 ≤ 100000) (p : P6) (A : Option Addr) (c : Nat) (hA : Arg w w.heap.size A c p.dat) (hg : FragQ p) (hr : addJ mb my T keyK (pcOf p) [4] now = (T', [], [], false, 0)) :
    Calls Tryz.prog 100 #[.pointer (some ⟨t, 0, none⟩), .agg (v6a p A c), .int .i64 now] w fun e w' => Hid (e = .returned (.tuple #[.agg (v6a p6z none 0), .bool false, .int .i64 0])) ∧ Kept (NJ B0 w) w w' ∧ ∃ S', Jv w' B0 t bm mb my wt (N + 1) S' ∧ SameT S' T' := by
  refine (tnwhole_frag h hs hmb hmy hBe hN p A c hA hg p4z [] [] false hr (fun e => by cases e)).mono ?_
  rintro e w' ⟨_, _, k, hS, (⟨_, he⟩ | ⟨e2, _⟩)⟩
  · exact ⟨he, k, hS⟩
  · cases e2
theorem tnwhole_last (h : Jv w B0 t bm mb my wt N S) (hs : SameT S T) (hmb : mb ≤ 100000) (hmy : my ≤ 10000000000) (hBe : B0 ≤ w.heap.size) (hN : N + 1 ≤ 100000) (p : P6) (A : Option Addr) (c : Nat) (hA : Arg w w.heap.size A c p.dat) (hg : FragQ p) (q : P4) (hr : addJ mb my T keyK (pcOf p) [4] now = (T', [4], bld4 q, true, 0)) :
    Calls Tryz.prog 100 #[.pointer (some ⟨t, 0, none⟩), .agg (v6a p A c), .int .i64 now] w fun e w' => ∃ A9 c9, Hid (e = .returned (.tuple #[.agg (v6a { p with next := 4, dat := bld4 q } A9 c9), .bool true, .int .i64 0])) ∧ w'.ownsRow w.heap.size 5 1 (.slice A9 (bld4 q).length c9) (bld4 q).length (row (bld4 q)) ∧ Kept (NJ B0 w) w w' ∧ ∃ S', Jv w' B0 t bm mb my wt (N + 1) S' ∧ SameT S' T' := by
  refine (tnwhole_frag h hs hmb hmy hBe hN p A c hA hg q _ _ true hr (fun _ => ⟨rfl, rfl⟩)).mono ?_
  rintro e w' ⟨A9, c9, k, hS, (⟨e2, _⟩ | ⟨_, he, ho⟩)⟩
  · cases e2
  · exact ⟨A9, c9, he, ho, k, hS⟩
end
end Go.Proofs.YtpoigngpdcmipaaGreat
