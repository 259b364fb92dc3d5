/-
  Contracts and lemmas on which the proofs of this seat stand (several texts in one). Conditions are each theorem's own.
-/
import Derived.Test.YtpoigngpdcmipaaGreatMb19
import Derived.Test.YtpoigngpdcmipaaGreatMb17
namespace Go.Proofs.YtpoigngpdcmipaaGreat
open Go.RowKit
structure Sent (q : P4) : Prop where
  chk : chk4 q = 0
  opt : q.opt = []
  host : hostB q.src = true
  len : q.dat.length ≤ 60000
theorem Sent.back {q : P4} (h : Sent q) : prsE (bld4 q) false = 0 ∧ prsV (bld4 q) false = q := by
  have := back_ok (more := []) h.chk
  rwa [List.append_nil] at this
theorem Sent.bl {q : P4} (h : Sent q) : (bld4 q).length = 20 + q.dat.length := by rw [bld4_len, h.opt]; rfl
theorem Sent.hop {q : P4} (h : Sent q) (h1 : 1 < q.ttl) : Sent { q with ttl := q.ttl - 1 } := by
  obtain ⟨ha, h0, h2⟩ := chk4_zero h.chk
  refine ⟨?_, h.opt, h.host, h.len⟩
  have hsz : size4 { q with ttl := q.ttl - 1 } = size4 q := rfl
  have ha' : arg4 { q with ttl := q.ttl - 1 } := by
    obtain ⟨b0, b1, b2, b3, b4, b5, b6, b7, b8, b9, b10, b11, b12, b13, b14, b15, b16, b17⟩ := ha
    exact ⟨b0, b1, (by show 0 ≤ q.ttl - 1; omega), (by show q.ttl - 1 ≤ 255; omega), b4, b5, b6, b7, b8, b9, b10, b11, b12, b13, b14, b15, b16, b17⟩
  have hc := h.chk
  unfold chk4 at hc ⊢
  rw [if_pos ha] at hc
  rw [if_pos ha', hsz]
  exact hc
set_option maxRecDepth 100000 in
set_option maxHeartbeats 4000000 in
theorem bup {B0 : Nat} {w : World} {x t bm k N : Nat} {m now id : Int} {S : List Bu} {T : List Bf} {L : List Int} (h : Bf4 B0 w x t bm k m now id N S T L) (q : P4) (A : Option Addr) (c : Nat) (hA : Arg w w.heap.size A c (bld4 q)) (hq : Sent q) (ht : (Lit.int .i64 q.ttl).wf = true) (h1 : 1 < q.ttl) (hm : 1280 ≤ m ∧ m ≤ 65535) (hid : 0 ≤ id ∧ id < 4294967296) :
    Calls Tryz.prog 28 #[.pointer (some ⟨x, 0, none⟩), .slice A (bld4 q).length c] w fun e w' => ∃ v l, Hid (e = .returned (.tuple #[v, .slice none 0 0, .int .i64 0])) ∧ RowY w' w.heap.size v l ∧ Hid (l.map (·.b) = (cutB m id (wrV ownQ aftQ 64 (bld4 { q with ttl := q.ttl - 1 }))).map bld6) ∧ Kept (fun i => i = x) w w' ∧ ∃ id', (0 ≤ id' ∧ id' < 4294967296) ∧ Bf4 B0 w' x t bm k m now id' N S T L := by
  have hbl := hq.bl
  have hL : (bld4 q).length ≤ 1000000 := by have := hq.len; omega
  have HE := Lib.hid hq.back.1
  have HV := Lib.hid hq.back.2
  have HO := Lib.hid hq.opt
  have HQ := Lib.hid hq
  have HD := Lib.hid (show q.dat.length ≤ 900000 by have := hq.len; omega)
  have HF := Lib.hid h
  have HT := Lib.hid ht
  have HMM := Lib.hid hm
  have HII := Lib.hid hid
  have hq' := hq.hop h1
  obtain ⟨r, hr⟩ : ∃ r, r = ({ q with ttl := q.ttl - 1 } : P4) := ⟨_, rfl⟩
  have HR : Hid (hpV q = r) := Lib.hid (by rw [hpV, if_pos h1, hr])
  have HB : Hid (hpB q = true) := Lib.hid (decide_eq_true h1)
  rw [← hr] at hq' ⊢
  have HRS := Lib.hid hq'
  have HRO := Lib.hid hq'.opt
  have HRL := Lib.hid (show r.dat.length ≤ 900000 by have := hq'.len; omega)
  have HRB := Lib.hid (show (bld4 r).length ≤ 65535 by have := hq'.bl; have := hq'.len; omega)
  have hx := heap_lt h.obj
  clear h hq ht hm hid h1 hq' hr hbl
  go_enter Tryz.func28, Tryz.ntmps28
  go_upto_region 2 with (first
    | (go_at_call 54; refine (c4parse (bld4 q) A c w w.heap.size hA (Nat.le_refl _) hL).mono ?_; rintro e w1 ⟨P1, p1, P2, p2, rfl, ma, mb⟩; rw [HE.out]; rw [HV.out] at ma mb ⊢)
    | ((with_reducible show wpList _ _ _ (Oper.mk _ (Op.store 46 _ _) _ _ _ _ :: _) _ _); refine v4_store_new (cs := v4a q P1 p1 P2 p2) rfl rfl rfl rfl (v4a_one _ _ _ _ _) ?_))
  obtain ⟨_, _, ea, ga, _, xa⟩ := made_shape ma
  obtain ⟨_, _, eb, gb, _, _⟩ := made_shape mb
  cases ea
  cases eb
  have kz := World.alloc_heap_new w1 (.cells (v4a q P1 p1 P2 p2) 46)
  have a1 : Below w1.heap.size w1 (w1.alloc (.cells (v4a q P1 p1 P2 p2) 46)) := (Below.refl _ w1).alloc (Nat.le_refl _) _
  have y1 := xa.alloc xa.size (.cells (v4a q P1 p1 P2 p2) 46)
  have ga := ga.below a1
  have gb := gb.below a1
  have zw : w.heap.size ≤ w1.heap.size := xa.size
  generalize w1.alloc (.cells (v4a q P1 p1 P2 p2) 46) = W at *
  generalize w1.heap.size = g at *
  have zg := heap_lt kz
  have at1 := ofhE kz
  have k5 := at1.src
  clear ma mb xa a1
  go_upto_region 6 with (go_at_call 55; refine (c3host q.src W).mono ?_; rintro e w2 ⟨rfl, x2⟩; rw [HQ.out.host])
  have kz2 := (x2.block g zg).trans kz
  have at2 := ofhE kz2
  have ga2 := ga.below (x2.mono (Nat.le_of_lt zg))
  have gb2 := gb.below (x2.mono (Nat.le_of_lt zg))
  have hO0 : q.opt.length ≤ 1000000 := by rw [HO.out]; decide
  have y2 := y1.trans (x2.mono y1.size)
  have zg2 := Nat.le_trans (Nat.le_of_lt zg) x2.size
  clear kz at1 k5 ga gb x2 y1
  go_upto_region 7 with (first
    | ((with_reducible show wpList _ _ _ (Oper.mk _ (Op.load 46 _) _ _ _ _ :: _) _ _); refine wpList_val rfl (run_load_v4 rfl rfl at2 rfl) ?_)
    | (go_at_call 56; refine (cWhop q P1 p1 P2 p2 w2 hO0 HD.out HT.out g ga2 gb2 zg2).mono ?_; rintro e w3 ⟨P3, p3, P4', p4', rfl, mc, md⟩; rw [HB.out]; rw [HR.out] at mc md ⊢)
    | ((with_reducible show wpList _ _ _ (Oper.mk _ (Op.store 46 _ _) _ _ _ _ :: _) _ _); refine v4_store_new (cs := v4a r P3 p3 P4' p4') rfl rfl rfl rfl (v4a_one _ _ _ _ _) ?_))
  obtain ⟨_, _, ec, gc, _, xc⟩ := made_shape mc
  obtain ⟨_, _, ed, gd, _, _⟩ := made_shape md
  cases ec
  cases ed
  have kq := World.alloc_heap_new w3 (.cells (v4a r P3 p3 P4' p4') 46)
  have a3 : Below w3.heap.size w3 (w3.alloc (.cells (v4a r P3 p3 P4' p4') 46)) := (Below.refl _ w3).alloc (Nat.le_refl _) _
  have y3 := y2.trans (xc.mono y2.size)
  have y4 := y3.trans (a3.mono y3.size)
  have gc := (gc.below a3).more a3.size
  have gd := (gd.below a3).more a3.size
  clear mc md kz2 at2 ga2 gb2 xc y2 y3 a3
  generalize w3.alloc (.cells (v4a r P3 p3 P4' p4') 46) = X at *
  have at4 := ofhE kq
  have hO4 : Arg X X.heap.size P3 p3 r.opt := gc
  have hD4 : Arg X X.heap.size P4' p4' r.dat := gd
  have HF4 := Lib.hid (HF.out.below y4)
  have hz4 := y4.size
  clear HF
  go_wp2_with (first
    | ((with_reducible show wpList _ _ _ (Oper.mk _ (Op.load 46 _) _ _ _ _ :: _) _ _); refine wpList_val rfl (run_load_v4 rfl rfl at4 rfl) ?_)
    | (go_at_call 58; refine (binto HF4.out r P3 p3 P4' p4' hO4 hD4 (by rw [HRO.out]; decide) (by have := HRL.out; omega) HRS.out.chk HRB.out HMM.out HII.out _ rfl).mono ?_; rintro e w5 ⟨v5, l5, he, r5, q5, k5, id5, hid5, f5⟩; obtain rfl := he.out; clear he))
  refine bodyPost_ret (results_tmp3 rfl _ _ _) rfl ?_
  exact ⟨_, l5, Lib.hid rfl, r5.base hz4, q5, (Kept.of_below y4).trans k5 (fun i hi h => h), _, hid5, f5⟩
set_option linter.unusedVariables false in
set_option maxRecDepth 100000 in
set_option maxHeartbeats 4000000 in
theorem bup_over {B0 : Nat} {w : World} {x t bm k N : Nat} {m now id : Int} {S : List Bu} {T : List Bf} {L : List Int} (h : Bf4 B0 w x t bm k m now id N S T L) (q : P4) (A : Option Addr) (c : Nat) (hA : Arg w w.heap.size A c (bld4 q)) (hq : Sent q) (ht : (Lit.int .i64 q.ttl).wf = true) (h1 : ¬ 1 < q.ttl)
    (hm : mkE 3221225474 11 0 0 (bld4 q) = 0) (h4 : chk4 (mkV 3221225474 11 0 0 (bld4 q)) = 0) (hd : (mkV 3221225474 11 0 0 (bld4 q)).dat.length ≤ 1000000) :
    Calls Tryz.prog 28 #[.pointer (some ⟨x, 0, none⟩), .slice A (bld4 q).length c] w fun e w' => ∃ g, e = .returned (.tuple #[.slice none 0 0, .slice (some ⟨g, 0, none⟩) 1 1, .int .i64 3]) ∧ Below w.heap.size w w' := by
  have hbl := hq.bl
  have hL : (bld4 q).length ≤ 900000 := by have := hq.len; omega
  have HE := Lib.hid hq.back.1
  have HV := Lib.hid hq.back.2
  have HO := Lib.hid hq.opt
  have HQ := Lib.hid hq
  have HD := Lib.hid (show q.dat.length ≤ 900000 by have := hq.len; omega)
  have HT := Lib.hid ht
  have HB : Hid (hpB q = false) := Lib.hid (decide_eq_false h1)
  have HM := Lib.hid hm
  have H4 := Lib.hid h4
  have HDD := Lib.hid hd
  have HA := Lib.hid hA
  clear h hq ht hm h4 hd h1 hbl hA
  go_enter Tryz.func28, Tryz.ntmps28
  go_upto_region 2 with (first
    | (go_at_call 54; refine (c4parse (bld4 q) A c w w.heap.size HA.out (Nat.le_refl _) (by omega)).mono ?_; rintro e w1 ⟨P1, p1, P2, p2, rfl, ma, mb⟩; rw [HE.out]; rw [HV.out] at ma mb ⊢)
    | ((with_reducible show wpList _ _ _ (Oper.mk _ (Op.store 46 _ _) _ _ _ _ :: _) _ _); refine v4_store_new (cs := v4a q P1 p1 P2 p2) rfl rfl rfl rfl (v4a_one _ _ _ _ _) ?_))
  obtain ⟨_, _, ea, ga, _, xa⟩ := made_shape ma
  obtain ⟨_, _, eb, gb, _, _⟩ := made_shape mb
  cases ea
  cases eb
  have kz := World.alloc_heap_new w1 (.cells (v4a q P1 p1 P2 p2) 46)
  have a1 : Below w1.heap.size w1 (w1.alloc (.cells (v4a q P1 p1 P2 p2) 46)) := (Below.refl _ w1).alloc (Nat.le_refl _) _
  have y1 := xa.alloc xa.size (.cells (v4a q P1 p1 P2 p2) 46)
  have ga := ga.below a1
  have gb := gb.below a1
  have zw : w.heap.size ≤ w1.heap.size := xa.size
  generalize w1.alloc (.cells (v4a q P1 p1 P2 p2) 46) = W at *
  generalize w1.heap.size = g at *
  have zg := heap_lt kz
  have at1 := ofhE kz
  have k5 := at1.src
  clear ma mb xa a1
  go_upto_region 6 with (go_at_call 55; refine (c3host q.src W).mono ?_; rintro e w2 ⟨rfl, x2⟩; rw [HQ.out.host])
  have kz2 := (x2.block g zg).trans kz
  have at2 := ofhE kz2
  have ga2 := ga.below (x2.mono (Nat.le_of_lt zg))
  have gb2 := gb.below (x2.mono (Nat.le_of_lt zg))
  have hO0 : q.opt.length ≤ 1000000 := by rw [HO.out]; decide
  have y2 := y1.trans (x2.mono y1.size)
  have zg2 := Nat.le_trans (Nat.le_of_lt zg) x2.size
  obtain ⟨r, hr⟩ : ∃ r, r = hpV q := ⟨_, rfl⟩
  have HR := Lib.hid hr.symm
  clear kz at1 k5 ga gb x2 y1 hr
  go_upto_region 7 with (first
    | ((with_reducible show wpList _ _ _ (Oper.mk _ (Op.load 46 _) _ _ _ _ :: _) _ _); refine wpList_val rfl (run_load_v4 rfl rfl at2 rfl) ?_)
    | (go_at_call 56; refine (cWhop q P1 p1 P2 p2 w2 hO0 HD.out HT.out g ga2 gb2 zg2).mono ?_; rintro e w3 ⟨P3, p3, P4', p4', rfl, mc, md⟩; rw [HB.out]; rw [HR.out] at mc md ⊢)
    | ((with_reducible show wpList _ _ _ (Oper.mk _ (Op.store 46 _ _) _ _ _ _ :: _) _ _); refine v4_store_new (cs := v4a r P3 p3 P4' p4') rfl rfl rfl rfl (v4a_one _ _ _ _ _) ?_))
  obtain ⟨_, _, ec, gc, _, xc⟩ := made_shape mc
  have a3 : Below w3.heap.size w3 (w3.alloc (.cells (v4a r P3 p3 P4' p4') 46)) := (Below.refl _ w3).alloc (Nat.le_refl _) _
  have y3 := y2.trans (xc.mono y2.size)
  have y4 := y3.trans (a3.mono y3.size)
  have x4 := xc.trans (a3.mono xc.size)
  have at5 := ofhE ((x4.block g (heap_lt kz2)).trans kz2)
  have ga5 := (ga2.below (x4.mono zg2)).more (Nat.le_trans zg2 x4.size)
  have gb5 := (gb2.below (x4.mono zg2)).more (Nat.le_trans zg2 x4.size)
  clear mc md kz2 at2 ga2 gb2 xc y2 y3 a3 x4 gc
  generalize w3.alloc (.cells (v4a r P3 p3 P4' p4') 46) = X at *
  go_wp2_with (first
    | ((with_reducible show wpList _ _ _ (Oper.mk _ (Op.load 46 _) _ _ _ _ :: _) _ _); refine wpList_val rfl (run_load_v4 rfl rfl at5 rfl) ?_)
    | (go_at_call 57; refine (bover q P1 p1 P2 p2 X ga5 gb5 hO0 (by have := HD.out; omega) HQ.out.chk hL HM.out H4.out HDD.out).mono ?_; rintro e w5 ⟨g5, rfl, x5⟩))
  refine bodyPost_ret (results_tmp3 rfl _ _ _) rfl ?_
  exact ⟨_, rfl, y4.trans (x5.mono y4.size)⟩
section
variable {B0 : Nat} {w w' : World} {x t bm k N : Nat} {m now id : Int} {S : List Bu} {T : List Bf} {L : List Int}
set_option maxRecDepth 100000 in
theorem bmade (h : Bf4 B0 w x t bm k m now id N S T L) : Calls Tryz.prog 27 #[.pointer (some ⟨x, 0, none⟩)] w fun e w' => e = .returned (.bool true) ∧ w = w' := by
  have k0 := h.cell 37 _ rfl
  clear h
  go_enter Tryz.func27, Tryz.ntmps27
  go_wp2
  go_ret
  exact ⟨rfl, rfl⟩
theorem Bf4.count (h : Bf4 B0 w x t bm k m now id N S T L) (r : Int) (hc : Cn w' k (upC L r)) (o : OneC k w w') : Bf4 B0 w' x t bm k m now id (N + 1) S T (upC L r) :=
  ⟨(o.block (heap_lt h.obj) h.ne).trans h.obj, (h.jv.one h.cn.obj (.inr rfl) o.kept).mono (Nat.le_succ _), h.sm, hc, bdC_up h.bd h.cn.n r, h.bx, h.bk, Nat.le_trans h.be o.size⟩
theorem RowY.one {base : Nat} {v : Value} {l : List YB} (h : RowY w base v l) {x : Nat} {cs : Array Value} {ty : TypeId} {fr : Nat × Nat} (hx : w.heap[x]? = some (.cells cs ty fr)) (ht : T32 ty) (k : Kept (fun i => i = x) w w') : RowY w' base v l :=
  ⟨own_one h.1 hx ht t32_no.2.2.2.2.2.2 k, fun y hy => own_one (h.2 y hy) hx ht t32_no.2.2.2.1 k⟩
def KB (x k : Nat) (w w' : World) : Prop := Kept (fun i => i = x ∨ i = k) w w'
theorem KB.below {B : Nat} (h : KB x k w w') (hx : B ≤ x) (hk : B ≤ k) (hB : B ≤ w.heap.size) : Below B w w' := by
  refine ⟨h.os, h.tape, h.output, h.size, fun i hi => h.block i (by omega) (fun e => by omega)⟩
set_option maxRecDepth 100000 in
set_option maxHeartbeats 4000000 in
theorem bhost (h : Bf4 B0 w x t bm k m now id N S T L) (hN : N ≤ 1000000000) (q : P4) (A : Option Addr) (c : Nat) (hA : Arg w w.heap.size A c (bld4 q)) (hq : Sent q) (ht : (Lit.int .i64 q.ttl).wf = true) (h1 : 1 < q.ttl) (hm : 1280 ≤ m ∧ m ≤ 65535) (hid : 0 ≤ id ∧ id < 4294967296) :
    Calls Tryz.prog 10 #[.pointer (some ⟨x, 0, none⟩), .slice A (bld4 q).length c] w fun e w' => ∃ v l, Hid (e = .returned (.tuple #[v, .slice none 0 0, .int .i64 0])) ∧ RowY w' w.heap.size v l ∧ Hid (l.map (·.b) = (cutB m id (wrV ownQ aftQ 64 (bld4 { q with ttl := q.ttl - 1 }))).map bld6) ∧ KB x k w w' ∧ ∃ id', (0 ≤ id' ∧ id' < 4294967296) ∧ Bf4 B0 w' x t bm k m now id' (N + 1) S T L := by
  have HF := Lib.hid h
  have HU := Lib.hid (bup h q A c hA hq ht h1 hm hid)
  obtain ⟨M, hM⟩ : ∃ M, M = (cutB m id (wrV ownQ aftQ 64 (bld4 { q with ttl := q.ttl - 1 }))).map bld6 := ⟨_, rfl⟩
  rw [← hM] at HU ⊢
  have HBd := Lib.hid h.bd
  clear h hA hq ht h1 hm hid hM
  go_enter Tryz.func10, Tryz.ntmps10
  go_upto_region 4 with (first
    | (go_at_call 27; refine (bmade HF.out).mono ?_; rintro e w1 ⟨rfl, rfl⟩)
    | (go_at_call 28; refine HU.out.mono ?_; rintro e w2 ⟨v2, l2, he, r2, q2, k2, id2, hid2, f2⟩; obtain rfl := he.out; clear he))
  have HF2 := Lib.hid f2
  have c38 := f2.cell 38 _ rfl
  have HR2 := Lib.hid r2
  clear f2 r2
  go_wp2_with (go_at_call 29; refine (cnadd HF2.out.cn HF2.out.bd hN 0).mono ?_; rintro e w3 ⟨rfl, c3, o3⟩)
  refine bodyPost_ret (results_tmp3 rfl _ _ _) rfl ?_
  have hu : upC L 0 = L := rfl
  have f3 := HF2.out.count 0 c3 o3
  rw [hu] at f3
  refine ⟨_, l2, Lib.hid rfl, HR2.out.one HF2.out.cn.obj (.inr rfl) o3.kept, q2, ?_, id2, hid2, f3⟩
  exact (k2.mono (fun i _ e => .inl e)).trans (o3.kept.mono (fun i _ e => (.inr e : i = x ∨ i = k))) (fun _ _ h => h)
theorem bhost_over (h : Bf4 B0 w x t bm k m now id N S T L) (hN : N ≤ 1000000000) (q : P4) (A : Option Addr) (c : Nat) (hA : Arg w w.heap.size A c (bld4 q)) (hq : Sent q) (ht : (Lit.int .i64 q.ttl).wf = true) (h1 : ¬ 1 < q.ttl)
    (hm : mkE 3221225474 11 0 0 (bld4 q) = 0) (h4 : chk4 (mkV 3221225474 11 0 0 (bld4 q)) = 0) (hd : (mkV 3221225474 11 0 0 (bld4 q)).dat.length ≤ 1000000) :
    Calls Tryz.prog 10 #[.pointer (some ⟨x, 0, none⟩), .slice A (bld4 q).length c] w fun e w' => ∃ g, e = .returned (.tuple #[.slice none 0 0, .slice (some ⟨g, 0, none⟩) 1 1, .int .i64 3]) ∧ KB x k w w' := by
  have HF := Lib.hid h
  have HU := Lib.hid (bup_over h q A c hA hq ht h1 hm h4 hd)
  clear h hA hq ht h1 hm h4 hd
  go_enter Tryz.func10, Tryz.ntmps10
  go_upto_region 4 with (first
    | (go_at_call 27; refine (bmade HF.out).mono ?_; rintro e w1 ⟨rfl, rfl⟩)
    | (go_at_call 28; refine HU.out.mono ?_; rintro e w2 ⟨g2, rfl, x2⟩))
  have HF2 := Lib.hid (HF.out.below x2)
  have c38 := HF2.out.cell 38 _ rfl
  go_wp2_with (go_at_call 29; refine (cnadd HF2.out.cn HF2.out.bd hN 3).mono ?_; rintro e w3 ⟨rfl, c3, o3⟩)
  refine bodyPost_ret (results_tmp3 rfl _ _ _) rfl ?_
  exact ⟨_, rfl, (Kept.of_below (S := fun i => i = x ∨ i = k) x2).trans (o3.kept.mono (fun i _ e => (.inr e : i = x ∨ i = k))) (fun _ _ h => h)⟩
end
end Go.Proofs.YtpoigngpdcmipaaGreat
namespace Go.Proofs.YtpoigngpdcmipaaGreat
open Go.RowKit
theorem dg_chkT {s d t : Int} {b : List UInt8} (hs : 0 ≤ s ∧ s < 4294967296) (hd : 0 ≤ d ∧ d < 4294967296) (ht : 0 ≤ t ∧ t ≤ 255) (hb : b.length ≤ 50000) : chkU ⟨5, 6, false, b⟩ = 0 ∧ chk4 (dgE s d 5 6 t b) = 0 ∧ (dgE s d 5 6 t b).dat.length = 8 + b.length := by
  have hl : (dgE s d 5 6 t b).dat.length = 8 + b.length := by show (bldU _ _ _).length = _; rw [bldU_len]
  have h0 : arg4 (dgE s d 5 6 t b) := by
    refine ⟨?_, ?_, ht.1, ht.2, ?_, ?_, ?_, ?_, hs.1, hs.2, hd.1, hd.2, ?_, ?_, ?_, ?_, ?_, fun h => by cases h⟩ <;> simp [dgE]
  have hz : size4 (dgE s d 5 6 t b) = 20 + ((dgE s d 5 6 t b).dat.length : Int) := rfl
  have ho : (dgE s d 5 6 t b).off = 0 := rfl
  refine ⟨?_, ?_, hl⟩
  · rw [chkU, if_pos ⟨by show (0 : Int) ≤ 5; decide, by show (5 : Int) ≤ 65535; decide, by show (0 : Int) ≤ 6; decide, by show (6 : Int) ≤ 65535; decide⟩, if_neg]
    show ¬ (b.length > 65527)
    omega
  · rw [chk4, if_pos h0, if_neg]
    rintro (g | g) <;> omega
theorem dg_sent {s d t : Int} {b : List UInt8} (hs : 0 ≤ s ∧ s < 4294967296) (hd : 0 ≤ d ∧ d < 4294967296) (ht : 0 ≤ t ∧ t ≤ 255) (hb : b.length ≤ 50000) (hh : hostB s = true) : Sent (dgE s d 5 6 t b) := by
  obtain ⟨h1, h2, h3⟩ := dg_chkT hs hd ht hb
  exact ⟨h2, rfl, hh, by omega⟩
theorem st_one (m : Int) : (stl m).toArray.all (·.oneCell') = true := by simp [stl, ownQ, aftQ, row, Value.oneCell']
theorem st_store_new {ops : Array Oper} {rest : List Oper} {x y : Operand} {ty : TypeId} {pos : String} {af : Array Edge} {a : Act} {w : World} {Q : Exit → Act → World → Prop}
    {t : TypeId} {m : Int} {old : Array Value} (hx : a.eval x = .pointer (some ⟨w.heap.size, 0, none⟩)) (hy : a.eval y = stV m) (ho : old.size = 37)
    (h : wpList Tryz.prog ops Q rest (a.put none undef) (w.alloc (.cells (stl m).toArray t))) : wpList Tryz.prog ops Q (⟨none, .store 27 x y, ty, pos, af, none⟩ :: rest) a (w.alloc (.cells old t)) :=
  wpList_plain rfl fun _ hK => wp_store_row 27 x y rfl w.heap.size (stl m).toArray hx hy t old (World.alloc_heap_new w _) (by rw [List.size_toArray, stl_len]; kernel_rfl) (by rw [ho, List.size_toArray, stl_len])
    (st_one m) (hK _ _ (by rw [World.setRow_alloc_new]; exact h))
theorem st_result {fn : Func} {p : Tmp} {tmps : Array Value} {w : World} {g : Nat} {t : TypeId} {m : Int} {fr : Nat × Nat} (h : fn.results = #[.cell p 27])
    (hp : tmps.getD p undef = .pointer (some ⟨g, 0, none⟩)) (hg : w.heap[g]? = some (.cells (stl m).toArray t fr)) : (results fn tmps).run Tryz.prog w = .ok (stV m) w :=
  results_cell_row h tmps w g t (stl m).toArray fr _ hp hg Tryz.underlying27 rfl (by rw [List.size_toArray, stl_len]; kernel_rfl)
theorem run_build_own {o : Oper} {a : Act} {w : World} {x y : Operand} (ho : o.op = .build 25 #[(0, x), (1, y)]) (hx : a.eval x = .int .u8 32) (hy : a.eval y = .int .u8 2) : (execOp a.eval o).run Tryz.prog w = .ok (.value (.agg (cel ownQ))) w := by
  have e : (Array.map (fun y : Nat × Operand => (y.1, a.eval y.2)) #[(0, x), (1, y)]) = #[(0, .int .u8 32), (1, .int .u8 2)] := by simp [hx, hy]
  have hb : (Instr.build 25 #[(0, .int .u8 32), (1, .int .u8 2)]).run Tryz.prog w = .ok (.agg (cel ownQ)) w := by kernel_rfl
  unfold execOp
  simp only [ho, e, Sem.run_bind, hb]
  rfl
theorem run_build_aft {o : Oper} {a : Act} {w : World} {x y : Operand} (ho : o.op = .build 25 #[(0, x), (1, y)]) (hx : a.eval x = .int .u8 32) (hy : a.eval y = .int .u8 1) : (execOp a.eval o).run Tryz.prog w = .ok (.value (.agg (cel aftQ))) w := by
  have e : (Array.map (fun y : Nat × Operand => (y.1, a.eval y.2)) #[(0, x), (1, y)]) = #[(0, .int .u8 32), (1, .int .u8 1)] := by simp [hx, hy]
  have hb : (Instr.build 25 #[(0, .int .u8 32), (1, .int .u8 1)]).run Tryz.prog w = .ok (.agg (cel aftQ)) w := by kernel_rfl
  unfold execOp
  simp only [ho, e, Sem.run_bind, hb]
  rfl
theorem run_build_st {o : Oper} {a : Act} {w : World} {x y z1 z2 z3 z4 z5 : Operand} (ho : o.op = .build 27 #[(0, x), (1, y), (2, z1), (3, z2), (4, z3), (5, z4), (6, z5)]) (hx : a.eval x = .agg (cel ownQ)) (hy : a.eval y = .agg (cel aftQ))
    (h1 : a.eval z1 = .int .i64 1280) (h2 : a.eval z2 = .int .i64 64) (h3 : a.eval z3 = .int .i64 4) (h4 : a.eval z4 = .int .i64 10000) (h5 : a.eval z5 = .int .i64 60) : (execOp a.eval o).run Tryz.prog w = .ok (.value (stV 1280)) w := by
  have e : (Array.map (fun y : Nat × Operand => (y.1, a.eval y.2)) #[(0, x), (1, y), (2, z1), (3, z2), (4, z3), (5, z4), (6, z5)]) = #[(0, .agg (cel ownQ)), (1, .agg (cel aftQ)), (2, .int .i64 1280), (3, .int .i64 64), (4, .int .i64 4), (5, .int .i64 10000), (6, .int .i64 60)] := by simp [hx, hy, h1, h2, h3, h4, h5]
  have hb : (Instr.build 27 #[(0, .agg (cel ownQ)), (1, .agg (cel aftQ)), (2, .int .i64 1280), (3, .int .i64 64), (4, .int .i64 4), (5, .int .i64 10000), (6, .int .i64 60)]).run Tryz.prog w = .ok (stV 1280) w := by kernel_rfl
  unfold execOp
  simp only [ho, e, Sem.run_bind, hb]
  rfl
set_option maxRecDepth 100000 in
set_option maxHeartbeats 4000000 in
theorem bset (w : World) : Calls Tryz.prog 7 #[] w fun e w' => e = .returned (stV 1280) ∧ Below w.heap.size w w' := by
  go_enter Tryz.func7, Tryz.ntmps7
  go_wp2_with (first
    | ((with_reducible show wpList _ _ _ (Oper.mk (some 1) (Op.build 25 _) _ _ _ _ :: _) _ _); refine wpList_val rfl (run_build_own rfl rfl rfl) ?_)
    | ((with_reducible show wpList _ _ _ (Oper.mk (some 2) (Op.build 25 _) _ _ _ _ :: _) _ _); refine wpList_val rfl (run_build_aft rfl rfl rfl) ?_)
    | ((with_reducible show wpList _ _ _ (Oper.mk (some 3) (Op.build 27 _) _ _ _ _ :: _) _ _); refine wpList_val rfl (run_build_st rfl rfl rfl rfl rfl rfl rfl rfl) ?_)
    | ((with_reducible show wpList _ _ _ (Oper.mk _ (Op.store 27 _ _) _ _ _ _ :: _) _ _); refine st_store_new (m := 1280) rfl rfl rfl ?_))
  exact bodyPost_ret (st_result rfl rfl (World.alloc_heap_new w _)) rfl ⟨rfl, (Below.refl _ w).alloc (Nat.le_refl _) _⟩
theorem ex_mk2 : mkE 3221225474 11 0 0 exE = 0 ∧ chk4 (mkV 3221225474 11 0 0 exE) = 0 ∧ (mkV 3221225474 11 0 0 exE).dat.length ≤ 1000000 := by
  have h := may_mk (a := 3221225474) (k := 11) (c := 0) ex_may (by decide) (by decide) (by decide) (by decide) (by decide) (by decide)
  have h2 := (once_may h (by decide)).1
  refine ⟨h, h2, ?_⟩
  obtain ⟨_, _, h3⟩ := chk4_zero h2
  unfold size4 head4 at h3
  omega
theorem RowY.shape {W : World} {base : Nat} {v : Value} {l : List YB} (h : RowY W base v l) : ∃ A c, v = .slice A l.length c ∧ RdS clY 1 W W.heap.size A l ∧ l.length ≤ c := own_rds (cl := clY) h.1 rfl rfl (fun _ _ => rfl)
def q9 : P4 := dgE 167772161 3221225985 5 6 9 []
def q1 : P4 := dgE 167772161 3221225985 5 6 1 []
theorem q9_cut {id : Int} : ((cutB 1280 id (wrV ownQ aftQ 64 (bld4 { q9 with ttl := q9.ttl - 1 }))).map bld6).length = 1 := by
  have hq : Sent q9 := dg_sent (by decide) (by decide) (by decide) (by decide) (by decide)
  have hq' := hq.hop (by decide)
  have hl := hq'.bl
  have hd : ({ q9 with ttl := q9.ttl - 1 } : P4).dat.length = 8 := by show (bldU _ _ _).length = _; rw [bldU_len]; rfl
  rw [wrV_ok (wr_chk (by decide) (by decide) (by rw [hl, hd]; decide)), cutB, if_pos]
  · rfl
  · show 40 + ((bld4 _).length : Int) ≤ 1280
    rw [hl, hd]; decide
set_option maxRecDepth 100000 in
set_option maxHeartbeats 4000000 in
theorem awake32 (w : World) : Calls Tryz.prog 6 #[] w fun e w' => e = .returned (.bool true) ∧ Below w.heap.size w w' := by
  have s9 := Lib.hid (dg_sent (s := 167772161) (d := 3221225985) (t := 9) (b := []) (by decide) (by decide) (by decide) (by decide) (by decide))
  have s1 := Lib.hid (dg_sent (s := 167772161) (d := 3221225985) (t := 1) (b := []) (by decide) (by decide) (by decide) (by decide) (by decide))
  have hu : chkU ⟨5, 6, false, []⟩ = 0 := ex_uchk
  have HU := Lib.hid hu
  have hN : ∀ V : World, Arg V V.heap.size none 0 [] := fun V => Arg.nil _ _
  have HNL := Lib.hid hN
  have HC9 := Lib.hid (fun id => q9_cut (id := id))
  clear hu hN
  go_enter Tryz.func6, Tryz.ntmps6
  go_upto_region 4 with (first
    | (go_at_call 7; refine (bset w).mono ?_; rintro e w1 ⟨rfl, x1⟩)
    | (go_at_call 8; refine (bfnew 1280 (by decide) w1).mono ?_; rintro e w2 ⟨x, t, k, rfl, f2, x2⟩))
  have b2 := x1.trans (x2.mono x1.size)
  have HF2 := Lib.hid f2
  have hB0 := x1.size
  clear f2
  go_upto_region 5 with (first
    | (go_at_call 9; refine (plain_dgE 167772161 3221225985 5 6 9 [] none 0 w2 w2.heap.size (HNL.out w2) (Nat.le_refl _) (by decide) HU.out s9.out.chk).mono ?_; rintro e w3 ⟨P3, p3, rfl, m3⟩)
    | (go_at_call 10; obtain ⟨_, _, e3, g3, _, x3⟩ := made_shape m3; cases e3; refine (bhost (HF2.out.below x3) (by decide) (dgE 167772161 3221225985 5 6 9 []) P3 p3 g3 s9.out (by decide) (by decide) (by decide) (by decide)).mono ?_; rintro e w4 ⟨v4, l4, he, r4, q4, k4, id4, hid4, f4⟩; obtain rfl := he.out; clear he))
  have hl4 : l4.length = 1 := by
    have := congrArg List.length q4.out
    rw [List.length_map] at this
    exact this.trans (HC9.out 1)
  obtain ⟨A4, c4, ev4, _, _⟩ := r4.shape
  rw [hl4] at ev4
  subst ev4
  have b4 := b2.trans ((x3.mono b2.size).trans (k4.below (Nat.le_trans hB0 HF2.out.bx) (Nat.le_trans hB0 HF2.out.bk) (Nat.le_trans b2.size x3.size)))
  have HF4 := Lib.hid f4
  clear f4 r4 q4 k4 hl4 m3 g3 x3
  go_upto_region 6 with (first
    | (go_at_call 9; refine (plain_dgE 167772161 3221225985 5 6 1 [] none 0 w4 w4.heap.size (HNL.out w4) (Nat.le_refl _) (by decide) HU.out s1.out.chk).mono ?_; rintro e w5 ⟨P5, p5, rfl, m5⟩)
    | (go_at_call 10; obtain ⟨_, _, e5, g5, _, x5⟩ := made_shape m5; cases e5; refine (bhost_over (HF4.out.below x5) (by decide) (dgE 167772161 3221225985 5 6 1 []) P5 p5 g5 s1.out (by decide) (by decide) ex_mk2.1 ex_mk2.2.1 ex_mk2.2.2).mono ?_; rintro e w6 ⟨g6, rfl, k6⟩))
  have b6 := b4.trans ((x5.mono b4.size).trans (k6.below (Nat.le_trans hB0 HF2.out.bx) (Nat.le_trans hB0 HF2.out.bk) (Nat.le_trans b4.size x5.size)))
  go_wp2_with (go_at_call 21; refine (baddr _).mono ?_; rintro e w7 ⟨rfl, rfl⟩)
  go_ret
  exact ⟨rfl, b6⟩
end Go.Proofs.YtpoigngpdcmipaaGreat
namespace Go.Proofs.YtpoigngpdcmipaaGreat
open Go.RowKit
theorem prs6_bld {p : P6} (hs : p.src.length = 16) (hd : p.dst.length = 16) (h : chk6 p = 0) : prs6 (bld6 p) false = p ∧ bad6 (bld6 p) false = 0 := by
  have := back6 p [] hs hd h
  rw [List.append_nil] at this
  exact ⟨by rw [prs6, if_pos this.1, this.2], this.1⟩
end Go.Proofs.YtpoigngpdcmipaaGreat
namespace Go.Proofs.YtpoigngpdcmipaaGreat
open Go.RowKit
def pcOf (p : P6) : Pc := ⟨(prtF p).off, (prtF p).more, prtB p⟩
theorem rst_chain {q : P6} {id mtu : Int} (h : Cut6 q id mtu) : ∀ (f off : Nat), q.dat.length < f + off → off ≤ q.dat.length → off % 8 = 0 → (off = q.dat.length → off = 0) → Chain q.dat off ((rst6 q id mtu off).map pcOf)
  | 0, off, h1, h2, _, _ => by omega
  | f + 1, off, h1, h2, h3, h4 => by
    have hs := st6_bd h.lo
    by_cases hc : (q.dat.length : Int) - (off : Int) > mtu - 48
    · obtain ⟨p1, p2, p3, p4⟩ := prt_one h (n := (st6 mtu).toNat) true h2 h3
      rw [rst6_more h.lo hc, List.map_cons]
      have e : pcOf (one6 q id off (st6 mtu).toNat true) = ⟨(off : Int), true, (q.dat.drop off).take (st6 mtu).toNat⟩ := by rw [pcOf, p1, p2]; rfl
      rw [e]
      exact Chain.more (by omega) (by omega) (by omega) (rst_chain h f (off + (st6 mtu).toNat) (by omega) (by omega) (by omega) (by omega))
    · obtain ⟨p1, p2, p3, p4⟩ := prt_one h (n := q.dat.length - off) false h2 h3
      rw [rst6_last hc, List.map_cons, List.map_nil]
      have e : pcOf (one6 q id off (q.dat.length - off) false) = ⟨(off : Int), false, q.dat.drop off⟩ := by
        rw [pcOf, p1, p2, List.take_of_length_le (by simp)]; rfl
      rw [e]
      exact Chain.last h2 h4
theorem Chain.zero {b : List UInt8} {l : List Pc} (h : Chain b 0 l) : ∃ x ∈ l, x.off = 0 := by
  cases h with
  | last h he => exact ⟨_, List.mem_cons_self .., rfl⟩
  | more hn h8 hk h => exact ⟨_, List.mem_cons_self .., rfl⟩
theorem Chain.nodup {b : List UInt8} {l : List Pc} (h : Chain b 0 l) : l.Nodup := by
  have := h.facts.2.2.2.2
  refine this.imp ?_
  rintro x y ⟨_, _, h3⟩ rfl
  omega
def hasO (s : List Pc) : Bool := s.any fun x => decide (x.off = 0)
def tblG (K : List UInt8) (s : List Pc) : List Bf := if s = [] then [] else [⟨K, 0, s, if hasO s then [4] else [], hasO s⟩]
theorem up_tbl (K : List UInt8) (s : List Pc) (p : Pc) (h : addL s p = s ++ [p]) : upJ ⟨K, 0, s, if hasO s then [4] else [], hasO s⟩ p [4] = ⟨K, 0, s ++ [p], if hasO (s ++ [p]) then [4] else [], hasO (s ++ [p])⟩ := by
  have e : hasO (s ++ [p]) = (hasO s || decide (p.off = 0)) := by simp [hasO]
  rw [upJ, h, e]
  by_cases h0 : p.off = 0 <;> cases hasO s <;> simp [h0]
theorem done_not {b : List UInt8} {l s r : List Pc} (h : Chain b 0 l) (hb : 0 < b.length) (hp : l.Perm (s ++ r)) (hr : r ≠ []) : doneB s = false := by
  obtain ⟨f1, f2, f3, f4, f5⟩ := h.facts
  have hmem : ∀ x ∈ s, x ∈ l := fun x hx => hp.mem_iff.2 (List.mem_append_left _ hx)
  have hby : bytesP s + bytesP r = (b.length : Int) := by
    have h1 := bytesP_perm hp
    have h2 : ∀ a c : List Pc, bytesP (a ++ c) = bytesP a + bytesP c := fun a c => by
      induction a with
      | nil => simp [bytesP]
      | cons x a ih => rw [List.cons_append, bytesP, bytesP, ih]; omega
    rw [h2, f2] at h1
    omega
  have hrp : 0 < bytesP r := by
    cases r with
    | nil => exact absurd rfl hr
    | cons x r =>
      have h1 := (f1 x (hp.mem_iff.2 (List.mem_append_right _ (List.mem_cons_self ..)))).2.2.2.2.2 hb
      have h2 := bytesP_nn r
      rw [bytesP]; omega
  unfold doneB
  rcases endP_cases s with h0 | ⟨y, hy, h1, h2⟩
  · rw [h0]; simp
  · have h3 := (f1 y (hmem y hy)).2.2.2.2.1 h1
    rw [h2, h3]
    have : ¬ bytesP s = (b.length : Int) := by omega
    simp [this]
theorem addJ_step {K b : List UInt8} {l s r : List Pc} {p : Pc} (h : Chain b 0 l) (hb : 0 < b.length) (hbl : b.length ≤ 9000) (hp : l.Perm (s ++ p :: r)) :
    addJ 4 10000 (tblG K s) K p [4] 0 = if r = [] then ([], [4], b, true, 0) else (tblG K (s ++ [p]), [], [], false, 0) := by
  obtain ⟨f1, f2, f3, f4, f5⟩ := h.facts
  have hnd := hp.nodup_iff.1 h.nodup
  have hps : p ∉ s := by
    rw [List.nodup_append] at hnd
    exact fun hm => hnd.2.2 p hm p (List.mem_cons_self ..) rfl
  have hs : ∀ x ∈ s, x ∈ l := fun x hx => hp.mem_iff.2 (List.mem_append_left _ hx)
  have hpl : p ∈ l := hp.mem_iff.2 (List.mem_append_right _ (List.mem_cons_self ..))
  obtain ⟨a1, a2⟩ := order_add h (by omega) hs hpl
  rw [if_neg hps] at a2
  have hby : bytesP s + p.len ≤ (b.length : Int) := by
    have h1 := bytesP_perm hp
    have h2 : ∀ a c : List Pc, bytesP (a ++ c) = bytesP a + bytesP c := fun a c => by
      induction a with
      | nil => simp [bytesP]
      | cons x a ih => rw [List.cons_append, bytesP, bytesP, ih]; omega
    rw [h2, bytesP, f2] at h1
    have := bytesP_nn r
    omega
  have hroom : roomP s p.off p.b ≤ p.len := by
    unfold roomP
    split
    · have : p.len = (p.b.length : Int) := rfl; omega
    · exact Int.le_refl _
  have hput : ∀ (t0 t : List Bf) (k : Nat), bytesJ t = bytesP s → putJ 10000 t0 t k ⟨K, 0, s, if hasO s then [4] else [], hasO s⟩ p [4] =
      if r = [] then (t.eraseIdx k, [4], b, true, 0) else (t.set k ⟨K, 0, s ++ [p], if hasO (s ++ [p]) then [4] else [], hasO (s ++ [p])⟩, [], [], false, 0) := fun t0 t k ht => by
    rw [putJ, if_neg (by show ¬ bytesJ t + roomP s p.off p.b > 10000; rw [ht]; omega), if_neg (by show ¬ addE s p ≠ 0; rw [a1]; simp), up_tbl K s p a2]
    by_cases hr : r = []
    · subst hr
      have hpe : List.Perm (s ++ [p]) l := hp.symm
      obtain ⟨d1, d2⟩ := order_done h hpe
      have hh : hasO (s ++ [p]) = true := by
        obtain ⟨x, hx, hx0⟩ := h.zero
        rw [hasO, List.any_eq_true]
        exact ⟨x, hpe.mem_iff.2 hx, decide_eq_true hx0⟩
      rw [if_pos (show doneB (s ++ [p]) = true from d1), if_pos rfl, hh]
      show (_, _, doneP (s ++ [p]), _, _) = _
      rw [d2]; rfl
    · have hn := done_not (s := s ++ [p]) (r := r) h hb (by rw [List.append_assoc]; exact hp) hr
      rw [if_neg (by show ¬ doneB (s ++ [p]) = true; rw [hn]; simp), if_neg hr]
  unfold addJ
  by_cases h0 : s = []
  · subst h0
    have e1 : tblG K [] = [] := rfl
    rw [e1]
    show (if ((([] : List Bf).length : Nat) : Int) ≥ 4 then _ else _) = _
    rw [if_neg (by decide)]
    have e2 : newJ K 0 = ⟨K, 0, [], if hasO [] then [4] else [], hasO []⟩ := rfl
    rw [e2]
    refine (hput [] [⟨K, 0, [], if hasO [] then [4] else [], hasO []⟩] 0 rfl).trans ?_
    split
    · rfl
    · rfl
  · have e1 : tblG K s = [⟨K, 0, s, if hasO s then [4] else [], hasO s⟩] := by rw [tblG, if_neg h0]
    have e3 : tblG K (s ++ [p]) = [⟨K, 0, s ++ [p], if hasO (s ++ [p]) then [4] else [], hasO (s ++ [p])⟩] := by rw [tblG, if_neg (by simp)]
    rw [e1, e3]
    have e2 : findJ [⟨K, 0, s, if hasO s then [4] else [], hasO s⟩] K = 0 := by simp [findJ]
    rw [e2]
    show putJ 10000 _ _ 0 _ p [4] = _
    rw [hput _ _ 0 (by simp [bytesJ])]
    split
    · rfl
    · rfl
end Go.Proofs.YtpoigngpdcmipaaGreat
