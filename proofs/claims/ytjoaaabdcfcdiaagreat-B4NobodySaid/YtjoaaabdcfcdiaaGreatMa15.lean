/-
  Contracts and lemmas on which the proofs of this seat stand (several texts in one). Conditions are each theorem's own.
-/
import Derived.Test.YtjoaaabdcfcdiaaGreatMa14

/-
  Layer 32: the laws' settings, the layer's own small example, and what an element that no call made answers. Conditions are each theorem's own.
-/
namespace Go.Proofs.YtjoaaabdcfcdiaaGreat
open Go.RowKit
theorem dg_chkT {s d t : Int} {b : List UInt8} (hs : 0 ≤ s ∧ s < 4294967296) (hd : 0 ≤ d ∧ d < 4294967296) (ht : 0 ≤ t ∧ t ≤ 255) (hb : b.length ≤ 50000) : chkU ⟨5, 6, false, b⟩ = 0 ∧ chk4 (dgE s d 5 6 t b) = 0 ∧ (dgE s d 5 6 t b).dat.length = 8 + b.length := by
  have hl : (dgE s d 5 6 t b).dat.length = 8 + b.length := by show (bldU _ _ _).length = _; rw [bldU_len]
  have h0 : arg4 (dgE s d 5 6 t b) := by
    refine ⟨?_, ?_, ht.1, ht.2, ?_, ?_, ?_, ?_, hs.1, hs.2, hd.1, hd.2, ?_, ?_, ?_, ?_, ?_, fun h => by cases h⟩ <;> simp [dgE]
  have hz : size4 (dgE s d 5 6 t b) = 20 + ((dgE s d 5 6 t b).dat.length : Int) := rfl
  have ho : (dgE s d 5 6 t b).off = 0 := rfl
  refine ⟨?_, ?_, hl⟩
  · rw [chkU, if_pos ⟨by show (0 : Int) ≤ 5; decide, by show (5 : Int) ≤ 65535; decide, by show (0 : Int) ≤ 6; decide, by show (6 : Int) ≤ 65535; decide⟩, if_neg]
    show ¬ (b.length > 65527)
    omega
  · rw [chk4, if_pos h0, if_neg]
    rintro (g | g) <;> omega
theorem dg_sent {s d t : Int} {b : List UInt8} (hs : 0 ≤ s ∧ s < 4294967296) (hd : 0 ≤ d ∧ d < 4294967296) (ht : 0 ≤ t ∧ t ≤ 255) (hb : b.length ≤ 50000) (hh : hostB s = true) : Sent (dgE s d 5 6 t b) := by
  obtain ⟨h1, h2, h3⟩ := dg_chkT hs hd ht hb
  exact ⟨h2, rfl, hh, by omega⟩
theorem st_one (m : Int) : (stl m).toArray.all (·.oneCell') = true := by simp [stl, ownQ, aftQ, row, Value.oneCell']
theorem st_store_new {ops : Array Oper} {rest : List Oper} {x y : Operand} {ty : TypeId} {pos : String} {af : Array Edge} {a : Act} {w : World} {Q : Exit → Act → World → Prop}
    {t : TypeId} {m : Int} {old : Array Value} (hx : a.eval x = .pointer (some ⟨w.heap.size, 0, none⟩)) (hy : a.eval y = stV m) (ho : old.size = 37)
    (h : wpList Tryz.prog ops Q rest (a.put none undef) (w.alloc (.cells (stl m).toArray t))) : wpList Tryz.prog ops Q (⟨none, .store 27 x y, ty, pos, af, none⟩ :: rest) a (w.alloc (.cells old t)) :=
  wpList_plain rfl fun _ hK => wp_store_row 27 x y rfl w.heap.size (stl m).toArray hx hy t old (World.alloc_heap_new w _) (by rw [List.size_toArray, stl_len]; kernel_rfl) (by rw [ho, List.size_toArray, stl_len])
    (st_one m) (hK _ _ (by rw [World.setRow_alloc_new]; exact h))
theorem st_result {fn : Func} {p : Tmp} {tmps : Array Value} {w : World} {g : Nat} {t : TypeId} {m : Int} {fr : Nat × Nat} (h : fn.results = #[.cell p 27])
    (hp : tmps.getD p undef = .pointer (some ⟨g, 0, none⟩)) (hg : w.heap[g]? = some (.cells (stl m).toArray t fr)) : (results fn tmps).run Tryz.prog w = .ok (stV m) w :=
  results_cell_row h tmps w g t (stl m).toArray fr _ hp hg Tryz.underlying27 rfl (by rw [List.size_toArray, stl_len]; kernel_rfl)
theorem run_build_own {o : Oper} {a : Act} {w : World} {x y : Operand} (ho : o.op = .build 25 #[(0, x), (1, y)]) (hx : a.eval x = .int .u8 32) (hy : a.eval y = .int .u8 2) : (execOp a.eval o).run Tryz.prog w = .ok (.value (.agg (cel ownQ))) w := by
  have e : (Array.map (fun y : Nat × Operand => (y.1, a.eval y.2)) #[(0, x), (1, y)]) = #[(0, .int .u8 32), (1, .int .u8 2)] := by simp [hx, hy]
  have hb : (Instr.build 25 #[(0, .int .u8 32), (1, .int .u8 2)]).run Tryz.prog w = .ok (.agg (cel ownQ)) w := by kernel_rfl
  unfold execOp
  simp only [ho, e, Sem.run_bind, hb]
  rfl
theorem run_build_aft {o : Oper} {a : Act} {w : World} {x y : Operand} (ho : o.op = .build 25 #[(0, x), (1, y)]) (hx : a.eval x = .int .u8 32) (hy : a.eval y = .int .u8 1) : (execOp a.eval o).run Tryz.prog w = .ok (.value (.agg (cel aftQ))) w := by
  have e : (Array.map (fun y : Nat × Operand => (y.1, a.eval y.2)) #[(0, x), (1, y)]) = #[(0, .int .u8 32), (1, .int .u8 1)] := by simp [hx, hy]
  have hb : (Instr.build 25 #[(0, .int .u8 32), (1, .int .u8 1)]).run Tryz.prog w = .ok (.agg (cel aftQ)) w := by kernel_rfl
  unfold execOp
  simp only [ho, e, Sem.run_bind, hb]
  rfl
theorem run_build_st {o : Oper} {a : Act} {w : World} {x y z1 z2 z3 z4 z5 : Operand} (ho : o.op = .build 27 #[(0, x), (1, y), (2, z1), (3, z2), (4, z3), (5, z4), (6, z5)]) (hx : a.eval x = .agg (cel ownQ)) (hy : a.eval y = .agg (cel aftQ))
    (h1 : a.eval z1 = .int .i64 1280) (h2 : a.eval z2 = .int .i64 64) (h3 : a.eval z3 = .int .i64 4) (h4 : a.eval z4 = .int .i64 10000) (h5 : a.eval z5 = .int .i64 60) : (execOp a.eval o).run Tryz.prog w = .ok (.value (stV 1280)) w := by
  have e : (Array.map (fun y : Nat × Operand => (y.1, a.eval y.2)) #[(0, x), (1, y), (2, z1), (3, z2), (4, z3), (5, z4), (6, z5)]) = #[(0, .agg (cel ownQ)), (1, .agg (cel aftQ)), (2, .int .i64 1280), (3, .int .i64 64), (4, .int .i64 4), (5, .int .i64 10000), (6, .int .i64 60)] := by simp [hx, hy, h1, h2, h3, h4, h5]
  have hb : (Instr.build 27 #[(0, .agg (cel ownQ)), (1, .agg (cel aftQ)), (2, .int .i64 1280), (3, .int .i64 64), (4, .int .i64 4), (5, .int .i64 10000), (6, .int .i64 60)]).run Tryz.prog w = .ok (stV 1280) w := by kernel_rfl
  unfold execOp
  simp only [ho, e, Sem.run_bind, hb]
  rfl
set_option maxRecDepth 100000 in
set_option maxHeartbeats 4000000 in
theorem bset (w : World) : Calls Tryz.prog 7 #[] w fun e w' => e = .returned (stV 1280) ∧ Below w.heap.size w w' := by
  go_enter Tryz.func7, Tryz.ntmps7
  go_wp2_with (first
    | ((with_reducible show wpList _ _ _ (Oper.mk (some 1) (Op.build 25 _) _ _ _ _ :: _) _ _); refine wpList_val rfl (run_build_own rfl rfl rfl) ?_)
    | ((with_reducible show wpList _ _ _ (Oper.mk (some 2) (Op.build 25 _) _ _ _ _ :: _) _ _); refine wpList_val rfl (run_build_aft rfl rfl rfl) ?_)
    | ((with_reducible show wpList _ _ _ (Oper.mk (some 3) (Op.build 27 _) _ _ _ _ :: _) _ _); refine wpList_val rfl (run_build_st rfl rfl rfl rfl rfl rfl rfl rfl) ?_)
    | ((with_reducible show wpList _ _ _ (Oper.mk _ (Op.store 27 _ _) _ _ _ _ :: _) _ _); refine st_store_new (m := 1280) rfl rfl rfl ?_))
  exact bodyPost_ret (st_result rfl rfl (World.alloc_heap_new w _)) rfl ⟨rfl, (Below.refl _ w).alloc (Nat.le_refl _) _⟩
theorem ex_mk2 : mkE 3221225474 11 0 0 exE = 0 ∧ chk4 (mkV 3221225474 11 0 0 exE) = 0 ∧ (mkV 3221225474 11 0 0 exE).dat.length ≤ 1000000 := by
  have h := may_mk (a := 3221225474) (k := 11) (c := 0) ex_may (by decide) (by decide) (by decide) (by decide) (by decide) (by decide)
  have h2 := (once_may h (by decide)).1
  refine ⟨h, h2, ?_⟩
  obtain ⟨_, _, h3⟩ := chk4_zero h2
  unfold size4 head4 at h3
  omega
theorem RowY.shape {W : World} {base : Nat} {v : Value} {l : List YB} (h : RowY W base v l) : ∃ A c, v = .slice A l.length c ∧ RdS clY 1 W W.heap.size A l ∧ l.length ≤ c := own_rds (cl := clY) h.1 rfl rfl (fun _ _ => rfl)
def q9 : P4 := dgE 167772161 3221225985 5 6 9 []
def q1 : P4 := dgE 167772161 3221225985 5 6 1 []
theorem q9_cut {id : Int} : ((cutB 1280 id (wrV ownQ aftQ 64 (bld4 { q9 with ttl := q9.ttl - 1 }))).map bld6).length = 1 := by
  have hq : Sent q9 := dg_sent (by decide) (by decide) (by decide) (by decide) (by decide)
  have hq' := hq.hop (by decide)
  have hl := hq'.bl
  have hd : ({ q9 with ttl := q9.ttl - 1 } : P4).dat.length = 8 := by show (bldU _ _ _).length = _; rw [bldU_len]; rfl
  rw [wrV_ok (wr_chk (by decide) (by decide) (by rw [hl, hd]; decide)), cutB, if_pos]
  · rfl
  · show 40 + ((bld4 _).length : Int) ≤ 1280
    rw [hl, hd]; decide
set_option maxRecDepth 100000 in
set_option maxHeartbeats 4000000 in
theorem awake32 (w : World) : Calls Tryz.prog 6 #[] w fun e w' => e = .returned (.bool true) ∧ Below w.heap.size w w' := by
  have s9 := Lib.hid (dg_sent (s := 167772161) (d := 3221225985) (t := 9) (b := []) (by decide) (by decide) (by decide) (by decide) (by decide))
  have s1 := Lib.hid (dg_sent (s := 167772161) (d := 3221225985) (t := 1) (b := []) (by decide) (by decide) (by decide) (by decide) (by decide))
  have hu : chkU ⟨5, 6, false, []⟩ = 0 := ex_uchk
  have HU := Lib.hid hu
  have hN : ∀ V : World, Arg V V.heap.size none 0 [] := fun V => Arg.nil _ _
  have HNL := Lib.hid hN
  have HC9 := Lib.hid (fun id => q9_cut (id := id))
  clear hu hN
  go_enter Tryz.func6, Tryz.ntmps6
  go_upto_region 4 with (first
    | (go_at_call 7; refine (bset w).mono ?_; rintro e w1 ⟨rfl, x1⟩)
    | (go_at_call 8; refine (bfnew 1280 (by decide) w1).mono ?_; rintro e w2 ⟨x, t, k, rfl, f2, x2⟩))
  have b2 := x1.trans (x2.mono x1.size)
  have HF2 := Lib.hid f2
  have hB0 := x1.size
  clear f2
  go_upto_region 5 with (first
    | (go_at_call 9; refine (plain_dgE 167772161 3221225985 5 6 9 [] none 0 w2 w2.heap.size (HNL.out w2) (Nat.le_refl _) (by decide) HU.out s9.out.chk).mono ?_; rintro e w3 ⟨P3, p3, rfl, m3⟩)
    | (go_at_call 10; obtain ⟨_, _, e3, g3, _, x3⟩ := made_shape m3; cases e3; refine (bhost (HF2.out.below x3) (by decide) (dgE 167772161 3221225985 5 6 9 []) P3 p3 g3 s9.out (by decide) (by decide) (by decide) (by decide)).mono ?_; rintro e w4 ⟨v4, l4, he, r4, q4, k4, id4, hid4, f4⟩; obtain rfl := he.out; clear he))
  have hl4 : l4.length = 1 := by
    have := congrArg List.length q4.out
    rw [List.length_map] at this
    exact this.trans (HC9.out 1)
  obtain ⟨A4, c4, ev4, _, _⟩ := r4.shape
  rw [hl4] at ev4
  subst ev4
  have b4 := b2.trans ((x3.mono b2.size).trans (k4.below (Nat.le_trans hB0 HF2.out.bx) (Nat.le_trans hB0 HF2.out.bk) (Nat.le_trans b2.size x3.size)))
  have HF4 := Lib.hid f4
  clear f4 r4 q4 k4 hl4 m3 g3 x3
  go_upto_region 6 with (first
    | (go_at_call 9; refine (plain_dgE 167772161 3221225985 5 6 1 [] none 0 w4 w4.heap.size (HNL.out w4) (Nat.le_refl _) (by decide) HU.out s1.out.chk).mono ?_; rintro e w5 ⟨P5, p5, rfl, m5⟩)
    | (go_at_call 10; obtain ⟨_, _, e5, g5, _, x5⟩ := made_shape m5; cases e5; refine (bhost_over (HF4.out.below x5) (by decide) (dgE 167772161 3221225985 5 6 1 []) P5 p5 g5 s1.out (by decide) (by decide) ex_mk2.1 ex_mk2.2.1 ex_mk2.2.2).mono ?_; rintro e w6 ⟨g6, rfl, k6⟩))
  have b6 := b4.trans ((x5.mono b4.size).trans (k6.below (Nat.le_trans hB0 HF2.out.bx) (Nat.le_trans hB0 HF2.out.bk) (Nat.le_trans b4.size x5.size)))
  go_wp2_with (go_at_call 21; refine (baddr _).mono ?_; rintro e w7 ⟨rfl, rfl⟩)
  go_ret
  exact ⟨rfl, b6⟩
set_option maxRecDepth 100000 in
theorem bmade_nil {w : World} : Calls Tryz.prog 27 #[.pointer none] w fun e w' => e = .returned (.bool false) ∧ w = w' := by
  go_enter Tryz.func27, Tryz.ntmps27
  go_wp2
  go_ret
  exact ⟨rfl, rfl⟩
set_option maxRecDepth 100000 in
theorem bHost_nil {w : World} (A : Option Addr) (n c : Nat) : Calls Tryz.prog 10 #[.pointer none, .slice A n c] w fun e w' => e = .returned (.tuple #[.slice none 0 0, .slice none 0 0, .int .i64 1]) ∧ w = w' := by
  have HK := Lib.hid (bmade_nil (w := w))
  go_enter Tryz.func10, Tryz.ntmps10
  go_wp2_with (go_at_call 27; refine HK.out.mono ?_; rintro e w1 ⟨rfl, rfl⟩)
  exact bodyPost_ret (results_tmp3 rfl _ _ _) rfl ⟨rfl, rfl⟩
set_option maxRecDepth 100000 in
theorem bCounts_nil {w : World} : Calls Tryz.prog 19 #[.pointer none] w fun e w' => e = .returned (.slice none 0 0) ∧ w = w' := by
  have HK := Lib.hid (bmade_nil (w := w))
  go_enter Tryz.func19, Tryz.ntmps19
  go_wp2_with (go_at_call 27; refine HK.out.mono ?_; rintro e w1 ⟨rfl, rfl⟩)
  go_ret
  exact ⟨rfl, rfl⟩
set_option maxRecDepth 100000 in
theorem bAdvance_nil {w : World} (a : Int) : Calls Tryz.prog 18 #[.pointer none, .int .i64 a] w fun e w' => e = .returned (.tuple #[]) ∧ w = w' := by
  have HK := Lib.hid (bmade_nil (w := w))
  go_enter Tryz.func18, Tryz.ntmps18
  go_wp2_with (go_at_call 27; refine HK.out.mono ?_; rintro e w1 ⟨rfl, rfl⟩)
  refine bodyPost_ret (results_none rfl _ _ _) rfl ⟨rfl, rfl⟩
set_option maxRecDepth 100000 in
theorem bmade_zero {w : World} {g : Nat} (k0 : w.cell? ⟨g, 37, none⟩ = some (.pointer none)) : Calls Tryz.prog 27 #[.pointer (some ⟨g, 0, none⟩)] w fun e w' => e = .returned (.bool false) ∧ w = w' := by
  go_enter Tryz.func27, Tryz.ntmps27
  go_wp2
  go_ret
  exact ⟨rfl, rfl⟩
set_option maxRecDepth 100000 in
theorem bTunnel_zero {w : World} {g : Nat} (k0 : w.cell? ⟨g, 37, none⟩ = some (.pointer none)) (A : Option Addr) (n c : Nat) : Calls Tryz.prog 17 #[.pointer (some ⟨g, 0, none⟩), .slice A n c] w fun e w' => e = .returned (.tuple #[.slice none 0 0, .slice none 0 0, .int .i64 1]) ∧ w = w' := by
  have HK := Lib.hid (bmade_zero k0)
  go_enter Tryz.func17, Tryz.ntmps17
  go_wp2_with (go_at_call 27; refine HK.out.mono ?_; rintro e w1 ⟨rfl, rfl⟩)
  exact bodyPost_ret (results_tmp3 rfl _ _ _) rfl ⟨rfl, rfl⟩
set_option maxRecDepth 100000 in
theorem bBytes_zero {w : World} {g : Nat} (k0 : w.cell? ⟨g, 37, none⟩ = some (.pointer none)) : Calls Tryz.prog 20 #[.pointer (some ⟨g, 0, none⟩)] w fun e w' => e = .returned (.int .i64 0) ∧ w = w' := by
  have HK := Lib.hid (bmade_zero k0)
  go_enter Tryz.func20, Tryz.ntmps20
  go_wp2_with (go_at_call 27; refine HK.out.mono ?_; rintro e w1 ⟨rfl, rfl⟩)
  go_ret
  exact ⟨rfl, rfl⟩
end Go.Proofs.YtjoaaabdcfcdiaaGreat

/-
  Layer 32: what the laws need of a packet that went into the softwire: it is parsed again; rows stay beside an element. Conditions are each theorem's own.
-/
namespace Go.Proofs.YtjoaaabdcfcdiaaGreat
open Go.RowKit
theorem prs6_bld {p : P6} (hs : p.src.length = 16) (hd : p.dst.length = 16) (h : chk6 p = 0) : prs6 (bld6 p) false = p ∧ bad6 (bld6 p) false = 0 := by
  have := back6 p [] hs hd h
  rw [List.append_nil] at this
  exact ⟨by rw [prs6, if_pos this.1, this.2], this.1⟩
theorem KB.own {B0 : Nat} {w w' : World} {x t bm k N : Nat} {m now id : Int} {S : List Bu} {T : List Bf} {L : List Int} (hf : Bf4 B0 w x t bm k m now id N S T L) (h : KB x k w w') {base e sz n : Nat} {v : Value} {xs : List Value} (ho : w.ownsRow base e sz v n xs) (he : ¬ T32 e) : w'.ownsRow base e sz v n xs := by
  refine own_keptA ho h (T := T32) (fun j hj cs ty fr hg => ?_) he
  rcases hj with rfl | rfl
  · exact away32 hf.obj (.inl rfl) _ rfl cs ty fr hg
  · exact away32 hf.cn.obj (.inr rfl) _ rfl cs ty fr hg
/-- What B4Sends sends, and what it finds. -/
structure SendOk (m : Int) (q r : P4) (P : P6) : Prop where
  sq : Sent q
  sr : Sent r
  eq : r = { q with ttl := q.ttl - 1 }
  one : 1 < q.ttl
  wf : (Lit.int .i64 q.ttl).wf = true
  pe : P = wrV ownQ aftQ 64 (bld4 r)
  src : P.src = ownQ
  dst : P.dst = aftQ
  hop : P.hop = 64
  all : ∀ id : Int, (0 ≤ id ∧ id < 4294967296) → (∀ p ∈ cutB m id P, CutOk m P p) ∧ (cutB m id P).flatMap pieceB = bld4 r
theorem send_ok {m T : Int} {b : List UInt8} (hm : 1280 ≤ m ∧ m ≤ 65535) (hT : 2 ≤ T ∧ T ≤ 255) (hb : b.length ≤ 4000) : ∃ q r P, q = dgE 167772161 3221225985 5 6 T b ∧ SendOk m q r P ∧ chkU ⟨5, 6, false, b⟩ = 0 := by
  have hq : Sent (dgE 167772161 3221225985 5 6 T b) := dg_sent (by decide) (by decide) (by omega) (by omega) (by decide)
  have h1 : 1 < (dgE 167772161 3221225985 5 6 T b).ttl := by show 1 < T; omega
  have hw : (Lit.int .i64 (dgE 167772161 3221225985 5 6 T b).ttl).wf = true := by
    show (Lit.int .i64 T).wf = true
    simp [Lit.wf, IntKind.min, IntKind.max, IntKind.bits, IntKind.signed]; omega
  have hu := (dg_chkT (s := 0) (d := 0) (t := 0) (b := b) (by decide) (by decide) (by decide) (by omega)).1
  obtain ⟨q, he⟩ : ∃ q, q = dgE 167772161 3221225985 5 6 T b := ⟨_, rfl⟩
  rw [← he] at hq h1 hw
  obtain ⟨r, hr0⟩ : ∃ r, r = ({ q with ttl := q.ttl - 1 } : P4) := ⟨_, rfl⟩
  have hr : Sent r := by rw [hr0]; exact hq.hop h1
  have hrl := hr.bl
  have hrd := hr.len
  have hc : chk6 (wrP ownQ aftQ 64 (bld4 r)) = 0 := wr_chk (by decide) (by decide) (by omega)
  refine ⟨q, r, wrP ownQ aftQ 64 (bld4 r), he, ⟨hq, hr, hr0, h1, hw, (wrV_ok hc).symm, rfl, rfl, rfl, fun id hid => ?_⟩, hu⟩
  obtain ⟨c1, c2, _⟩ := cutB_all hm hid hc rfl
  exact ⟨c1, c2⟩
end Go.Proofs.YtjoaaabdcfcdiaaGreat
