/-
  Contracts and lemmas on which the proofs of this seat stand (several texts in one). Conditions are each theorem's own.
-/
import Derived.Test.YtjoaaabdcfcdiaaGreatMb19
import Derived.Test.YtjoaaabdcfcdiaaGreatMb18
import Derived.Test.YtjoaaabdcfcdiaaGreatMb16
import Derived.Laws.IdiomStrings
namespace Go.Proofs.YtjoaaabdcfcdiaaGreat
open Go.RowKit
theorem dg_chkT {s d t : Int} {b : List UInt8} (hs : 0 ≤ s ∧ s < 4294967296) (hd : 0 ≤ d ∧ d < 4294967296) (ht : 0 ≤ t ∧ t ≤ 255) (hb : b.length ≤ 50000) : chkU ⟨5, 6, false, b⟩ = 0 ∧ chk4 (dgE s d 5 6 t b) = 0 ∧ (dgE s d 5 6 t b).dat.length = 8 + b.length := by
  have hl : (dgE s d 5 6 t b).dat.length = 8 + b.length := by show (bldU _ _ _).length = _; rw [bldU_len]
  have h0 : arg4 (dgE s d 5 6 t b) := by
    refine ⟨?_, ?_, ht.1, ht.2, ?_, ?_, ?_, ?_, hs.1, hs.2, hd.1, hd.2, ?_, ?_, ?_, ?_, ?_, fun h => by cases h⟩ <;> simp [dgE]
  have hz : size4 (dgE s d 5 6 t b) = 20 + ((dgE s d 5 6 t b).dat.length : Int) := rfl
  have ho : (dgE s d 5 6 t b).off = 0 := rfl
  refine ⟨?_, ?_, hl⟩
  · rw [chkU, if_pos ⟨by show (0 : Int) ≤ 5; decide, by show (5 : Int) ≤ 65535; decide, by show (0 : Int) ≤ 6; decide, by show (6 : Int) ≤ 65535; decide⟩, if_neg]
    show ¬ (b.length > 65527)
    omega
  · rw [chk4, if_pos h0, if_neg]
    rintro (g | g) <;> omega
theorem dg_sent {s d t : Int} {b : List UInt8} (hs : 0 ≤ s ∧ s < 4294967296) (hd : 0 ≤ d ∧ d < 4294967296) (ht : 0 ≤ t ∧ t ≤ 255) (hb : b.length ≤ 50000) (hh : hostB s = true) : Sent (dgE s d 5 6 t b) := by
  obtain ⟨h1, h2, h3⟩ := dg_chkT hs hd ht hb
  exact ⟨h2, rfl, hh, by omega⟩
theorem st_one (m : Int) : (stl m).toArray.all (·.oneCell') = true := by simp [stl, ownQ, aftQ, row, Value.oneCell']
theorem st_store_new {ops : Array Oper} {rest : List Oper} {x y : Operand} {ty : TypeId} {pos : String} {af : Array Edge} {a : Act} {w : World} {Q : Exit → Act → World → Prop}
    {t : TypeId} {m : Int} {old : Array Value} (hx : a.eval x = .pointer (some ⟨w.heap.size, 0, none⟩)) (hy : a.eval y = stV m) (ho : old.size = 37)
    (h : wpList Tryz.prog ops Q rest (a.put none undef) (w.alloc (.cells (stl m).toArray t))) : wpList Tryz.prog ops Q (⟨none, .store 27 x y, ty, pos, af, none⟩ :: rest) a (w.alloc (.cells old t)) :=
  wpList_plain rfl fun _ hK => wp_store_row 27 x y rfl w.heap.size (stl m).toArray hx hy t old (World.alloc_heap_new w _) (by rw [List.size_toArray, stl_len]; kernel_rfl) (by rw [ho, List.size_toArray, stl_len])
    (st_one m) (hK _ _ (by rw [World.setRow_alloc_new]; exact h))
theorem st_result {fn : Func} {p : Tmp} {tmps : Array Value} {w : World} {g : Nat} {t : TypeId} {m : Int} {fr : Nat × Nat} (h : fn.results = #[.cell p 27])
    (hp : tmps.getD p undef = .pointer (some ⟨g, 0, none⟩)) (hg : w.heap[g]? = some (.cells (stl m).toArray t fr)) : (results fn tmps).run Tryz.prog w = .ok (stV m) w :=
  results_cell_row h tmps w g t (stl m).toArray fr _ hp hg Tryz.underlying27 rfl (by rw [List.size_toArray, stl_len]; kernel_rfl)
theorem run_build_own {o : Oper} {a : Act} {w : World} {x y : Operand} (ho : o.op = .build 25 #[(0, x), (1, y)]) (hx : a.eval x = .int .u8 32) (hy : a.eval y = .int .u8 2) : (execOp a.eval o).run Tryz.prog w = .ok (.value (.agg (cel ownQ))) w := by
  have e : (Array.map (fun y : Nat × Operand => (y.1, a.eval y.2)) #[(0, x), (1, y)]) = #[(0, .int .u8 32), (1, .int .u8 2)] := by simp [hx, hy]
  have hb : (Instr.build 25 #[(0, .int .u8 32), (1, .int .u8 2)]).run Tryz.prog w = .ok (.agg (cel ownQ)) w := by kernel_rfl
  unfold execOp
  simp only [ho, e, Sem.run_bind, hb]
  rfl
theorem run_build_aft {o : Oper} {a : Act} {w : World} {x y : Operand} (ho : o.op = .build 25 #[(0, x), (1, y)]) (hx : a.eval x = .int .u8 32) (hy : a.eval y = .int .u8 1) : (execOp a.eval o).run Tryz.prog w = .ok (.value (.agg (cel aftQ))) w := by
  have e : (Array.map (fun y : Nat × Operand => (y.1, a.eval y.2)) #[(0, x), (1, y)]) = #[(0, .int .u8 32), (1, .int .u8 1)] := by simp [hx, hy]
  have hb : (Instr.build 25 #[(0, .int .u8 32), (1, .int .u8 1)]).run Tryz.prog w = .ok (.agg (cel aftQ)) w := by kernel_rfl
  unfold execOp
  simp only [ho, e, Sem.run_bind, hb]
  rfl
theorem run_build_st {o : Oper} {a : Act} {w : World} {x y z1 z2 z3 z4 z5 : Operand} (ho : o.op = .build 27 #[(0, x), (1, y), (2, z1), (3, z2), (4, z3), (5, z4), (6, z5)]) (hx : a.eval x = .agg (cel ownQ)) (hy : a.eval y = .agg (cel aftQ))
    (h1 : a.eval z1 = .int .i64 1280) (h2 : a.eval z2 = .int .i64 64) (h3 : a.eval z3 = .int .i64 4) (h4 : a.eval z4 = .int .i64 10000) (h5 : a.eval z5 = .int .i64 60) : (execOp a.eval o).run Tryz.prog w = .ok (.value (stV 1280)) w := by
  have e : (Array.map (fun y : Nat × Operand => (y.1, a.eval y.2)) #[(0, x), (1, y), (2, z1), (3, z2), (4, z3), (5, z4), (6, z5)]) = #[(0, .agg (cel ownQ)), (1, .agg (cel aftQ)), (2, .int .i64 1280), (3, .int .i64 64), (4, .int .i64 4), (5, .int .i64 10000), (6, .int .i64 60)] := by simp [hx, hy, h1, h2, h3, h4, h5]
  have hb : (Instr.build 27 #[(0, .agg (cel ownQ)), (1, .agg (cel aftQ)), (2, .int .i64 1280), (3, .int .i64 64), (4, .int .i64 4), (5, .int .i64 10000), (6, .int .i64 60)]).run Tryz.prog w = .ok (stV 1280) w := by kernel_rfl
  unfold execOp
  simp only [ho, e, Sem.run_bind, hb]
  rfl
set_option maxRecDepth 100000 in
set_option maxHeartbeats 4000000 in
theorem bset (w : World) : Calls Tryz.prog 7 #[] w fun e w' => e = .returned (stV 1280) ∧ Below w.heap.size w w' := by
  go_enter Tryz.func7, Tryz.ntmps7
  go_wp2_with (first
    | ((with_reducible show wpList _ _ _ (Oper.mk (some 1) (Op.build 25 _) _ _ _ _ :: _) _ _); refine wpList_val rfl (run_build_own rfl rfl rfl) ?_)
    | ((with_reducible show wpList _ _ _ (Oper.mk (some 2) (Op.build 25 _) _ _ _ _ :: _) _ _); refine wpList_val rfl (run_build_aft rfl rfl rfl) ?_)
    | ((with_reducible show wpList _ _ _ (Oper.mk (some 3) (Op.build 27 _) _ _ _ _ :: _) _ _); refine wpList_val rfl (run_build_st rfl rfl rfl rfl rfl rfl rfl rfl) ?_)
    | ((with_reducible show wpList _ _ _ (Oper.mk _ (Op.store 27 _ _) _ _ _ _ :: _) _ _); refine st_store_new (m := 1280) rfl rfl rfl ?_))
  exact bodyPost_ret (st_result rfl rfl (World.alloc_heap_new w _)) rfl ⟨rfl, (Below.refl _ w).alloc (Nat.le_refl _) _⟩
theorem ex_mk2 : mkE 3221225474 11 0 0 exE = 0 ∧ chk4 (mkV 3221225474 11 0 0 exE) = 0 ∧ (mkV 3221225474 11 0 0 exE).dat.length ≤ 1000000 := by
  have h := may_mk (a := 3221225474) (k := 11) (c := 0) ex_may (by decide) (by decide) (by decide) (by decide) (by decide) (by decide)
  have h2 := (once_may h (by decide)).1
  refine ⟨h, h2, ?_⟩
  obtain ⟨_, _, h3⟩ := chk4_zero h2
  unfold size4 head4 at h3
  omega
theorem RowY.shape {W : World} {base : Nat} {v : Value} {l : List YB} (h : RowY W base v l) : ∃ A c, v = .slice A l.length c ∧ RdS clY 1 W W.heap.size A l ∧ l.length ≤ c := own_rds (cl := clY) h.1 rfl rfl (fun _ _ => rfl)
def q9 : P4 := dgE 167772161 3221225985 5 6 9 []
def q1 : P4 := dgE 167772161 3221225985 5 6 1 []
theorem q9_cut {id : Int} : ((cutB 1280 id (wrV ownQ aftQ 64 (bld4 { q9 with ttl := q9.ttl - 1 }))).map bld6).length = 1 := by
  have hq : Sent q9 := dg_sent (by decide) (by decide) (by decide) (by decide) (by decide)
  have hq' := hq.hop (by decide)
  have hl := hq'.bl
  have hd : ({ q9 with ttl := q9.ttl - 1 } : P4).dat.length = 8 := by show (bldU _ _ _).length = _; rw [bldU_len]; rfl
  rw [wrV_ok (wr_chk (by decide) (by decide) (by rw [hl, hd]; decide)), cutB, if_pos]
  · rfl
  · show 40 + ((bld4 _).length : Int) ≤ 1280
    rw [hl, hd]; decide
set_option maxRecDepth 100000 in
set_option maxHeartbeats 4000000 in
theorem awake32 (w : World) : Calls Tryz.prog 6 #[] w fun e w' => e = .returned (.bool true) ∧ Below w.heap.size w w' := by
  have s9 := Lib.hid (dg_sent (s := 167772161) (d := 3221225985) (t := 9) (b := []) (by decide) (by decide) (by decide) (by decide) (by decide))
  have s1 := Lib.hid (dg_sent (s := 167772161) (d := 3221225985) (t := 1) (b := []) (by decide) (by decide) (by decide) (by decide) (by decide))
  have hu : chkU ⟨5, 6, false, []⟩ = 0 := ex_uchk
  have HU := Lib.hid hu
  have hN : ∀ V : World, Arg V V.heap.size none 0 [] := fun V => Arg.nil _ _
  have HNL := Lib.hid hN
  have HC9 := Lib.hid (fun id => q9_cut (id := id))
  clear hu hN
  go_enter Tryz.func6, Tryz.ntmps6
  go_upto_region 4 with (first
    | (go_at_call 7; refine (bset w).mono ?_; rintro e w1 ⟨rfl, x1⟩)
    | (go_at_call 8; refine (bfnew 1280 (by decide) w1).mono ?_; rintro e w2 ⟨x, t, k, rfl, f2, x2⟩))
  have b2 := x1.trans (x2.mono x1.size)
  have HF2 := Lib.hid f2
  have hB0 := x1.size
  clear f2
  go_upto_region 5 with (first
    | (go_at_call 9; refine (plain_dgE 167772161 3221225985 5 6 9 [] none 0 w2 w2.heap.size (HNL.out w2) (Nat.le_refl _) (by decide) HU.out s9.out.chk).mono ?_; rintro e w3 ⟨P3, p3, rfl, m3⟩)
    | (go_at_call 10; obtain ⟨_, _, e3, g3, _, x3⟩ := made_shape m3; cases e3; refine (bhost (HF2.out.below x3) (by decide) (dgE 167772161 3221225985 5 6 9 []) P3 p3 g3 s9.out (by decide) (by decide) (by decide) (by decide)).mono ?_; rintro e w4 ⟨v4, l4, he, r4, q4, k4, id4, hid4, f4⟩; obtain rfl := he.out; clear he))
  have hl4 : l4.length = 1 := by
    have := congrArg List.length q4.out
    rw [List.length_map] at this
    exact this.trans (HC9.out 1)
  obtain ⟨A4, c4, ev4, _, _⟩ := r4.shape
  rw [hl4] at ev4
  subst ev4
  have b4 := b2.trans ((x3.mono b2.size).trans (k4.below (Nat.le_trans hB0 HF2.out.bx) (Nat.le_trans hB0 HF2.out.bk) (Nat.le_trans b2.size x3.size)))
  have HF4 := Lib.hid f4
  clear f4 r4 q4 k4 hl4 m3 g3 x3
  go_upto_region 6 with (first
    | (go_at_call 9; refine (plain_dgE 167772161 3221225985 5 6 1 [] none 0 w4 w4.heap.size (HNL.out w4) (Nat.le_refl _) (by decide) HU.out s1.out.chk).mono ?_; rintro e w5 ⟨P5, p5, rfl, m5⟩)
    | (go_at_call 10; obtain ⟨_, _, e5, g5, _, x5⟩ := made_shape m5; cases e5; refine (bhost_over (HF4.out.below x5) (by decide) (dgE 167772161 3221225985 5 6 1 []) P5 p5 g5 s1.out (by decide) (by decide) ex_mk2.1 ex_mk2.2.1 ex_mk2.2.2).mono ?_; rintro e w6 ⟨g6, rfl, k6⟩))
  have b6 := b4.trans ((x5.mono b4.size).trans (k6.below (Nat.le_trans hB0 HF2.out.bx) (Nat.le_trans hB0 HF2.out.bk) (Nat.le_trans b4.size x5.size)))
  go_wp2_with (go_at_call 21; refine (baddr _).mono ?_; rintro e w7 ⟨rfl, rfl⟩)
  go_ret
  exact ⟨rfl, b6⟩
end Go.Proofs.YtjoaaabdcfcdiaaGreat
namespace Go.Proofs.YtjoaaabdcfcdiaaGreat
open Go.RowKit
theorem prs6_bld {p : P6} (hs : p.src.length = 16) (hd : p.dst.length = 16) (h : chk6 p = 0) : prs6 (bld6 p) false = p ∧ bad6 (bld6 p) false = 0 := by
  have := back6 p [] hs hd h
  rw [List.append_nil] at this
  exact ⟨by rw [prs6, if_pos this.1, this.2], this.1⟩
end Go.Proofs.YtjoaaabdcfcdiaaGreat
namespace Go.Proofs.YtjoaaabdcfcdiaaGreat
open Go.RowKit
def pcOf (p : P6) : Pc := ⟨(prtF p).off, (prtF p).more, prtB p⟩
theorem rst_chain {q : P6} {id mtu : Int} (h : Cut6 q id mtu) : ∀ (f off : Nat), q.dat.length < f + off → off ≤ q.dat.length → off % 8 = 0 → (off = q.dat.length → off = 0) → Chain q.dat off ((rst6 q id mtu off).map pcOf)
  | 0, off, h1, h2, _, _ => by omega
  | f + 1, off, h1, h2, h3, h4 => by
    have hs := st6_bd h.lo
    by_cases hc : (q.dat.length : Int) - (off : Int) > mtu - 48
    · obtain ⟨p1, p2, p3, p4⟩ := prt_one h (n := (st6 mtu).toNat) true h2 h3
      rw [rst6_more h.lo hc, List.map_cons]
      have e : pcOf (one6 q id off (st6 mtu).toNat true) = ⟨(off : Int), true, (q.dat.drop off).take (st6 mtu).toNat⟩ := by rw [pcOf, p1, p2]; rfl
      rw [e]
      exact Chain.more (by omega) (by omega) (by omega) (rst_chain h f (off + (st6 mtu).toNat) (by omega) (by omega) (by omega) (by omega))
    · obtain ⟨p1, p2, p3, p4⟩ := prt_one h (n := q.dat.length - off) false h2 h3
      rw [rst6_last hc, List.map_cons, List.map_nil]
      have e : pcOf (one6 q id off (q.dat.length - off) false) = ⟨(off : Int), false, q.dat.drop off⟩ := by
        rw [pcOf, p1, p2, List.take_of_length_le (by simp)]; rfl
      rw [e]
      exact Chain.last h2 h4
theorem Chain.zero {b : List UInt8} {l : List Pc} (h : Chain b 0 l) : ∃ x ∈ l, x.off = 0 := by
  cases h with
  | last h he => exact ⟨_, List.mem_cons_self .., rfl⟩
  | more hn h8 hk h => exact ⟨_, List.mem_cons_self .., rfl⟩
theorem Chain.nodup {b : List UInt8} {l : List Pc} (h : Chain b 0 l) : l.Nodup := by
  have := h.facts.2.2.2.2
  refine this.imp ?_
  rintro x y ⟨_, _, h3⟩ rfl
  omega
def hasO (s : List Pc) : Bool := s.any fun x => decide (x.off = 0)
def tblG (K : List UInt8) (s : List Pc) : List Bf := if s = [] then [] else [⟨K, 0, s, if hasO s then [4] else [], hasO s⟩]
theorem up_tbl (K : List UInt8) (s : List Pc) (p : Pc) (h : addL s p = s ++ [p]) : upJ ⟨K, 0, s, if hasO s then [4] else [], hasO s⟩ p [4] = ⟨K, 0, s ++ [p], if hasO (s ++ [p]) then [4] else [], hasO (s ++ [p])⟩ := by
  have e : hasO (s ++ [p]) = (hasO s || decide (p.off = 0)) := by simp [hasO]
  rw [upJ, h, e]
  by_cases h0 : p.off = 0 <;> cases hasO s <;> simp [h0]
theorem done_not {b : List UInt8} {l s r : List Pc} (h : Chain b 0 l) (hb : 0 < b.length) (hp : l.Perm (s ++ r)) (hr : r ≠ []) : doneB s = false := by
  obtain ⟨f1, f2, f3, f4, f5⟩ := h.facts
  have hmem : ∀ x ∈ s, x ∈ l := fun x hx => hp.mem_iff.2 (List.mem_append_left _ hx)
  have hby : bytesP s + bytesP r = (b.length : Int) := by
    have h1 := bytesP_perm hp
    have h2 : ∀ a c : List Pc, bytesP (a ++ c) = bytesP a + bytesP c := fun a c => by
      induction a with
      | nil => simp [bytesP]
      | cons x a ih => rw [List.cons_append, bytesP, bytesP, ih]; omega
    rw [h2, f2] at h1
    omega
  have hrp : 0 < bytesP r := by
    cases r with
    | nil => exact absurd rfl hr
    | cons x r =>
      have h1 := (f1 x (hp.mem_iff.2 (List.mem_append_right _ (List.mem_cons_self ..)))).2.2.2.2.2 hb
      have h2 := bytesP_nn r
      rw [bytesP]; omega
  unfold doneB
  rcases endP_cases s with h0 | ⟨y, hy, h1, h2⟩
  · rw [h0]; simp
  · have h3 := (f1 y (hmem y hy)).2.2.2.2.1 h1
    rw [h2, h3]
    have : ¬ bytesP s = (b.length : Int) := by omega
    simp [this]
theorem addJ_step {K b : List UInt8} {l s r : List Pc} {p : Pc} (h : Chain b 0 l) (hb : 0 < b.length) (hbl : b.length ≤ 9000) (hp : l.Perm (s ++ p :: r)) :
    addJ 4 10000 (tblG K s) K p [4] 0 = if r = [] then ([], [4], b, true, 0) else (tblG K (s ++ [p]), [], [], false, 0) := by
  obtain ⟨f1, f2, f3, f4, f5⟩ := h.facts
  have hnd := hp.nodup_iff.1 h.nodup
  have hps : p ∉ s := by
    rw [List.nodup_append] at hnd
    exact fun hm => hnd.2.2 p hm p (List.mem_cons_self ..) rfl
  have hs : ∀ x ∈ s, x ∈ l := fun x hx => hp.mem_iff.2 (List.mem_append_left _ hx)
  have hpl : p ∈ l := hp.mem_iff.2 (List.mem_append_right _ (List.mem_cons_self ..))
  obtain ⟨a1, a2⟩ := order_add h (by omega) hs hpl
  rw [if_neg hps] at a2
  have hby : bytesP s + p.len ≤ (b.length : Int) := by
    have h1 := bytesP_perm hp
    have h2 : ∀ a c : List Pc, bytesP (a ++ c) = bytesP a + bytesP c := fun a c => by
      induction a with
      | nil => simp [bytesP]
      | cons x a ih => rw [List.cons_append, bytesP, bytesP, ih]; omega
    rw [h2, bytesP, f2] at h1
    have := bytesP_nn r
    omega
  have hroom : roomP s p.off p.b ≤ p.len := by
    unfold roomP
    split
    · have : p.len = (p.b.length : Int) := rfl; omega
    · exact Int.le_refl _
  have hput : ∀ (t0 t : List Bf) (k : Nat), bytesJ t = bytesP s → putJ 10000 t0 t k ⟨K, 0, s, if hasO s then [4] else [], hasO s⟩ p [4] =
      if r = [] then (t.eraseIdx k, [4], b, true, 0) else (t.set k ⟨K, 0, s ++ [p], if hasO (s ++ [p]) then [4] else [], hasO (s ++ [p])⟩, [], [], false, 0) := fun t0 t k ht => by
    rw [putJ, if_neg (by show ¬ bytesJ t + roomP s p.off p.b > 10000; rw [ht]; omega), if_neg (by show ¬ addE s p ≠ 0; rw [a1]; simp), up_tbl K s p a2]
    by_cases hr : r = []
    · subst hr
      have hpe : List.Perm (s ++ [p]) l := hp.symm
      obtain ⟨d1, d2⟩ := order_done h hpe
      have hh : hasO (s ++ [p]) = true := by
        obtain ⟨x, hx, hx0⟩ := h.zero
        rw [hasO, List.any_eq_true]
        exact ⟨x, hpe.mem_iff.2 hx, decide_eq_true hx0⟩
      rw [if_pos (show doneB (s ++ [p]) = true from d1), if_pos rfl, hh]
      show (_, _, doneP (s ++ [p]), _, _) = _
      rw [d2]; rfl
    · have hn := done_not (s := s ++ [p]) (r := r) h hb (by rw [List.append_assoc]; exact hp) hr
      rw [if_neg (by show ¬ doneB (s ++ [p]) = true; rw [hn]; simp), if_neg hr]
  unfold addJ
  by_cases h0 : s = []
  · subst h0
    have e1 : tblG K [] = [] := rfl
    rw [e1]
    show (if ((([] : List Bf).length : Nat) : Int) ≥ 4 then _ else _) = _
    rw [if_neg (by decide)]
    have e2 : newJ K 0 = ⟨K, 0, [], if hasO [] then [4] else [], hasO []⟩ := rfl
    rw [e2]
    refine (hput [] [⟨K, 0, [], if hasO [] then [4] else [], hasO []⟩] 0 rfl).trans ?_
    split
    · rfl
    · rfl
  · have e1 : tblG K s = [⟨K, 0, s, if hasO s then [4] else [], hasO s⟩] := by rw [tblG, if_neg h0]
    have e3 : tblG K (s ++ [p]) = [⟨K, 0, s ++ [p], if hasO (s ++ [p]) then [4] else [], hasO (s ++ [p])⟩] := by rw [tblG, if_neg (by simp)]
    rw [e1, e3]
    have e2 : findJ [⟨K, 0, s, if hasO s then [4] else [], hasO s⟩] K = 0 := by simp [findJ]
    rw [e2]
    show putJ 10000 _ _ 0 _ p [4] = _
    rw [hput _ _ 0 (by simp [bytesJ])]
    split
    · rfl
    · rfl
end Go.Proofs.YtjoaaabdcfcdiaaGreat
namespace Go.Proofs.YtjoaaabdcfcdiaaGreat
open Go.RowKit
theorem byt_row (bs : List UInt8) (j : Nat) (hj : j < bs.length) : (bs[j].toNat : Int) = byt bs j := by simp [byt, hj]
theorem run_convB {o : Oper} {a : Act} {w : World} {x : Operand} {A : Option Addr} {n c B : Nat} {bs : List UInt8} (ho : o.op = .convert 22 9 x) (hx : a.eval x = .slice A n c) (hn : n = bs.length) (hA : Arg w B A c bs) (h0 : 0 < bs.length) :
    (execOp a.eval o).run Tryz.prog w = .ok (.value (sq bs)) w := by
  subst hn
  obtain ⟨b, off, rfl, _, hc⟩ := hA.rd h0
  have h := run_convert_bytes_back (P := Tryz.prog) w 22 9 5 ⟨b, off, none⟩ c bs Tryz.underlying22 Tryz.underlying5 Tryz.underlying9 (fun j hj => by rw [add_off, byt_row bs j hj]; exact hc j hj)
  unfold execOp
  simp only [ho, hx, Sem.run_bind, h]
  rfl
def numK : List UInt8 := [0, 0, 0, 77]
def keyK : List UInt8 := [54] ++ (aftQ ++ ownQ ++ numK)
theorem run_add54 {o : Oper} {a : Act} {w : World} {x y : Operand} (ho : o.op = .binOp .add 9 x y 9) (hx : a.eval x = .string ⟨#[54]⟩) (hy : a.eval y = sq (aftQ ++ ownQ ++ numK)) : (execOp a.eval o).run Tryz.prog w = .ok (.value (sq keyK)) w := by
  unfold execOp
  simp only [ho, hx, hy]
  unfold sq
  go_simp
  have e : (⟨#[54]⟩ : ByteArray) = strB [54] := rfl
  rw [e, if_neg (by rw [strB_size]; decide), strB_append]
  rfl
set_option maxRecDepth 100000 in
set_option maxHeartbeats 4000000 in
theorem bkey (p : P6) (A : Option Addr) (c : Nat) (w : World) (hs : p.src = aftQ) (hd : p.dst = ownQ) : Calls Tryz.prog 105 #[.agg (v6a p A c), .int .i64 77] w fun e w' => e = .returned (sq keyK) ∧ Below w.heap.size w w' := by
  have hb0 := (Below.refl _ w).alloc (Nat.le_refl _) (.cells (v6a p A c) 38)
  have k0 := World.alloc_heap_new w (.cells (v6a p A c) 38)
  have at0 : At6 (w.alloc (.cells (v6a p A c) 38)) w.heap.size p A c := range_hpR k0
  have ss := at0.src
  have sd := at0.dst (by rw [hs]; rfl)
  rw [hs] at ss
  rw [hd] at sd
  have zg := heap_lt k0
  clear hs hd at0 k0
  go_enter Tryz.func105, Tryz.ntmps105
  go_upto_region 1 with fail
  generalize w.alloc (.cells (v6a p A c) 38) = W at *
  go_upto_region 2 with fail
  have kn := World.alloc_heap_new W (.cells #[.int .u8 0, .int .u8 0, .int .u8 0, .int .u8 77] 5)
  have a1 : Below W.heap.size W (W.alloc (.cells #[.int .u8 0, .int .u8 0, .int .u8 0, .int .u8 77] 5)) := (Below.refl _ W).alloc (Nat.le_refl _) _
  have hb := hb0.trans (a1.mono hb0.size)
  have ss := range_below ss zg a1
  have sd := range_below sd zg a1
  have zg := Nat.lt_of_lt_of_le zg a1.size
  generalize W.heap.size = kb at *
  generalize W.alloc (.cells #[.int .u8 0, .int .u8 0, .int .u8 0, .int .u8 77] 5) = V at *
  have zk := heap_lt kn
  have KA : Hid (∀ X, Below V.heap.size V X → Arg X V.heap.size (some ⟨w.heap.size, 4, none⟩) 16 aftQ) := Lib.hid (fun X hX => ⟨Rd.of_range (range_below ss zg hX) zg, (by decide), fun e => by cases e⟩)
  have KO : Hid (∀ X, Below V.heap.size V X → Arg X V.heap.size (some ⟨w.heap.size, 20, none⟩) 16 ownQ) := Lib.hid (fun X hX => ⟨Rd.of_range (range_below sd zg hX) zg, (by decide), fun e => by cases e⟩)
  have KN : Hid (∀ X, Below V.heap.size V X → Arg X V.heap.size (some ⟨kb, 0, none⟩) 4 numK) := Lib.hid (fun X hX => ⟨Rd.of_range (range_hpR ((hX.block kb zk).trans kn)) zk, (by decide), fun e => by cases e⟩)
  clear ss sd kn a1 zg zk
  refine wp_region_held_drew (S := fun X => Below V.heap.size V X) (by kernel_rfl) (Below.refl _ V).drew (fun hS => ?_)
  have yZ := hS
  generalize V.drew = Z at *
  refine held_pure (i := 0) (oi := ⟨some 18, _, _, _, _, _⟩) rfl (by kernel_rfl) (by kernel_rfl) (by kernel_rfl) (fun _ _ _ h => h) (by rfl) (v := ?_) (fun w hSw => ?_) hS (fun hS => ?_)
  rotate_left
  · go_simp; try with_reducible rfl
  try go_frame
  refine held_pure (i := 1) (oi := ⟨some 19, _, _, _, _, _⟩) rfl (by kernel_rfl) (by kernel_rfl) (by kernel_rfl) (fun _ _ _ h => h) (by rfl) (fun w hSw => run_slice_six rfl rfl) hS (fun hS => ?_)
  try go_frame
  refine held_pure (i := 2) (oi := ⟨some 20, _, _, _, _, _⟩) rfl (by kernel_rfl) (by kernel_rfl) (by kernel_rfl) (fun _ _ _ h => h) (by rfl) (v := ?_) (fun w hSw => ?_) hS (fun hS => ?_)
  rotate_left
  · go_simp; try with_reducible rfl
  try go_frame
  refine held_pure (i := 3) (oi := ⟨some 21, _, _, _, _, _⟩) rfl (by kernel_rfl) (by kernel_rfl) (by kernel_rfl) (fun _ _ _ h => h) (by rfl) (fun w hSw => run_slice_six rfl rfl) hS (fun hS => ?_)
  try go_frame
  refine held_pure (i := 4) (oi := ⟨some 22, _, _, _, _, _⟩) rfl (by kernel_rfl) (by kernel_rfl) (by kernel_rfl) (fun _ _ _ h => h) (by rfl) (v := ?_) (fun w hSw => ?_) hS (fun hS => ?_)
  rotate_left
  · go_simp; try with_reducible rfl
  try go_frame
  refine wpAnyH_ready (rs := [5]) (by kernel_rfl) (by simp) (AllReadyH.cons (o := ⟨some 23, _, _, _, _, _⟩) rfl (fun K hK => ?_) AllReadyH.nil)
  rw [if_pos (by rfl)]
  go_simp
  have kr := World.alloc_heap_new Z (.cells #[.slice (some ⟨w.heap.size, 4, none⟩) 16 16, .slice (some ⟨w.heap.size, 20, none⟩) 16 16, .slice (some ⟨kb, 0, none⟩) 4 4] 22)
  have a5 : Below Z.heap.size Z (Z.alloc (.cells #[.slice (some ⟨w.heap.size, 4, none⟩) 16 16, .slice (some ⟨w.heap.size, 20, none⟩) 16 16, .slice (some ⟨kb, 0, none⟩) 4 4] 22)) := (Below.refl _ Z).alloc (Nat.le_refl _) _
  have zZ := yZ.size
  have yZ := yZ.alloc yZ.size (.cells #[.slice (some ⟨w.heap.size, 4, none⟩) 16 16, .slice (some ⟨w.heap.size, 20, none⟩) 16 16, .slice (some ⟨kb, 0, none⟩) 4 4] 22)
  show K _ (Z.alloc (.cells #[.slice (some ⟨w.heap.size, 4, none⟩) 16 16, .slice (some ⟨w.heap.size, 20, none⟩) 16 16, .slice (some ⟨kb, 0, none⟩) 4 4] 22))
  refine hK.out _ _ yZ (fun hS => ?_)
  clear hK K
  generalize Z.heap.size = gB at *
  generalize Z.alloc (.cells #[.slice (some ⟨w.heap.size, 4, none⟩) 16 16, .slice (some ⟨w.heap.size, 20, none⟩) 16 16, .slice (some ⟨kb, 0, none⟩) 4 4] 22) = Z at *
  have zr := heap_lt kr
  try go_frame
  refine wpAnyH_ready (rs := [6]) (by kernel_rfl) (by simp) (AllReadyH.cons (o := ⟨some 24, _, _, _, _, _⟩) rfl (fun K hK => ?_) AllReadyH.nil)
  rw [if_pos (by rfl)]
  go_simp
  refine (concat_three (some ⟨gB, 0, none⟩) aftQ ownQ numK 3 Z.heap.size (aftQ ++ ownQ ++ numK) (Lib.hid rfl) Z (Rd2.three rfl rfl rfl kr zr ((KA.out _ yZ).more yZ.size) ((KO.out _ yZ).more yZ.size) ((KN.out _ yZ).more yZ.size)) (Nat.le_refl _) (by decide) (by decide)).mono ?_
  rintro e Z ⟨v6, rfl, m6⟩
  obtain ⟨P6, p6, rfl, g6, _, x6⟩ := made_shape m6
  have yZ := yZ.trans (x6.mono yZ.size)
  clear m6 x6
  show K _ _
  refine hK.out _ _ yZ (fun hS => ?_)
  clear hK K
  try go_frame
  refine wpAnyH_ready (rs := [7]) (by kernel_rfl) (by simp) (AllReadyH.cons (o := ⟨some 25, _, _, _, _, _⟩) rfl (fun K hK => ?_) AllReadyH.nil)
  rw [if_pos (by rfl)]
  refine wp_valR (run_convB rfl rfl rfl g6 (by decide)) ?_
  refine hK _ _ yZ (fun hS => ?_)
  clear hK K
  try go_frame
  refine held_pure (i := 8) (oi := ⟨some 26, _, _, _, _, _⟩) rfl (by kernel_rfl) (by kernel_rfl) (by kernel_rfl) (fun _ _ _ h => h) (by rfl) (v := sq keyK) (fun w hSw => by exact run_add54 rfl rfl rfl) hS (fun hS => ?_)
  try go_frame
  refine held_pure (i := 9) (oi := ⟨some 4, _, _, _, _, _⟩) rfl (by kernel_rfl) (by kernel_rfl) (by kernel_rfl) (fun _ _ _ h => h) (by rfl) (v := ?_) (fun w hSw => ?_) hS (fun hS => ?_)
  rotate_left
  · go_simp; try with_reducible rfl
  try go_frame
  refine wpAnyH_done (by kernel_rfl) ?_ _
  go_wp2_with fail
  go_ret
  exact ⟨rfl, hb.trans (yZ.mono hb.size)⟩
set_option maxRecDepth 100000 in
set_option maxHeartbeats 4000000 in
theorem bwithin (p : P6) (q : P4) (A : Option Addr) (c : Nat) (w : World) (h6 : ok6 p) (hA : Arg w w.heap.size A c p.dat) (hn : p.next = 4) (hd : p.dat = bld4 q) (hq : Sent q) : Calls Tryz.prog 74 #[.agg (v6a p A c)] w fun e w' => ∃ v l, Hid (e = .returned (.tuple #[v, .int .i64 0])) ∧ RowY w' w.heap.size v l ∧ Hid (l.map (·.b) = [bld4 q]) ∧ Below w.heap.size w w' := by
  have hb0 := (Below.refl _ w).alloc (Nat.le_refl _) (.cells (v6a p A c) 38)
  have k0 := World.alloc_heap_new w (.cells (v6a p A c) 38)
  have at0 : At6 (w.alloc (.cells (v6a p A c) 38)) w.heap.size p A c := range_hpR k0
  have hA0 := hA.below hb0
  have hbl := hq.bl
  have hql := hq.len
  have HUV : Hid (uwV p = bld4 q) := Lib.hid (by rw [uwV, if_pos hn, hd])
  have HUE : Hid (uwE p = 0) := Lib.hid (by rw [uwE, if_pos hn])
  have HPL : Hid (p.dat.length ≤ 1000000) := Lib.hid (by rw [hd]; omega)
  have HBL : Hid ((bld4 q).length ≤ 1000000) := Lib.hid (by omega)
  have HQ := Lib.hid hq
  have HE := Lib.hid hq.back.1
  have HV := Lib.hid hq.back.2
  have HDL := Lib.hid (show q.dat.length ≤ 1000000 by omega)
  have hz0 := hb0.size
  clear hA hn hd hq hbl hql k0
  go_enter Tryz.func74, Tryz.ntmps74
  go_upto_region 1 with fail
  generalize w.alloc (.cells (v6a p A c) 38) = W at *
  go_upto_region 4 with (first
    | ((with_reducible show wpList _ _ _ (Oper.mk _ (Op.load 38 _) _ _ _ _ :: _) _ _); refine wpList_val rfl (run_load_v6 rfl rfl at0 (v6l_len h6.1 h6.2)) ?_)
    | (go_at_call 107; refine (cWunwrap p A c w.heap.size W h6.1 h6.2 hA0 hz0 HPL.out).mono ?_; rintro e w1 ⟨P1, p1, rfl, m1⟩; rw [HUE.out]; rw [HUV.out] at m1 ⊢))
  obtain ⟨_, _, e1, g1, _, x1⟩ := made_shape m1
  cases e1
  clear m1 at0 hA0
  go_upto_region 5 with (first
    | (go_at_call 54; refine (c4parse (bld4 q) P1 p1 w1 w1.heap.size g1 (Nat.le_refl _) HBL.out).mono ?_; rintro e w2 ⟨Pa, pa, Pb, pb, rfl, ma, mb⟩; rw [HE.out]; rw [HV.out] at ma mb ⊢)
    | ((with_reducible show wpList _ _ _ (Oper.mk _ (Op.store 46 _ _) _ _ _ _ :: _) _ _); refine v4_store_new (cs := v4a q Pa pa Pb pb) rfl rfl rfl rfl (v4a_one _ _ _ _ _) ?_))
  obtain ⟨_, _, ea, ga, _, xa⟩ := made_shape ma
  obtain ⟨_, _, eb, gb, _, _⟩ := made_shape mb
  cases ea
  cases eb
  have kz := World.alloc_heap_new w2 (.cells (v4a q Pa pa Pb pb) 46)
  have a2 : Below w2.heap.size w2 (w2.alloc (.cells (v4a q Pa pa Pb pb) 46)) := (Below.refl _ w2).alloc (Nat.le_refl _) _
  have y2 : Below w1.heap.size w1 (w2.alloc (.cells (v4a q Pa pa Pb pb) 46)) := xa.alloc xa.size _
  have ga := ga.below a2
  have gb := gb.below a2
  have z2 := a2.size
  have b1 := hb0.trans (x1.mono hz0)
  have b2 := b1.trans (y2.mono b1.size)
  generalize w2.alloc (.cells (v4a q Pa pa Pb pb) 46) = W2 at *
  have at2 := ofhE kz
  clear ma mb xa a2 y2 kz
  go_wp2_with (first
    | ((with_reducible show wpList _ _ _ (Oper.mk _ (Op.load 46 _) _ _ _ _ :: _) _ _); refine wpList_val rfl (run_load_v4 rfl rfl at2 rfl) ?_)
    | (go_at_call 89; refine (bbuilt q Pa pa Pb pb w2.heap.size W2 ga gb z2 (by rw [HQ.out.opt]; decide) HDL.out HQ.out.chk).mono ?_; rintro e w3 ⟨P3, p3, rfl, m3⟩; obtain ⟨_, _, e3, _, o3, x3⟩ := made_shape m3; cases e3; clear m3)
    | ((with_reducible show wpList _ _ _ (Oper.mk _ (Op.buildSlice _ _ _) _ _ _ _ :: _) _ _); refine wpList_growU rfl (run_bsY rfl rfl) ?_))
  refine bodyPost_ret (results_tmp2 rfl _ _ _) rfl ?_
  have b3 := b2.trans (x3.mono b2.size)
  have a3 : Below w3.heap.size w3 (w3.alloc (.cells #[.slice P3 (bld4 q).length p3] 22)) := (Below.refl _ w3).alloc (Nat.le_refl _) _
  have rowN := World.ownsRow_lit (base := w.heap.size) (e := 22) (size := 1) w3 #[.slice P3 (bld4 q).length p3] 1 b3.size (by decide) rfl
  exact ⟨_, [⟨P3, p3, bld4 q⟩], Lib.hid rfl, ⟨rowN, fun y hy => by rw [List.mem_singleton.1 hy]; exact own_below (own_base o3 b2.size) a3⟩, Lib.hid rfl, b3.trans (a3.mono b3.size)⟩
end Go.Proofs.YtjoaaabdcfcdiaaGreat
namespace Go.Proofs.YtjoaaabdcfcdiaaGreat
open Go.RowKit
theorem tj32 : ¬ TJ 60 ∧ ¬ TJ 97 ∧ ¬ TJ 38 ∧ ¬ TJ 42 ∧ ¬ TJ 5 ∧ ¬ TJ 22 := by
  refine ⟨?_, ?_, ?_, ?_, ?_, ?_⟩ <;> (rintro (h | h | h | h) <;> exact absurd h (nat_ne (by kernel_rfl)))
theorem nj_stay {B g : Nat} {w w' : World} {cs : Array Value} {ty : TypeId} {fr : Nat × Nat} (k : Kept (NJ B w) w w') (hg : w.heap[g]? = some (.cells cs ty fr)) (ht : ¬ TJ ty) : w'.heap[g]? = some (.cells cs ty fr) :=
  (k.block g (heap_lt hg) (fun hn => ht (hn.2 cs ty fr hg))).trans hg
theorem nj_trans {B : Nat} {a b c : World} (h : Below a.heap.size a b) (k : Kept (NJ B b) b c) : Kept (NJ B a) a c :=
  (Kept.of_below h).trans k (fun i hi hn => ⟨hn.1, fun cs ty fr hg => hn.2 cs ty fr ((h.block i hi).trans hg)⟩)
theorem run_load_tb {o : Oper} {a : Act} {w : World} {x : Operand} {p : Addr} {A : Option Addr} (ho : o.op = .load 57 x) (hx : a.eval x = .pointer (some p)) (hc : w.cell? p = some (.pointer A)) :
    (execOp a.eval o).run Tryz.prog w = .ok (.value (.pointer A)) w := by
  unfold execOp
  simp only [ho, hx, Instr.loadAt, Instr.sureAddr, Sem.run_bind, Sem.run_pure, Result.andThen_ok]
  go_simp
theorem Jv.oneV {w w' : World} {B0 t bm : Nat} {mb my wt : Int} {N : Nat} {S : List Bu} (h : Jv w B0 t bm mb my wt N S) {x : Nat} {cs : Array Value} {fr : Nat × Nat} (hx : w.heap[x]? = some (.cells cs 38 fr)) (k : Kept (fun i => i = x) w w') : Jv w' B0 t bm mb my wt N S := by
  refine ⟨h.tx.awayP k (U := fun ty => ty = 38) (fun j hj cs' ty' fr' hg => ?_) ?_ ?_ ?_ ?_ ?_ (fun e => ?_), h.z, h.by_, h.n, h.l⟩
  · subst hj
    rw [hx] at hg
    injection hg with hg
    injection hg with _ e2 _
    exact e2.symm
  · exact nat_ne (by kernel_rfl)
  · exact nat_ne (by kernel_rfl)
  · exact nat_ne (by kernel_rfl)
  · exact nat_ne (by kernel_rfl)
  · exact nat_ne (by kernel_rfl)
  · obtain ⟨es, hm, _⟩ := h.tx.map
    rw [← e] at hx
    exact map_is hm hx
section
variable {B0 : Nat} {w w' : World} {x t bm k N : Nat} {m now id : Int} {S S' : List Bu} {T T' : List Bf} {L : List Int}
theorem ne_type {g h : Nat} {cs cs' : Array Value} {ty ty' : TypeId} {fr fr' : Nat × Nat} (hg : w.heap[g]? = some (.cells cs ty fr)) (hh : w.heap[h]? = some (.cells cs' ty' fr')) (ht : ty ≠ ty') : g ≠ h := fun e => by
  subst e
  rw [hg] at hh
  injection hh with hh
  injection hh with _ e2 _
  exact ht e2
theorem Bf4.box (h : Bf4 B0 w x t bm k m now id N S T L) {g : Nat} {cs : Array Value} {fr : Nat × Nat} (hg : w.heap[g]? = some (.cells cs 38 fr)) (i : Nat) (u : Value) : Bf4 B0 (w.setCell ⟨g, i, none⟩ u) x t bm k m now id N S T L :=
  ⟨(heap_setCell_other w ⟨g, i, none⟩ x u (ne_type h.obj hg (nat_ne (by kernel_rfl)))).trans h.obj, h.jv.oneV hg (Kept.setCell w g i u), h.sm,
    h.cn.keep (heap_setCell_other w ⟨g, i, none⟩ k u (ne_type h.cn.obj hg (nat_ne (by kernel_rfl)))), h.bd, h.bx, h.bk, by simpa using h.be⟩
theorem Bf4.tab (h : Bf4 B0 w x t bm k m now id N S T L) (j : Jv w' B0 t bm 4 10000 60 (N + 1) S') (s : SameT S' T') (kp : Kept (NJ B0 w) w w') : Bf4 B0 w' x t bm k m now id (N + 1) S' T' L :=
  ⟨nj_stay kp h.obj tj32.1, j, s, h.cn.keep (kp.block k (heap_lt h.cn.obj) (fun hn => tj32.2.1 (hn.2 _ _ _ h.cn.obj))), bdC_more h.bd (Nat.le_succ _), h.bx, h.bk, Nat.le_trans h.be kp.size⟩
theorem w4_four : ∀ h : 0 < (strB [4]).size, wrap64 (((strB [4])[0]'h).toNat : Int) = 4  := fun h => by
  have e : ((((strB [4])[0]'h).toNat : Nat) : Int) = 4 := rfl
  rw [e]
  simp [wrap64]
structure FragQ (p : P6) : Prop where
  h6 : ok6 p
  src : p.src = aftQ
  dst : p.dst = ownQ
  next : p.next = 44
  ok : prtO p = true
  id : (prtF p).id = 77
  nx : (prtF p).next = 4
  off : 0 ≤ (prtF p).off ∧ (prtF p).off ≤ 65535
  chk : chk6 p = 0
  len : p.dat.length ≤ 60000
set_option maxRecDepth 100000 in
set_option maxHeartbeats 4000000 in
theorem bpart_more (h : Bf4 B0 w x t bm k m 0 id N S T L) (hN : N + 1 ≤ 100000) (p : P6) (A : Option Addr) (c : Nat) (hA : Arg w w.heap.size A c p.dat) (hg : FragQ p) (hr : addJ 4 10000 T keyK (pcOf p) [4] 0 = (T', [], [], false, 0)) :
    Calls Tryz.prog 73 #[.pointer (some ⟨x, 0, none⟩), .agg (v6a p A c)] w fun e w' => Hid (e = .returned (.tuple #[.slice none 0 0, .int .i64 0])) ∧ Kept (NJ B0 w) w w' ∧ ∃ S', Bf4 B0 w' x t bm k m 0 id (N + 1) S' T' L := by
  have hb0 := (Below.refl _ w).alloc (Nat.le_refl _) (.cells (v6a p A c) 38)
  have k0 := World.alloc_heap_new w (.cells (v6a p A c) 38)
  have HG := Lib.hid hg
  have HR : Hid (addJ 4 10000 T keyK ⟨(prtF p).off, (prtF p).more, prtB p⟩ [4] 0 = (T', [], [], false, 0)) := Lib.hid hr
  have HN := Lib.hid hN
  have hA0 := hA.below hb0
  have HF0 := Lib.hid (h.below hb0)
  have HSL : Hid (S.length < 1000000) := Lib.hid (by have := h.jv.n; omega)
  have hz0 := hb0.size
  have zg := heap_lt k0
  have HDL : Hid (p.dat.length ≤ 1000000) := Lib.hid (by have := hg.len; omega)
  have HPL : Hid ((prtB p).length ≤ 1000000) := Lib.hid (by
    have h1 := hg.len
    rw [prtB, if_pos hg.next]
    have := rstF_len p.dat
    omega)
  clear h hA hg hr hN
  go_enter Tryz.func73, Tryz.ntmps73
  go_upto_region 1 with fail
  generalize w.alloc (.cells (v6a p A c) 38) = W at *
  have at0 : At6 W w.heap.size p A c := range_hpR k0
  have h6 := HG.out.h6
  go_upto_region 2 with (first
    | ((with_reducible show wpList _ _ _ (Oper.mk _ (Op.load 38 _) _ _ _ _ :: _) _ _); refine wpList_val rfl (run_load_v6 rfl rfl at0 (v6l_len h6.1 h6.2)) ?_)
    | (go_at_call 12; refine (c14part p A c w.heap.size W h6 hA0 hz0 HDL.out).mono ?_; rintro e w7 ⟨P7, p7, rfl, g7, x7⟩; rw [HG.out.ok])
    | ((with_reducible show wpList _ _ _ (Oper.mk _ (Op.store 42 _ _) _ _ _ _ :: _) _ _); refine fr_store_new (cs := fra (prtF p)) rfl rfl rfl rfl (fra_one _) ?_))
  have kf := World.alloc_heap_new w7 (.cells (fra (prtF p)) 42)
  have a7 : Below w7.heap.size w7 (w7.alloc (.cells (fra (prtF p)) 42)) := (Below.refl _ w7).alloc (Nat.le_refl _) _
  have y7 : Below W.heap.size W (w7.alloc (.cells (fra (prtF p)) 42)) := x7.trans (a7.mono x7.size)
  have gV := (g7.below a7).more a7.size
  clear g7
  generalize w7.alloc (.cells (fra (prtF p)) 42) = V at *
  generalize w7.heap.size = fb at *
  have kV := (y7.block _ zg).trans k0
  have HFV := Lib.hid (HF0.out.below y7)
  have bV := hb0.trans (y7.mono hz0)
  have atF : AtF V fb (prtF p) := atF_of kf
  have KT : Hid (∀ X, Kept (NJ B0 V) V X → X.cell? ⟨x, 37, none⟩ = some (.pointer (some ⟨t, 0, none⟩))) := Lib.hid (fun X hX => cellC (nj_stay hX HFV.out.obj tj32.1) rfl)
  have KN : Hid (∀ X, Kept (NJ B0 V) V X → X.cell? ⟨x, 39, none⟩ = some (.int .i64 0)) := Lib.hid (fun X hX => cellC (nj_stay hX HFV.out.obj tj32.1) rfl)
  have KQ : Hid (∀ X, Kept (NJ B0 V) V X → At6 X w.heap.size p A c) := Lib.hid (fun X hX => range_hpR (nj_stay hX kV tj32.2.2.1))
  have KF : ∀ X, Kept (NJ B0 V) V X → X.heap[fb]? = some (.cells (fra (prtF p)) 42 (0, 0)) := fun X hX => nj_stay hX kf tj32.2.2.2.1
  have KI : Hid (∀ X, Kept (NJ B0 V) V X → X.cell? ⟨fb, 2, none⟩ = some (.int .i64 77)) := Lib.hid (fun X hX => by rw [← HG.out.id]; exact cellC (KF X hX) rfl)
  have KO : Hid (∀ X, Kept (NJ B0 V) V X → X.cell? ⟨fb, 1, none⟩ = some (.int .i64 (prtF p).off)) := Lib.hid (fun X hX => cellC (KF X hX) rfl)
  have KM : Hid (∀ X, Kept (NJ B0 V) V X → X.cell? ⟨fb, 3, none⟩ = some (.bool (prtF p).more)) := Lib.hid (fun X hX => cellC (KF X hX) rfl)
  have KX : Hid (∀ X, Kept (NJ B0 V) V X → X.cell? ⟨fb, 0, none⟩ = some (.int .i64 4)) := Lib.hid (fun X hX => by rw [← HG.out.nx]; exact cellC (KF X hX) rfl)
  have HKV := Lib.hid kV
  clear at0 k0 kf x7 a7 y7 hA0 KF atF kV
  go_upto_region 4 with fail
  refine wp_region_held_drew (S := fun X => Kept (NJ B0 V) V X) (by kernel_rfl) (Kept.drew V) (fun hS => ?_)
  have yZ : Below V.heap.size V V.drew := (Below.refl _ V).drew
  clear hS
  have hS : Kept (NJ B0 V) V V.drew := Kept.drew V
  generalize V.drew = Z at *
  refine held_pure (i := 0) (oi := ⟨some 22, _, _, _, _, _⟩) rfl (by kernel_rfl) (by kernel_rfl) (by kernel_rfl) (fun _ _ _ h => h) (by rfl) (v := ?_) (fun w hSw => ?_) hS (fun hS => ?_)
  rotate_left
  · go_simp; try with_reducible rfl
  try go_frame
  refine held_pure (i := 1) (oi := ⟨some 23, _, _, _, _, _⟩) rfl (by kernel_rfl) (by kernel_rfl) (by kernel_rfl) (fun _ _ _ h => h) (by rfl) (v := ?_) (fun w hSw => ?_) hS (fun hS => ?_)
  rotate_left
  · go_simp; try with_reducible rfl
  try go_frame
  refine held_pure (i := 2) (oi := ⟨some 24, _, _, _, _, _⟩) rfl (by kernel_rfl) (by kernel_rfl) (by kernel_rfl) (fun _ _ _ h => h) (by rfl) (v := ?_) (fun w hSw => ?_) hS (fun hS => ?_)
  rotate_left
  · go_simp; try with_reducible rfl
  try go_frame
  refine held_pure (i := 3) (oi := ⟨some 25, _, _, _, _, _⟩) rfl (by kernel_rfl) (by kernel_rfl) (by kernel_rfl) (fun _ _ _ h => h) (by rfl) (fun w hSw => run_load_tb rfl rfl (KT.out w hSw)) hS (fun hS => ?_)
  try go_frame
  refine held_pure (i := 4) (oi := ⟨some 26, _, _, _, _, _⟩) rfl (by kernel_rfl) (by kernel_rfl) (by kernel_rfl) (fun _ _ _ h => h) (by rfl) (fun w hSw => run_load_v6 rfl rfl (KQ.out w hSw) (v6l_len HG.out.h6.1 HG.out.h6.2)) hS (fun hS => ?_)
  try go_frame
  refine held_pure (i := 5) (oi := ⟨some 27, _, _, _, _, _⟩) rfl (by kernel_rfl) (by kernel_rfl) (by kernel_rfl) (fun _ _ _ h => h) (by rfl) (v := ?_) (fun w hSw => ?_) hS (fun hS => ?_)
  rotate_left
  · go_simp; try with_reducible rfl
  try go_frame
  refine held_pure (i := 6) (oi := ⟨some 28, _, _, _, _, _⟩) rfl (by kernel_rfl) (by kernel_rfl) (by kernel_rfl) (fun _ _ _ h => h) (by rfl) (fun w hSw => run_load_int rfl rfl (KI.out w hSw)) hS (fun hS => ?_)
  try go_frame
  refine held_pure (i := 8) (oi := ⟨some 30, _, _, _, _, _⟩) rfl (by kernel_rfl) (by kernel_rfl) (by kernel_rfl) (fun _ _ _ h => h) (by rfl) (v := ?_) (fun w hSw => ?_) hS (fun hS => ?_)
  rotate_left
  · go_simp; try with_reducible rfl
  try go_frame
  refine held_pure (i := 9) (oi := ⟨some 31, _, _, _, _, _⟩) rfl (by kernel_rfl) (by kernel_rfl) (by kernel_rfl) (fun _ _ _ h => h) (by rfl) (fun w hSw => run_load_int rfl rfl (KO.out w hSw)) hS (fun hS => ?_)
  try go_frame
  refine held_pure (i := 10) (oi := ⟨some 32, _, _, _, _, _⟩) rfl (by kernel_rfl) (by kernel_rfl) (by kernel_rfl) (fun _ _ _ h => h) (by rfl) (v := ?_) (fun w hSw => ?_) hS (fun hS => ?_)
  rotate_left
  · go_simp; try with_reducible rfl
  try go_frame
  refine held_pure (i := 11) (oi := ⟨some 33, _, _, _, _, _⟩) rfl (by kernel_rfl) (by kernel_rfl) (by kernel_rfl) (fun _ _ _ h => h) (by rfl) (fun w hSw => run_load_bool rfl rfl (KM.out w hSw)) hS (fun hS => ?_)
  try go_frame
  refine held_pure (i := 12) (oi := ⟨some 34, _, _, _, _, _⟩) rfl (by kernel_rfl) (by kernel_rfl) (by kernel_rfl) (fun _ _ _ h => h) (by rfl) (v := ?_) (fun w hSw => ?_) hS (fun hS => ?_)
  rotate_left
  · go_simp; try with_reducible rfl
  try go_frame
  refine held_pure (i := 13) (oi := ⟨some 35, _, _, _, _, _⟩) rfl (by kernel_rfl) (by kernel_rfl) (by kernel_rfl) (fun _ _ _ h => h) (by rfl) (v := ?_) (fun w hSw => ?_) hS (fun hS => ?_)
  rotate_left
  · go_simp; try with_reducible rfl
  try go_frame
  refine held_pure (i := 14) (oi := ⟨some 36, _, _, _, _, _⟩) rfl (by kernel_rfl) (by kernel_rfl) (by kernel_rfl) (fun _ _ _ h => h) (by rfl) (fun w hSw => run_load_int rfl rfl (KX.out w hSw)) hS (fun hS => ?_)
  try go_frame
  refine held_pure (i := 15) (oi := ⟨some 37, _, _, _, _, _⟩) rfl (by kernel_rfl) (by kernel_rfl) (by kernel_rfl) (fun _ _ _ h => h) (by rfl) (v := ?_) (fun w hSw => ?_) hS (fun hS => ?_)
  rotate_left
  · go_simp; try with_reducible rfl
  try go_frame
  refine held_pure (i := 18) (oi := ⟨some 40, _, _, _, _, _⟩) rfl (by kernel_rfl) (by kernel_rfl) (by kernel_rfl) (fun _ _ _ h => h) (by rfl) (v := ?_) (fun w hSw => ?_) hS (fun hS => ?_)
  rotate_left
  · go_simp; try with_reducible rfl
  try go_frame
  refine held_pure (i := 19) (oi := ⟨some 41, _, _, _, _, _⟩) rfl (by kernel_rfl) (by kernel_rfl) (by kernel_rfl) (fun _ _ _ h => h) (by rfl) (v := ?_) (fun w hSw => ?_) hS (fun hS => ?_)
  rotate_left
  · go_simp; try with_reducible rfl
  try go_frame
  refine held_pure (i := 20) (oi := ⟨some 42, _, _, _, _, _⟩) rfl (by kernel_rfl) (by kernel_rfl) (by kernel_rfl) (fun _ _ _ h => h) (by rfl) (v := ?_) (fun w hSw => ?_) hS (fun hS => ?_)
  rotate_left
  · go_simp; try with_reducible rfl
  try go_frame
  refine held_pure (i := 21) (oi := ⟨some 43, _, _, _, _, _⟩) rfl (by kernel_rfl) (by kernel_rfl) (by kernel_rfl) (fun _ _ _ h => h) (by rfl) (fun w hSw => run_load_int rfl rfl (KN.out w hSw)) hS (fun hS => ?_)
  try go_frame
  refine wpAnyH_ready (rs := [7, 16]) (by kernel_rfl) (by simp) (AllReadyH.cons (o := ⟨some 29, _, _, _, _, _⟩) rfl (fun K hK => ?_) (AllReadyH.cons (o := ⟨some 38, _, _, _, _, _⟩) rfl (fun K hK => ?_) AllReadyH.nil))
  · rw [if_pos (by rfl)]
    go_simp
    refine (bkey p A c Z HG.out.src HG.out.dst).mono ?_
    rintro e Z ⟨rfl, x7⟩
    try have gh := (gh.below x7).more x7.size
    have yZ := yZ.trans (x7.mono yZ.size)
    clear x7
    show K _ _
    refine hK.out _ _ (Kept.of_below yZ) (fun hS => ?_)
    clear hK K
    try go_frame
    refine wpAnyH_ready (rs := [16]) (by kernel_rfl) (by simp) (AllReadyH.cons (o := ⟨some 38, _, _, _, _, _⟩) rfl (fun K hK => ?_) AllReadyH.nil)
    rw [if_pos (by rfl)]
    go_simp
    have gh : Arg (Z.alloc (.cells #[.int .u8 4] 5)) (Z.alloc (.cells #[.int .u8 4] 5)).heap.size (some ⟨Z.heap.size, 0, none⟩) 1 [4] := ⟨Rd.of_range (range_hpR (World.alloc_heap_new Z _)) (by simp), by decide, fun e => by cases e⟩
    have yZ := yZ.alloc yZ.size (.cells #[.int .u8 4] 5)
    show K _ (Z.alloc (.cells #[.int .u8 4] 5))
    refine hK.out _ _ (Kept.of_below yZ) (fun hS => ?_)
    clear hK K
    generalize Z.heap.size = hk at *
    generalize Z.alloc (.cells #[.int .u8 4] 5) = Z at *
    try go_frame
    refine wpAnyH_ready (rs := [17]) (by kernel_rfl) (by simp) (AllReadyH.cons (o := ⟨some 39, _, _, _, _, _⟩) rfl (fun K hK => ?_) AllReadyH.nil)
    rw [if_pos (by rfl)]
    refine wp_valR (run_convB rfl rfl rfl gh (by decide)) ?_
    refine hK _ _ (Kept.of_below yZ) (fun hS => ?_)
    clear hK K
    try go_frame
    refine wpAnyH_ready (rs := [22]) (by kernel_rfl) (by simp) (AllReadyH.cons (o := ⟨some 44, _, _, _, _, _⟩) rfl (fun K hK => ?_) AllReadyH.nil)
    rw [if_pos (by rfl)]
    go_simp
    refine (kadd_says (HFV.out.below yZ).jv HFV.out.sm (by decide) keyK [4] (prtF p).off 0 (prtF p).more P7 p7 (prtB p) ((gV.below yZ).more yZ.size) (by unfold maxLen; decide) HPL.out (by have := HG.out.off; omega) HN.out HSL.out (Nat.le_trans HFV.out.be yZ.size)).mono ?_
    rintro e Z9 hans
    rw [HR.out] at hans
    obtain ⟨V9, S', rfl, o9, j9, s9, k9, _⟩ := hans
    have yZ9 := nj_trans yZ k9
    have HF9 := Lib.hid ((HFV.out.below yZ).tab j9 s9 k9)
    have HO9 := Lib.hid (own_base o9 yZ.size)
    clear j9 s9 k9 o9
    show K _ _
    refine hK.out _ _ yZ9 (fun hS => ?_)
    clear hK K
    try go_frame
    refine held_pure (i := 23) (oi := ⟨some 21, _, _, _, _, _⟩) rfl (by kernel_rfl) (by kernel_rfl) (by kernel_rfl) (fun _ _ _ h => h) (by rfl) (v := ?_) (fun w hSw => ?_) hS (fun hS => ?_)
    rotate_left
    · go_simp; try with_reducible rfl
    try go_frame
    refine held_pure (i := 24) (oi := ⟨some 45, _, _, _, _, _⟩) rfl (by kernel_rfl) (by kernel_rfl) (by kernel_rfl) (fun _ _ _ h => h) (by rfl) (v := ?_) (fun w hSw => ?_) hS (fun hS => ?_)
    rotate_left
    · go_simp; try with_reducible rfl
    try go_frame
    refine held_pure (i := 25) (oi := ⟨some 46, _, _, _, _, _⟩) rfl (by kernel_rfl) (by kernel_rfl) (by kernel_rfl) (fun _ _ _ h => h) (by rfl) (v := ?_) (fun w hSw => ?_) hS (fun hS => ?_)
    rotate_left
    · go_simp; try with_reducible rfl
    try go_frame
    refine held_pure (i := 26) (oi := ⟨some 47, _, _, _, _, _⟩) rfl (by kernel_rfl) (by kernel_rfl) (by kernel_rfl) (fun _ _ _ h => h) (by rfl) (v := ?_) (fun w hSw => ?_) hS (fun hS => ?_)
    rotate_left
    · go_simp; try with_reducible rfl
    try go_frame
    refine held_pure (i := 27) (oi := ⟨some 48, _, _, _, _, _⟩) rfl (by kernel_rfl) (by kernel_rfl) (by kernel_rfl) (fun _ _ _ h => h) (by rfl) (v := ?_) (fun w hSw => ?_) hS (fun hS => ?_)
    rotate_left
    · go_simp; try with_reducible rfl
    try go_frame
    refine held_pure (i := 28) (oi := ⟨some 9, _, _, _, _, _⟩) rfl (by kernel_rfl) (by kernel_rfl) (by kernel_rfl) (fun _ _ _ h => h) (by rfl) (v := ?_) (fun w hSw => ?_) hS (fun hS => ?_)
    rotate_left
    · go_simp; try with_reducible rfl
    try go_frame
    refine held_pure (i := 29) (oi := ⟨some 10, _, _, _, _, _⟩) rfl (by kernel_rfl) (by kernel_rfl) (by kernel_rfl) (fun _ _ _ h => h) (by rfl) (v := ?_) (fun w hSw => ?_) hS (fun hS => ?_)
    rotate_left
    · go_simp; try with_reducible rfl
    try go_frame
    refine held_pure (i := 30) (oi := ⟨some 11, _, _, _, _, _⟩) rfl (by kernel_rfl) (by kernel_rfl) (by kernel_rfl) (fun _ _ _ h => h) (by rfl) (v := ?_) (fun w hSw => ?_) hS (fun hS => ?_)
    rotate_left
    · go_simp; try with_reducible rfl
    try go_frame
    refine held_pure (i := 31) (oi := ⟨some 12, _, _, _, _, _⟩) rfl (by kernel_rfl) (by kernel_rfl) (by kernel_rfl) (fun _ _ _ h => h) (by rfl) (v := ?_) (fun w hSw => ?_) hS (fun hS => ?_)
    rotate_left
    · go_simp; try with_reducible rfl
    try go_frame
    refine wpAnyH_done (by kernel_rfl) ?_ _
    go_wp2_with fail
    refine bodyPost_ret (results_tmp2 rfl _ _ _) rfl ?_
    exact ⟨Lib.hid rfl, nj_trans bV yZ9, _, HF9.out⟩
  · rw [if_pos (by rfl)]
    go_simp
    have gh : Arg (Z.alloc (.cells #[.int .u8 4] 5)) (Z.alloc (.cells #[.int .u8 4] 5)).heap.size (some ⟨Z.heap.size, 0, none⟩) 1 [4] := ⟨Rd.of_range (range_hpR (World.alloc_heap_new Z _)) (by simp), by decide, fun e => by cases e⟩
    have yZ := yZ.alloc yZ.size (.cells #[.int .u8 4] 5)
    show K _ (Z.alloc (.cells #[.int .u8 4] 5))
    refine hK.out _ _ (Kept.of_below yZ) (fun hS => ?_)
    clear hK K
    generalize Z.heap.size = hk at *
    generalize Z.alloc (.cells #[.int .u8 4] 5) = Z at *
    try go_frame
    refine wpAnyH_ready (rs := [7, 17]) (by kernel_rfl) (by simp) (AllReadyH.cons (o := ⟨some 29, _, _, _, _, _⟩) rfl (fun K hK => ?_) (AllReadyH.cons (o := ⟨some 39, _, _, _, _, _⟩) rfl (fun K hK => ?_) AllReadyH.nil))
    · rw [if_pos (by rfl)]
      go_simp
      refine (bkey p A c Z HG.out.src HG.out.dst).mono ?_
      rintro e Z ⟨rfl, x7⟩
      try have gh := (gh.below x7).more x7.size
      have yZ := yZ.trans (x7.mono yZ.size)
      clear x7
      show K _ _
      refine hK.out _ _ (Kept.of_below yZ) (fun hS => ?_)
      clear hK K
      try go_frame
      refine wpAnyH_ready (rs := [17]) (by kernel_rfl) (by simp) (AllReadyH.cons (o := ⟨some 39, _, _, _, _, _⟩) rfl (fun K hK => ?_) AllReadyH.nil)
      rw [if_pos (by rfl)]
      refine wp_valR (run_convB rfl rfl rfl gh (by decide)) ?_
      refine hK _ _ (Kept.of_below yZ) (fun hS => ?_)
      clear hK K
      try go_frame
      refine wpAnyH_ready (rs := [22]) (by kernel_rfl) (by simp) (AllReadyH.cons (o := ⟨some 44, _, _, _, _, _⟩) rfl (fun K hK => ?_) AllReadyH.nil)
      rw [if_pos (by rfl)]
      go_simp
      refine (kadd_says (HFV.out.below yZ).jv HFV.out.sm (by decide) keyK [4] (prtF p).off 0 (prtF p).more P7 p7 (prtB p) ((gV.below yZ).more yZ.size) (by unfold maxLen; decide) HPL.out (by have := HG.out.off; omega) HN.out HSL.out (Nat.le_trans HFV.out.be yZ.size)).mono ?_
      rintro e Z9 hans
      rw [HR.out] at hans
      obtain ⟨V9, S', rfl, o9, j9, s9, k9, _⟩ := hans
      have yZ9 := nj_trans yZ k9
      have HF9 := Lib.hid ((HFV.out.below yZ).tab j9 s9 k9)
      have HO9 := Lib.hid (own_base o9 yZ.size)
      clear j9 s9 k9 o9
      show K _ _
      refine hK.out _ _ yZ9 (fun hS => ?_)
      clear hK K
      try go_frame
      refine held_pure (i := 23) (oi := ⟨some 21, _, _, _, _, _⟩) rfl (by kernel_rfl) (by kernel_rfl) (by kernel_rfl) (fun _ _ _ h => h) (by rfl) (v := ?_) (fun w hSw => ?_) hS (fun hS => ?_)
      rotate_left
      · go_simp; try with_reducible rfl
      try go_frame
      refine held_pure (i := 24) (oi := ⟨some 45, _, _, _, _, _⟩) rfl (by kernel_rfl) (by kernel_rfl) (by kernel_rfl) (fun _ _ _ h => h) (by rfl) (v := ?_) (fun w hSw => ?_) hS (fun hS => ?_)
      rotate_left
      · go_simp; try with_reducible rfl
      try go_frame
      refine held_pure (i := 25) (oi := ⟨some 46, _, _, _, _, _⟩) rfl (by kernel_rfl) (by kernel_rfl) (by kernel_rfl) (fun _ _ _ h => h) (by rfl) (v := ?_) (fun w hSw => ?_) hS (fun hS => ?_)
      rotate_left
      · go_simp; try with_reducible rfl
      try go_frame
      refine held_pure (i := 26) (oi := ⟨some 47, _, _, _, _, _⟩) rfl (by kernel_rfl) (by kernel_rfl) (by kernel_rfl) (fun _ _ _ h => h) (by rfl) (v := ?_) (fun w hSw => ?_) hS (fun hS => ?_)
      rotate_left
      · go_simp; try with_reducible rfl
      try go_frame
      refine held_pure (i := 27) (oi := ⟨some 48, _, _, _, _, _⟩) rfl (by kernel_rfl) (by kernel_rfl) (by kernel_rfl) (fun _ _ _ h => h) (by rfl) (v := ?_) (fun w hSw => ?_) hS (fun hS => ?_)
      rotate_left
      · go_simp; try with_reducible rfl
      try go_frame
      refine held_pure (i := 28) (oi := ⟨some 9, _, _, _, _, _⟩) rfl (by kernel_rfl) (by kernel_rfl) (by kernel_rfl) (fun _ _ _ h => h) (by rfl) (v := ?_) (fun w hSw => ?_) hS (fun hS => ?_)
      rotate_left
      · go_simp; try with_reducible rfl
      try go_frame
      refine held_pure (i := 29) (oi := ⟨some 10, _, _, _, _, _⟩) rfl (by kernel_rfl) (by kernel_rfl) (by kernel_rfl) (fun _ _ _ h => h) (by rfl) (v := ?_) (fun w hSw => ?_) hS (fun hS => ?_)
      rotate_left
      · go_simp; try with_reducible rfl
      try go_frame
      refine held_pure (i := 30) (oi := ⟨some 11, _, _, _, _, _⟩) rfl (by kernel_rfl) (by kernel_rfl) (by kernel_rfl) (fun _ _ _ h => h) (by rfl) (v := ?_) (fun w hSw => ?_) hS (fun hS => ?_)
      rotate_left
      · go_simp; try with_reducible rfl
      try go_frame
      refine held_pure (i := 31) (oi := ⟨some 12, _, _, _, _, _⟩) rfl (by kernel_rfl) (by kernel_rfl) (by kernel_rfl) (fun _ _ _ h => h) (by rfl) (v := ?_) (fun w hSw => ?_) hS (fun hS => ?_)
      rotate_left
      · go_simp; try with_reducible rfl
      try go_frame
      refine wpAnyH_done (by kernel_rfl) ?_ _
      go_wp2_with fail
      refine bodyPost_ret (results_tmp2 rfl _ _ _) rfl ?_
      exact ⟨Lib.hid rfl, nj_trans bV yZ9, _, HF9.out⟩
    · rw [if_pos (by rfl)]
      refine wp_valR (run_convB rfl rfl rfl gh (by decide)) ?_
      refine hK _ _ (Kept.of_below yZ) (fun hS => ?_)
      clear hK K
      try go_frame
      refine wpAnyH_ready (rs := [7]) (by kernel_rfl) (by simp) (AllReadyH.cons (o := ⟨some 29, _, _, _, _, _⟩) rfl (fun K hK => ?_) AllReadyH.nil)
      rw [if_pos (by rfl)]
      go_simp
      refine (bkey p A c Z HG.out.src HG.out.dst).mono ?_
      rintro e Z ⟨rfl, x7⟩
      try have gh := (gh.below x7).more x7.size
      have yZ := yZ.trans (x7.mono yZ.size)
      clear x7
      show K _ _
      refine hK.out _ _ (Kept.of_below yZ) (fun hS => ?_)
      clear hK K
      try go_frame
      refine wpAnyH_ready (rs := [22]) (by kernel_rfl) (by simp) (AllReadyH.cons (o := ⟨some 44, _, _, _, _, _⟩) rfl (fun K hK => ?_) AllReadyH.nil)
      rw [if_pos (by rfl)]
      go_simp
      refine (kadd_says (HFV.out.below yZ).jv HFV.out.sm (by decide) keyK [4] (prtF p).off 0 (prtF p).more P7 p7 (prtB p) ((gV.below yZ).more yZ.size) (by unfold maxLen; decide) HPL.out (by have := HG.out.off; omega) HN.out HSL.out (Nat.le_trans HFV.out.be yZ.size)).mono ?_
      rintro e Z9 hans
      rw [HR.out] at hans
      obtain ⟨V9, S', rfl, o9, j9, s9, k9, _⟩ := hans
      have yZ9 := nj_trans yZ k9
      have HF9 := Lib.hid ((HFV.out.below yZ).tab j9 s9 k9)
      have HO9 := Lib.hid (own_base o9 yZ.size)
      clear j9 s9 k9 o9
      show K _ _
      refine hK.out _ _ yZ9 (fun hS => ?_)
      clear hK K
      try go_frame
      refine held_pure (i := 23) (oi := ⟨some 21, _, _, _, _, _⟩) rfl (by kernel_rfl) (by kernel_rfl) (by kernel_rfl) (fun _ _ _ h => h) (by rfl) (v := ?_) (fun w hSw => ?_) hS (fun hS => ?_)
      rotate_left
      · go_simp; try with_reducible rfl
      try go_frame
      refine held_pure (i := 24) (oi := ⟨some 45, _, _, _, _, _⟩) rfl (by kernel_rfl) (by kernel_rfl) (by kernel_rfl) (fun _ _ _ h => h) (by rfl) (v := ?_) (fun w hSw => ?_) hS (fun hS => ?_)
      rotate_left
      · go_simp; try with_reducible rfl
      try go_frame
      refine held_pure (i := 25) (oi := ⟨some 46, _, _, _, _, _⟩) rfl (by kernel_rfl) (by kernel_rfl) (by kernel_rfl) (fun _ _ _ h => h) (by rfl) (v := ?_) (fun w hSw => ?_) hS (fun hS => ?_)
      rotate_left
      · go_simp; try with_reducible rfl
      try go_frame
      refine held_pure (i := 26) (oi := ⟨some 47, _, _, _, _, _⟩) rfl (by kernel_rfl) (by kernel_rfl) (by kernel_rfl) (fun _ _ _ h => h) (by rfl) (v := ?_) (fun w hSw => ?_) hS (fun hS => ?_)
      rotate_left
      · go_simp; try with_reducible rfl
      try go_frame
      refine held_pure (i := 27) (oi := ⟨some 48, _, _, _, _, _⟩) rfl (by kernel_rfl) (by kernel_rfl) (by kernel_rfl) (fun _ _ _ h => h) (by rfl) (v := ?_) (fun w hSw => ?_) hS (fun hS => ?_)
      rotate_left
      · go_simp; try with_reducible rfl
      try go_frame
      refine held_pure (i := 28) (oi := ⟨some 9, _, _, _, _, _⟩) rfl (by kernel_rfl) (by kernel_rfl) (by kernel_rfl) (fun _ _ _ h => h) (by rfl) (v := ?_) (fun w hSw => ?_) hS (fun hS => ?_)
      rotate_left
      · go_simp; try with_reducible rfl
      try go_frame
      refine held_pure (i := 29) (oi := ⟨some 10, _, _, _, _, _⟩) rfl (by kernel_rfl) (by kernel_rfl) (by kernel_rfl) (fun _ _ _ h => h) (by rfl) (v := ?_) (fun w hSw => ?_) hS (fun hS => ?_)
      rotate_left
      · go_simp; try with_reducible rfl
      try go_frame
      refine held_pure (i := 30) (oi := ⟨some 11, _, _, _, _, _⟩) rfl (by kernel_rfl) (by kernel_rfl) (by kernel_rfl) (fun _ _ _ h => h) (by rfl) (v := ?_) (fun w hSw => ?_) hS (fun hS => ?_)
      rotate_left
      · go_simp; try with_reducible rfl
      try go_frame
      refine held_pure (i := 31) (oi := ⟨some 12, _, _, _, _, _⟩) rfl (by kernel_rfl) (by kernel_rfl) (by kernel_rfl) (fun _ _ _ h => h) (by rfl) (v := ?_) (fun w hSw => ?_) hS (fun hS => ?_)
      rotate_left
      · go_simp; try with_reducible rfl
      try go_frame
      refine wpAnyH_done (by kernel_rfl) ?_ _
      go_wp2_with fail
      refine bodyPost_ret (results_tmp2 rfl _ _ _) rfl ?_
      exact ⟨Lib.hid rfl, nj_trans bV yZ9, _, HF9.out⟩
set_option maxRecDepth 100000 in
set_option maxHeartbeats 4000000 in
theorem bpart_last (h : Bf4 B0 w x t bm k m 0 id N S T L) (hN : N + 1 ≤ 100000) (p : P6) (A : Option Addr) (c : Nat) (hA : Arg w w.heap.size A c p.dat) (hg : FragQ p) (q : P4) (hq : Sent q) (hr : addJ 4 10000 T keyK (pcOf p) [4] 0 = (T', [4], bld4 q, true, 0)) :
    Calls Tryz.prog 73 #[.pointer (some ⟨x, 0, none⟩), .agg (v6a p A c)] w fun e w' => ∃ v l, Hid (e = .returned (.tuple #[v, .int .i64 0])) ∧ RowY w' w.heap.size v l ∧ Hid (l.map (·.b) = [bld4 q]) ∧ Kept (NJ B0 w) w w' ∧ ∃ S', Bf4 B0 w' x t bm k m 0 id (N + 1) S' T' L := by
  have HQ := Lib.hid hq
  clear hq
  have hb0 := (Below.refl _ w).alloc (Nat.le_refl _) (.cells (v6a p A c) 38)
  have k0 := World.alloc_heap_new w (.cells (v6a p A c) 38)
  have HG := Lib.hid hg
  have HR : Hid (addJ 4 10000 T keyK ⟨(prtF p).off, (prtF p).more, prtB p⟩ [4] 0 = (T', [4], bld4 q, true, 0)) := Lib.hid hr
  have HN := Lib.hid hN
  have hA0 := hA.below hb0
  have HF0 := Lib.hid (h.below hb0)
  have HSL : Hid (S.length < 1000000) := Lib.hid (by have := h.jv.n; omega)
  have hz0 := hb0.size
  have zg := heap_lt k0
  have HDL : Hid (p.dat.length ≤ 1000000) := Lib.hid (by have := hg.len; omega)
  have HPL : Hid ((prtB p).length ≤ 1000000) := Lib.hid (by
    have h1 := hg.len
    rw [prtB, if_pos hg.next]
    have := rstF_len p.dat
    omega)
  clear h hA hg hr hN
  go_enter Tryz.func73, Tryz.ntmps73
  go_upto_region 1 with fail
  generalize w.alloc (.cells (v6a p A c) 38) = W at *
  have at0 : At6 W w.heap.size p A c := range_hpR k0
  have h6 := HG.out.h6
  go_upto_region 2 with (first
    | ((with_reducible show wpList _ _ _ (Oper.mk _ (Op.load 38 _) _ _ _ _ :: _) _ _); refine wpList_val rfl (run_load_v6 rfl rfl at0 (v6l_len h6.1 h6.2)) ?_)
    | (go_at_call 12; refine (c14part p A c w.heap.size W h6 hA0 hz0 HDL.out).mono ?_; rintro e w7 ⟨P7, p7, rfl, g7, x7⟩; rw [HG.out.ok])
    | ((with_reducible show wpList _ _ _ (Oper.mk _ (Op.store 42 _ _) _ _ _ _ :: _) _ _); refine fr_store_new (cs := fra (prtF p)) rfl rfl rfl rfl (fra_one _) ?_))
  have kf := World.alloc_heap_new w7 (.cells (fra (prtF p)) 42)
  have a7 : Below w7.heap.size w7 (w7.alloc (.cells (fra (prtF p)) 42)) := (Below.refl _ w7).alloc (Nat.le_refl _) _
  have y7 : Below W.heap.size W (w7.alloc (.cells (fra (prtF p)) 42)) := x7.trans (a7.mono x7.size)
  have gV := (g7.below a7).more a7.size
  clear g7
  generalize w7.alloc (.cells (fra (prtF p)) 42) = V at *
  generalize w7.heap.size = fb at *
  have kV := (y7.block _ zg).trans k0
  have HFV := Lib.hid (HF0.out.below y7)
  have bV := hb0.trans (y7.mono hz0)
  have atF : AtF V fb (prtF p) := atF_of kf
  have KT : Hid (∀ X, Kept (NJ B0 V) V X → X.cell? ⟨x, 37, none⟩ = some (.pointer (some ⟨t, 0, none⟩))) := Lib.hid (fun X hX => cellC (nj_stay hX HFV.out.obj tj32.1) rfl)
  have KN : Hid (∀ X, Kept (NJ B0 V) V X → X.cell? ⟨x, 39, none⟩ = some (.int .i64 0)) := Lib.hid (fun X hX => cellC (nj_stay hX HFV.out.obj tj32.1) rfl)
  have KQ : Hid (∀ X, Kept (NJ B0 V) V X → At6 X w.heap.size p A c) := Lib.hid (fun X hX => range_hpR (nj_stay hX kV tj32.2.2.1))
  have KF : ∀ X, Kept (NJ B0 V) V X → X.heap[fb]? = some (.cells (fra (prtF p)) 42 (0, 0)) := fun X hX => nj_stay hX kf tj32.2.2.2.1
  have KI : Hid (∀ X, Kept (NJ B0 V) V X → X.cell? ⟨fb, 2, none⟩ = some (.int .i64 77)) := Lib.hid (fun X hX => by rw [← HG.out.id]; exact cellC (KF X hX) rfl)
  have KO : Hid (∀ X, Kept (NJ B0 V) V X → X.cell? ⟨fb, 1, none⟩ = some (.int .i64 (prtF p).off)) := Lib.hid (fun X hX => cellC (KF X hX) rfl)
  have KM : Hid (∀ X, Kept (NJ B0 V) V X → X.cell? ⟨fb, 3, none⟩ = some (.bool (prtF p).more)) := Lib.hid (fun X hX => cellC (KF X hX) rfl)
  have KX : Hid (∀ X, Kept (NJ B0 V) V X → X.cell? ⟨fb, 0, none⟩ = some (.int .i64 4)) := Lib.hid (fun X hX => by rw [← HG.out.nx]; exact cellC (KF X hX) rfl)
  have HKV := Lib.hid kV
  clear at0 k0 kf x7 a7 y7 hA0 KF atF kV
  go_upto_region 4 with fail
  refine wp_region_held_drew (S := fun X => Kept (NJ B0 V) V X) (by kernel_rfl) (Kept.drew V) (fun hS => ?_)
  have yZ : Below V.heap.size V V.drew := (Below.refl _ V).drew
  clear hS
  have hS : Kept (NJ B0 V) V V.drew := Kept.drew V
  generalize V.drew = Z at *
  refine held_pure (i := 0) (oi := ⟨some 22, _, _, _, _, _⟩) rfl (by kernel_rfl) (by kernel_rfl) (by kernel_rfl) (fun _ _ _ h => h) (by rfl) (v := ?_) (fun w hSw => ?_) hS (fun hS => ?_)
  rotate_left
  · go_simp; try with_reducible rfl
  try go_frame
  refine held_pure (i := 1) (oi := ⟨some 23, _, _, _, _, _⟩) rfl (by kernel_rfl) (by kernel_rfl) (by kernel_rfl) (fun _ _ _ h => h) (by rfl) (v := ?_) (fun w hSw => ?_) hS (fun hS => ?_)
  rotate_left
  · go_simp; try with_reducible rfl
  try go_frame
  refine held_pure (i := 2) (oi := ⟨some 24, _, _, _, _, _⟩) rfl (by kernel_rfl) (by kernel_rfl) (by kernel_rfl) (fun _ _ _ h => h) (by rfl) (v := ?_) (fun w hSw => ?_) hS (fun hS => ?_)
  rotate_left
  · go_simp; try with_reducible rfl
  try go_frame
  refine held_pure (i := 3) (oi := ⟨some 25, _, _, _, _, _⟩) rfl (by kernel_rfl) (by kernel_rfl) (by kernel_rfl) (fun _ _ _ h => h) (by rfl) (fun w hSw => run_load_tb rfl rfl (KT.out w hSw)) hS (fun hS => ?_)
  try go_frame
  refine held_pure (i := 4) (oi := ⟨some 26, _, _, _, _, _⟩) rfl (by kernel_rfl) (by kernel_rfl) (by kernel_rfl) (fun _ _ _ h => h) (by rfl) (fun w hSw => run_load_v6 rfl rfl (KQ.out w hSw) (v6l_len HG.out.h6.1 HG.out.h6.2)) hS (fun hS => ?_)
  try go_frame
  refine held_pure (i := 5) (oi := ⟨some 27, _, _, _, _, _⟩) rfl (by kernel_rfl) (by kernel_rfl) (by kernel_rfl) (fun _ _ _ h => h) (by rfl) (v := ?_) (fun w hSw => ?_) hS (fun hS => ?_)
  rotate_left
  · go_simp; try with_reducible rfl
  try go_frame
  refine held_pure (i := 6) (oi := ⟨some 28, _, _, _, _, _⟩) rfl (by kernel_rfl) (by kernel_rfl) (by kernel_rfl) (fun _ _ _ h => h) (by rfl) (fun w hSw => run_load_int rfl rfl (KI.out w hSw)) hS (fun hS => ?_)
  try go_frame
  refine held_pure (i := 8) (oi := ⟨some 30, _, _, _, _, _⟩) rfl (by kernel_rfl) (by kernel_rfl) (by kernel_rfl) (fun _ _ _ h => h) (by rfl) (v := ?_) (fun w hSw => ?_) hS (fun hS => ?_)
  rotate_left
  · go_simp; try with_reducible rfl
  try go_frame
  refine held_pure (i := 9) (oi := ⟨some 31, _, _, _, _, _⟩) rfl (by kernel_rfl) (by kernel_rfl) (by kernel_rfl) (fun _ _ _ h => h) (by rfl) (fun w hSw => run_load_int rfl rfl (KO.out w hSw)) hS (fun hS => ?_)
  try go_frame
  refine held_pure (i := 10) (oi := ⟨some 32, _, _, _, _, _⟩) rfl (by kernel_rfl) (by kernel_rfl) (by kernel_rfl) (fun _ _ _ h => h) (by rfl) (v := ?_) (fun w hSw => ?_) hS (fun hS => ?_)
  rotate_left
  · go_simp; try with_reducible rfl
  try go_frame
  refine held_pure (i := 11) (oi := ⟨some 33, _, _, _, _, _⟩) rfl (by kernel_rfl) (by kernel_rfl) (by kernel_rfl) (fun _ _ _ h => h) (by rfl) (fun w hSw => run_load_bool rfl rfl (KM.out w hSw)) hS (fun hS => ?_)
  try go_frame
  refine held_pure (i := 12) (oi := ⟨some 34, _, _, _, _, _⟩) rfl (by kernel_rfl) (by kernel_rfl) (by kernel_rfl) (fun _ _ _ h => h) (by rfl) (v := ?_) (fun w hSw => ?_) hS (fun hS => ?_)
  rotate_left
  · go_simp; try with_reducible rfl
  try go_frame
  refine held_pure (i := 13) (oi := ⟨some 35, _, _, _, _, _⟩) rfl (by kernel_rfl) (by kernel_rfl) (by kernel_rfl) (fun _ _ _ h => h) (by rfl) (v := ?_) (fun w hSw => ?_) hS (fun hS => ?_)
  rotate_left
  · go_simp; try with_reducible rfl
  try go_frame
  refine held_pure (i := 14) (oi := ⟨some 36, _, _, _, _, _⟩) rfl (by kernel_rfl) (by kernel_rfl) (by kernel_rfl) (fun _ _ _ h => h) (by rfl) (fun w hSw => run_load_int rfl rfl (KX.out w hSw)) hS (fun hS => ?_)
  try go_frame
  refine held_pure (i := 15) (oi := ⟨some 37, _, _, _, _, _⟩) rfl (by kernel_rfl) (by kernel_rfl) (by kernel_rfl) (fun _ _ _ h => h) (by rfl) (v := ?_) (fun w hSw => ?_) hS (fun hS => ?_)
  rotate_left
  · go_simp; try with_reducible rfl
  try go_frame
  refine held_pure (i := 18) (oi := ⟨some 40, _, _, _, _, _⟩) rfl (by kernel_rfl) (by kernel_rfl) (by kernel_rfl) (fun _ _ _ h => h) (by rfl) (v := ?_) (fun w hSw => ?_) hS (fun hS => ?_)
  rotate_left
  · go_simp; try with_reducible rfl
  try go_frame
  refine held_pure (i := 19) (oi := ⟨some 41, _, _, _, _, _⟩) rfl (by kernel_rfl) (by kernel_rfl) (by kernel_rfl) (fun _ _ _ h => h) (by rfl) (v := ?_) (fun w hSw => ?_) hS (fun hS => ?_)
  rotate_left
  · go_simp; try with_reducible rfl
  try go_frame
  refine held_pure (i := 20) (oi := ⟨some 42, _, _, _, _, _⟩) rfl (by kernel_rfl) (by kernel_rfl) (by kernel_rfl) (fun _ _ _ h => h) (by rfl) (v := ?_) (fun w hSw => ?_) hS (fun hS => ?_)
  rotate_left
  · go_simp; try with_reducible rfl
  try go_frame
  refine held_pure (i := 21) (oi := ⟨some 43, _, _, _, _, _⟩) rfl (by kernel_rfl) (by kernel_rfl) (by kernel_rfl) (fun _ _ _ h => h) (by rfl) (fun w hSw => run_load_int rfl rfl (KN.out w hSw)) hS (fun hS => ?_)
  try go_frame
  refine wpAnyH_ready (rs := [7, 16]) (by kernel_rfl) (by simp) (AllReadyH.cons (o := ⟨some 29, _, _, _, _, _⟩) rfl (fun K hK => ?_) (AllReadyH.cons (o := ⟨some 38, _, _, _, _, _⟩) rfl (fun K hK => ?_) AllReadyH.nil))
  · rw [if_pos (by rfl)]
    go_simp
    refine (bkey p A c Z HG.out.src HG.out.dst).mono ?_
    rintro e Z ⟨rfl, x7⟩
    try have gh := (gh.below x7).more x7.size
    have yZ := yZ.trans (x7.mono yZ.size)
    clear x7
    show K _ _
    refine hK.out _ _ (Kept.of_below yZ) (fun hS => ?_)
    clear hK K
    try go_frame
    refine wpAnyH_ready (rs := [16]) (by kernel_rfl) (by simp) (AllReadyH.cons (o := ⟨some 38, _, _, _, _, _⟩) rfl (fun K hK => ?_) AllReadyH.nil)
    rw [if_pos (by rfl)]
    go_simp
    have gh : Arg (Z.alloc (.cells #[.int .u8 4] 5)) (Z.alloc (.cells #[.int .u8 4] 5)).heap.size (some ⟨Z.heap.size, 0, none⟩) 1 [4] := ⟨Rd.of_range (range_hpR (World.alloc_heap_new Z _)) (by simp), by decide, fun e => by cases e⟩
    have yZ := yZ.alloc yZ.size (.cells #[.int .u8 4] 5)
    show K _ (Z.alloc (.cells #[.int .u8 4] 5))
    refine hK.out _ _ (Kept.of_below yZ) (fun hS => ?_)
    clear hK K
    generalize Z.heap.size = hk at *
    generalize Z.alloc (.cells #[.int .u8 4] 5) = Z at *
    try go_frame
    refine wpAnyH_ready (rs := [17]) (by kernel_rfl) (by simp) (AllReadyH.cons (o := ⟨some 39, _, _, _, _, _⟩) rfl (fun K hK => ?_) AllReadyH.nil)
    rw [if_pos (by rfl)]
    refine wp_valR (run_convB rfl rfl rfl gh (by decide)) ?_
    refine hK _ _ (Kept.of_below yZ) (fun hS => ?_)
    clear hK K
    try go_frame
    refine wpAnyH_ready (rs := [22]) (by kernel_rfl) (by simp) (AllReadyH.cons (o := ⟨some 44, _, _, _, _, _⟩) rfl (fun K hK => ?_) AllReadyH.nil)
    rw [if_pos (by rfl)]
    go_simp
    refine (kadd_says (HFV.out.below yZ).jv HFV.out.sm (by decide) keyK [4] (prtF p).off 0 (prtF p).more P7 p7 (prtB p) ((gV.below yZ).more yZ.size) (by unfold maxLen; decide) HPL.out (by have := HG.out.off; omega) HN.out HSL.out (Nat.le_trans HFV.out.be yZ.size)).mono ?_
    rintro e Z9 hans
    rw [HR.out] at hans
    obtain ⟨V9, S', rfl, o9, j9, s9, k9, _⟩ := hans
    have yZ9 := nj_trans yZ k9
    have HF9 := Lib.hid ((HFV.out.below yZ).tab j9 s9 k9)
    have HO9 := Lib.hid (own_base o9 yZ.size)
    clear j9 s9 k9 o9
    show K _ _
    refine hK.out _ _ yZ9 (fun hS => ?_)
    clear hK K
    try go_frame
    refine held_pure (i := 23) (oi := ⟨some 21, _, _, _, _, _⟩) rfl (by kernel_rfl) (by kernel_rfl) (by kernel_rfl) (fun _ _ _ h => h) (by rfl) (v := ?_) (fun w hSw => ?_) hS (fun hS => ?_)
    rotate_left
    · go_simp; try with_reducible rfl
    try go_frame
    refine held_pure (i := 24) (oi := ⟨some 45, _, _, _, _, _⟩) rfl (by kernel_rfl) (by kernel_rfl) (by kernel_rfl) (fun _ _ _ h => h) (by rfl) (v := ?_) (fun w hSw => ?_) hS (fun hS => ?_)
    rotate_left
    · go_simp; try with_reducible rfl
    try go_frame
    refine held_pure (i := 25) (oi := ⟨some 46, _, _, _, _, _⟩) rfl (by kernel_rfl) (by kernel_rfl) (by kernel_rfl) (fun _ _ _ h => h) (by rfl) (v := ?_) (fun w hSw => ?_) hS (fun hS => ?_)
    rotate_left
    · go_simp; try with_reducible rfl
    try go_frame
    refine held_pure (i := 26) (oi := ⟨some 47, _, _, _, _, _⟩) rfl (by kernel_rfl) (by kernel_rfl) (by kernel_rfl) (fun _ _ _ h => h) (by rfl) (v := ?_) (fun w hSw => ?_) hS (fun hS => ?_)
    rotate_left
    · go_simp; try with_reducible rfl
    try go_frame
    refine held_pure (i := 27) (oi := ⟨some 48, _, _, _, _, _⟩) rfl (by kernel_rfl) (by kernel_rfl) (by kernel_rfl) (fun _ _ _ h => h) (by rfl) (v := ?_) (fun w hSw => ?_) hS (fun hS => ?_)
    rotate_left
    · go_simp; try with_reducible rfl
    try go_frame
    refine held_pure (i := 28) (oi := ⟨some 9, _, _, _, _, _⟩) rfl (by kernel_rfl) (by kernel_rfl) (by kernel_rfl) (fun _ _ _ h => h) (by rfl) (v := ?_) (fun w hSw => ?_) hS (fun hS => ?_)
    rotate_left
    · go_simp; try with_reducible rfl
    try go_frame
    refine held_pure (i := 29) (oi := ⟨some 10, _, _, _, _, _⟩) rfl (by kernel_rfl) (by kernel_rfl) (by kernel_rfl) (fun _ _ _ h => h) (by rfl) (v := ?_) (fun w hSw => ?_) hS (fun hS => ?_)
    rotate_left
    · go_simp; try with_reducible rfl
    try go_frame
    refine held_pure (i := 30) (oi := ⟨some 11, _, _, _, _, _⟩) rfl (by kernel_rfl) (by kernel_rfl) (by kernel_rfl) (fun _ _ _ h => h) (by rfl) (v := ?_) (fun w hSw => ?_) hS (fun hS => ?_)
    rotate_left
    · go_simp; try with_reducible rfl
    try go_frame
    refine held_pure (i := 31) (oi := ⟨some 12, _, _, _, _, _⟩) rfl (by kernel_rfl) (by kernel_rfl) (by kernel_rfl) (fun _ _ _ h => h) (by rfl) (v := ?_) (fun w hSw => ?_) hS (fun hS => ?_)
    rotate_left
    · go_simp; try with_reducible rfl
    try go_frame
    refine wpAnyH_done (by kernel_rfl) ?_ _
    obtain ⟨A9, c9, rfl⟩ := own_slice HO9.out
    have HK9 := Lib.hid (nj_stay yZ9 HKV.out tj32.2.2.1)
    have f2 := heap_frozen HK9.out 2
    have k2 := (show At6 Z9 w.heap.size p A c from range_hpR HK9.out).next
    have ks := heap_setCell_same Z9 w.heap.size 2 _ _ (.int .i64 4) HK9.out
    rw [set_next] at ks
    have f36 := heap_frozen ks 36
    have k36 := (show At6 (Z9.setCell ⟨w.heap.size, 2, none⟩ (.int .i64 4)) w.heap.size { p with next := 4 } A c from range_hpR ks).dat HG.out.h6.1 HG.out.h6.2
    have kt := heap_setCell_same (Z9.setCell ⟨w.heap.size, 2, none⟩ (.int .i64 4)) w.heap.size 36 _ _ (.slice A9 (bld4 q).length c9) ks
    rw [set_dat { p with next := 4 } A A9 c c9 (bld4 q) HG.out.h6.1 HG.out.h6.2] at kt
    have HT := Lib.hid kt
    have HF10 := Lib.hid ((HF9.out.box HK9.out 2 (.int .i64 4)).box ks 36 (.slice A9 (bld4 q).length c9))
    have HO10 : Hid (((Z9.setCell ⟨w.heap.size, 2, none⟩ (.int .i64 4)).setCell ⟨w.heap.size, 36, none⟩ (.slice A9 (bld4 q).length c9)).ownsRow V.heap.size 5 1 (.slice A9 (bld4 q).length c9) (bld4 q).length (row (bld4 q))) := Lib.hid (own_setCell (own_setCell HO9.out (p := ⟨w.heap.size, 2, none⟩) (by have := heap_lt HKV.out; exact this)) (p := ⟨w.heap.size, 36, none⟩) (by have := heap_lt HKV.out; exact this))
    have KZ : Kept (NJ B0 w) w ((Z9.setCell ⟨w.heap.size, 2, none⟩ (.int .i64 4)).setCell ⟨w.heap.size, 36, none⟩ (.slice A9 (bld4 q).length c9)) := ((nj_trans bV yZ9).trans (Kept.setCell _ _ _ _) (fun i hi e => absurd e (by omega))).trans (Kept.setCell _ _ _ _) (fun i hi e => absurd e (by omega))
    have hw4 := w4_four
    clear kt
    go_upto_region 10 with fail
    generalize (Z9.setCell ⟨w.heap.size, 2, none⟩ (.int .i64 4)).setCell ⟨w.heap.size, 36, none⟩ (.slice A9 (bld4 q).length c9) = X at *
    have at10 : At6 X w.heap.size { p with next := 4, dat := bld4 q } A9 c9 := range_hpR HT.out
    have h10 : ok6 { p with next := 4, dat := bld4 q } := HG.out.h6
    have hA10 := arg_own HO10.out
    clear k2 f2 k36 f36 ks
    go_wp2_with (first
      | ((with_reducible show wpList _ _ _ (Oper.mk _ (Op.load 38 _) _ _ _ _ :: _) _ _); refine wpList_val rfl (run_load_v6 rfl rfl at10 (v6l_len h10.1 h10.2)) ?_)
      | (go_at_call 74; refine (bwithin { p with next := 4, dat := bld4 q } q A9 c9 X h10 hA10 rfl rfl HQ.out).mono ?_; rintro e w11 ⟨v11, l11, he, r11, q11, x11⟩; obtain rfl := he.out; clear he))
    refine bodyPost_ret (results_tmp2 rfl _ _ _) rfl ?_
    exact ⟨_, l11, Lib.hid rfl, r11.base KZ.size, q11, KZ.trans (Kept.of_below (S := fun _ => False) x11) (fun i hi hf => hf.elim), _, HF10.out.below x11⟩
  · rw [if_pos (by rfl)]
    go_simp
    have gh : Arg (Z.alloc (.cells #[.int .u8 4] 5)) (Z.alloc (.cells #[.int .u8 4] 5)).heap.size (some ⟨Z.heap.size, 0, none⟩) 1 [4] := ⟨Rd.of_range (range_hpR (World.alloc_heap_new Z _)) (by simp), by decide, fun e => by cases e⟩
    have yZ := yZ.alloc yZ.size (.cells #[.int .u8 4] 5)
    show K _ (Z.alloc (.cells #[.int .u8 4] 5))
    refine hK.out _ _ (Kept.of_below yZ) (fun hS => ?_)
    clear hK K
    generalize Z.heap.size = hk at *
    generalize Z.alloc (.cells #[.int .u8 4] 5) = Z at *
    try go_frame
    refine wpAnyH_ready (rs := [7, 17]) (by kernel_rfl) (by simp) (AllReadyH.cons (o := ⟨some 29, _, _, _, _, _⟩) rfl (fun K hK => ?_) (AllReadyH.cons (o := ⟨some 39, _, _, _, _, _⟩) rfl (fun K hK => ?_) AllReadyH.nil))
    · rw [if_pos (by rfl)]
      go_simp
      refine (bkey p A c Z HG.out.src HG.out.dst).mono ?_
      rintro e Z ⟨rfl, x7⟩
      try have gh := (gh.below x7).more x7.size
      have yZ := yZ.trans (x7.mono yZ.size)
      clear x7
      show K _ _
      refine hK.out _ _ (Kept.of_below yZ) (fun hS => ?_)
      clear hK K
      try go_frame
      refine wpAnyH_ready (rs := [17]) (by kernel_rfl) (by simp) (AllReadyH.cons (o := ⟨some 39, _, _, _, _, _⟩) rfl (fun K hK => ?_) AllReadyH.nil)
      rw [if_pos (by rfl)]
      refine wp_valR (run_convB rfl rfl rfl gh (by decide)) ?_
      refine hK _ _ (Kept.of_below yZ) (fun hS => ?_)
      clear hK K
      try go_frame
      refine wpAnyH_ready (rs := [22]) (by kernel_rfl) (by simp) (AllReadyH.cons (o := ⟨some 44, _, _, _, _, _⟩) rfl (fun K hK => ?_) AllReadyH.nil)
      rw [if_pos (by rfl)]
      go_simp
      refine (kadd_says (HFV.out.below yZ).jv HFV.out.sm (by decide) keyK [4] (prtF p).off 0 (prtF p).more P7 p7 (prtB p) ((gV.below yZ).more yZ.size) (by unfold maxLen; decide) HPL.out (by have := HG.out.off; omega) HN.out HSL.out (Nat.le_trans HFV.out.be yZ.size)).mono ?_
      rintro e Z9 hans
      rw [HR.out] at hans
      obtain ⟨V9, S', rfl, o9, j9, s9, k9, _⟩ := hans
      have yZ9 := nj_trans yZ k9
      have HF9 := Lib.hid ((HFV.out.below yZ).tab j9 s9 k9)
      have HO9 := Lib.hid (own_base o9 yZ.size)
      clear j9 s9 k9 o9
      show K _ _
      refine hK.out _ _ yZ9 (fun hS => ?_)
      clear hK K
      try go_frame
      refine held_pure (i := 23) (oi := ⟨some 21, _, _, _, _, _⟩) rfl (by kernel_rfl) (by kernel_rfl) (by kernel_rfl) (fun _ _ _ h => h) (by rfl) (v := ?_) (fun w hSw => ?_) hS (fun hS => ?_)
      rotate_left
      · go_simp; try with_reducible rfl
      try go_frame
      refine held_pure (i := 24) (oi := ⟨some 45, _, _, _, _, _⟩) rfl (by kernel_rfl) (by kernel_rfl) (by kernel_rfl) (fun _ _ _ h => h) (by rfl) (v := ?_) (fun w hSw => ?_) hS (fun hS => ?_)
      rotate_left
      · go_simp; try with_reducible rfl
      try go_frame
      refine held_pure (i := 25) (oi := ⟨some 46, _, _, _, _, _⟩) rfl (by kernel_rfl) (by kernel_rfl) (by kernel_rfl) (fun _ _ _ h => h) (by rfl) (v := ?_) (fun w hSw => ?_) hS (fun hS => ?_)
      rotate_left
      · go_simp; try with_reducible rfl
      try go_frame
      refine held_pure (i := 26) (oi := ⟨some 47, _, _, _, _, _⟩) rfl (by kernel_rfl) (by kernel_rfl) (by kernel_rfl) (fun _ _ _ h => h) (by rfl) (v := ?_) (fun w hSw => ?_) hS (fun hS => ?_)
      rotate_left
      · go_simp; try with_reducible rfl
      try go_frame
      refine held_pure (i := 27) (oi := ⟨some 48, _, _, _, _, _⟩) rfl (by kernel_rfl) (by kernel_rfl) (by kernel_rfl) (fun _ _ _ h => h) (by rfl) (v := ?_) (fun w hSw => ?_) hS (fun hS => ?_)
      rotate_left
      · go_simp; try with_reducible rfl
      try go_frame
      refine held_pure (i := 28) (oi := ⟨some 9, _, _, _, _, _⟩) rfl (by kernel_rfl) (by kernel_rfl) (by kernel_rfl) (fun _ _ _ h => h) (by rfl) (v := ?_) (fun w hSw => ?_) hS (fun hS => ?_)
      rotate_left
      · go_simp; try with_reducible rfl
      try go_frame
      refine held_pure (i := 29) (oi := ⟨some 10, _, _, _, _, _⟩) rfl (by kernel_rfl) (by kernel_rfl) (by kernel_rfl) (fun _ _ _ h => h) (by rfl) (v := ?_) (fun w hSw => ?_) hS (fun hS => ?_)
      rotate_left
      · go_simp; try with_reducible rfl
      try go_frame
      refine held_pure (i := 30) (oi := ⟨some 11, _, _, _, _, _⟩) rfl (by kernel_rfl) (by kernel_rfl) (by kernel_rfl) (fun _ _ _ h => h) (by rfl) (v := ?_) (fun w hSw => ?_) hS (fun hS => ?_)
      rotate_left
      · go_simp; try with_reducible rfl
      try go_frame
      refine held_pure (i := 31) (oi := ⟨some 12, _, _, _, _, _⟩) rfl (by kernel_rfl) (by kernel_rfl) (by kernel_rfl) (fun _ _ _ h => h) (by rfl) (v := ?_) (fun w hSw => ?_) hS (fun hS => ?_)
      rotate_left
      · go_simp; try with_reducible rfl
      try go_frame
      refine wpAnyH_done (by kernel_rfl) ?_ _
      obtain ⟨A9, c9, rfl⟩ := own_slice HO9.out
      have HK9 := Lib.hid (nj_stay yZ9 HKV.out tj32.2.2.1)
      have f2 := heap_frozen HK9.out 2
      have k2 := (show At6 Z9 w.heap.size p A c from range_hpR HK9.out).next
      have ks := heap_setCell_same Z9 w.heap.size 2 _ _ (.int .i64 4) HK9.out
      rw [set_next] at ks
      have f36 := heap_frozen ks 36
      have k36 := (show At6 (Z9.setCell ⟨w.heap.size, 2, none⟩ (.int .i64 4)) w.heap.size { p with next := 4 } A c from range_hpR ks).dat HG.out.h6.1 HG.out.h6.2
      have kt := heap_setCell_same (Z9.setCell ⟨w.heap.size, 2, none⟩ (.int .i64 4)) w.heap.size 36 _ _ (.slice A9 (bld4 q).length c9) ks
      rw [set_dat { p with next := 4 } A A9 c c9 (bld4 q) HG.out.h6.1 HG.out.h6.2] at kt
      have HT := Lib.hid kt
      have HF10 := Lib.hid ((HF9.out.box HK9.out 2 (.int .i64 4)).box ks 36 (.slice A9 (bld4 q).length c9))
      have HO10 : Hid (((Z9.setCell ⟨w.heap.size, 2, none⟩ (.int .i64 4)).setCell ⟨w.heap.size, 36, none⟩ (.slice A9 (bld4 q).length c9)).ownsRow V.heap.size 5 1 (.slice A9 (bld4 q).length c9) (bld4 q).length (row (bld4 q))) := Lib.hid (own_setCell (own_setCell HO9.out (p := ⟨w.heap.size, 2, none⟩) (by have := heap_lt HKV.out; exact this)) (p := ⟨w.heap.size, 36, none⟩) (by have := heap_lt HKV.out; exact this))
      have KZ : Kept (NJ B0 w) w ((Z9.setCell ⟨w.heap.size, 2, none⟩ (.int .i64 4)).setCell ⟨w.heap.size, 36, none⟩ (.slice A9 (bld4 q).length c9)) := ((nj_trans bV yZ9).trans (Kept.setCell _ _ _ _) (fun i hi e => absurd e (by omega))).trans (Kept.setCell _ _ _ _) (fun i hi e => absurd e (by omega))
      have hw4 := w4_four
      clear kt
      go_upto_region 10 with fail
      generalize (Z9.setCell ⟨w.heap.size, 2, none⟩ (.int .i64 4)).setCell ⟨w.heap.size, 36, none⟩ (.slice A9 (bld4 q).length c9) = X at *
      have at10 : At6 X w.heap.size { p with next := 4, dat := bld4 q } A9 c9 := range_hpR HT.out
      have h10 : ok6 { p with next := 4, dat := bld4 q } := HG.out.h6
      have hA10 := arg_own HO10.out
      clear k2 f2 k36 f36 ks
      go_wp2_with (first
        | ((with_reducible show wpList _ _ _ (Oper.mk _ (Op.load 38 _) _ _ _ _ :: _) _ _); refine wpList_val rfl (run_load_v6 rfl rfl at10 (v6l_len h10.1 h10.2)) ?_)
        | (go_at_call 74; refine (bwithin { p with next := 4, dat := bld4 q } q A9 c9 X h10 hA10 rfl rfl HQ.out).mono ?_; rintro e w11 ⟨v11, l11, he, r11, q11, x11⟩; obtain rfl := he.out; clear he))
      refine bodyPost_ret (results_tmp2 rfl _ _ _) rfl ?_
      exact ⟨_, l11, Lib.hid rfl, r11.base KZ.size, q11, KZ.trans (Kept.of_below (S := fun _ => False) x11) (fun i hi hf => hf.elim), _, HF10.out.below x11⟩
    · rw [if_pos (by rfl)]
      refine wp_valR (run_convB rfl rfl rfl gh (by decide)) ?_
      refine hK _ _ (Kept.of_below yZ) (fun hS => ?_)
      clear hK K
      try go_frame
      refine wpAnyH_ready (rs := [7]) (by kernel_rfl) (by simp) (AllReadyH.cons (o := ⟨some 29, _, _, _, _, _⟩) rfl (fun K hK => ?_) AllReadyH.nil)
      rw [if_pos (by rfl)]
      go_simp
      refine (bkey p A c Z HG.out.src HG.out.dst).mono ?_
      rintro e Z ⟨rfl, x7⟩
      try have gh := (gh.below x7).more x7.size
      have yZ := yZ.trans (x7.mono yZ.size)
      clear x7
      show K _ _
      refine hK.out _ _ (Kept.of_below yZ) (fun hS => ?_)
      clear hK K
      try go_frame
      refine wpAnyH_ready (rs := [22]) (by kernel_rfl) (by simp) (AllReadyH.cons (o := ⟨some 44, _, _, _, _, _⟩) rfl (fun K hK => ?_) AllReadyH.nil)
      rw [if_pos (by rfl)]
      go_simp
      refine (kadd_says (HFV.out.below yZ).jv HFV.out.sm (by decide) keyK [4] (prtF p).off 0 (prtF p).more P7 p7 (prtB p) ((gV.below yZ).more yZ.size) (by unfold maxLen; decide) HPL.out (by have := HG.out.off; omega) HN.out HSL.out (Nat.le_trans HFV.out.be yZ.size)).mono ?_
      rintro e Z9 hans
      rw [HR.out] at hans
      obtain ⟨V9, S', rfl, o9, j9, s9, k9, _⟩ := hans
      have yZ9 := nj_trans yZ k9
      have HF9 := Lib.hid ((HFV.out.below yZ).tab j9 s9 k9)
      have HO9 := Lib.hid (own_base o9 yZ.size)
      clear j9 s9 k9 o9
      show K _ _
      refine hK.out _ _ yZ9 (fun hS => ?_)
      clear hK K
      try go_frame
      refine held_pure (i := 23) (oi := ⟨some 21, _, _, _, _, _⟩) rfl (by kernel_rfl) (by kernel_rfl) (by kernel_rfl) (fun _ _ _ h => h) (by rfl) (v := ?_) (fun w hSw => ?_) hS (fun hS => ?_)
      rotate_left
      · go_simp; try with_reducible rfl
      try go_frame
      refine held_pure (i := 24) (oi := ⟨some 45, _, _, _, _, _⟩) rfl (by kernel_rfl) (by kernel_rfl) (by kernel_rfl) (fun _ _ _ h => h) (by rfl) (v := ?_) (fun w hSw => ?_) hS (fun hS => ?_)
      rotate_left
      · go_simp; try with_reducible rfl
      try go_frame
      refine held_pure (i := 25) (oi := ⟨some 46, _, _, _, _, _⟩) rfl (by kernel_rfl) (by kernel_rfl) (by kernel_rfl) (fun _ _ _ h => h) (by rfl) (v := ?_) (fun w hSw => ?_) hS (fun hS => ?_)
      rotate_left
      · go_simp; try with_reducible rfl
      try go_frame
      refine held_pure (i := 26) (oi := ⟨some 47, _, _, _, _, _⟩) rfl (by kernel_rfl) (by kernel_rfl) (by kernel_rfl) (fun _ _ _ h => h) (by rfl) (v := ?_) (fun w hSw => ?_) hS (fun hS => ?_)
      rotate_left
      · go_simp; try with_reducible rfl
      try go_frame
      refine held_pure (i := 27) (oi := ⟨some 48, _, _, _, _, _⟩) rfl (by kernel_rfl) (by kernel_rfl) (by kernel_rfl) (fun _ _ _ h => h) (by rfl) (v := ?_) (fun w hSw => ?_) hS (fun hS => ?_)
      rotate_left
      · go_simp; try with_reducible rfl
      try go_frame
      refine held_pure (i := 28) (oi := ⟨some 9, _, _, _, _, _⟩) rfl (by kernel_rfl) (by kernel_rfl) (by kernel_rfl) (fun _ _ _ h => h) (by rfl) (v := ?_) (fun w hSw => ?_) hS (fun hS => ?_)
      rotate_left
      · go_simp; try with_reducible rfl
      try go_frame
      refine held_pure (i := 29) (oi := ⟨some 10, _, _, _, _, _⟩) rfl (by kernel_rfl) (by kernel_rfl) (by kernel_rfl) (fun _ _ _ h => h) (by rfl) (v := ?_) (fun w hSw => ?_) hS (fun hS => ?_)
      rotate_left
      · go_simp; try with_reducible rfl
      try go_frame
      refine held_pure (i := 30) (oi := ⟨some 11, _, _, _, _, _⟩) rfl (by kernel_rfl) (by kernel_rfl) (by kernel_rfl) (fun _ _ _ h => h) (by rfl) (v := ?_) (fun w hSw => ?_) hS (fun hS => ?_)
      rotate_left
      · go_simp; try with_reducible rfl
      try go_frame
      refine held_pure (i := 31) (oi := ⟨some 12, _, _, _, _, _⟩) rfl (by kernel_rfl) (by kernel_rfl) (by kernel_rfl) (fun _ _ _ h => h) (by rfl) (v := ?_) (fun w hSw => ?_) hS (fun hS => ?_)
      rotate_left
      · go_simp; try with_reducible rfl
      try go_frame
      refine wpAnyH_done (by kernel_rfl) ?_ _
      obtain ⟨A9, c9, rfl⟩ := own_slice HO9.out
      have HK9 := Lib.hid (nj_stay yZ9 HKV.out tj32.2.2.1)
      have f2 := heap_frozen HK9.out 2
      have k2 := (show At6 Z9 w.heap.size p A c from range_hpR HK9.out).next
      have ks := heap_setCell_same Z9 w.heap.size 2 _ _ (.int .i64 4) HK9.out
      rw [set_next] at ks
      have f36 := heap_frozen ks 36
      have k36 := (show At6 (Z9.setCell ⟨w.heap.size, 2, none⟩ (.int .i64 4)) w.heap.size { p with next := 4 } A c from range_hpR ks).dat HG.out.h6.1 HG.out.h6.2
      have kt := heap_setCell_same (Z9.setCell ⟨w.heap.size, 2, none⟩ (.int .i64 4)) w.heap.size 36 _ _ (.slice A9 (bld4 q).length c9) ks
      rw [set_dat { p with next := 4 } A A9 c c9 (bld4 q) HG.out.h6.1 HG.out.h6.2] at kt
      have HT := Lib.hid kt
      have HF10 := Lib.hid ((HF9.out.box HK9.out 2 (.int .i64 4)).box ks 36 (.slice A9 (bld4 q).length c9))
      have HO10 : Hid (((Z9.setCell ⟨w.heap.size, 2, none⟩ (.int .i64 4)).setCell ⟨w.heap.size, 36, none⟩ (.slice A9 (bld4 q).length c9)).ownsRow V.heap.size 5 1 (.slice A9 (bld4 q).length c9) (bld4 q).length (row (bld4 q))) := Lib.hid (own_setCell (own_setCell HO9.out (p := ⟨w.heap.size, 2, none⟩) (by have := heap_lt HKV.out; exact this)) (p := ⟨w.heap.size, 36, none⟩) (by have := heap_lt HKV.out; exact this))
      have KZ : Kept (NJ B0 w) w ((Z9.setCell ⟨w.heap.size, 2, none⟩ (.int .i64 4)).setCell ⟨w.heap.size, 36, none⟩ (.slice A9 (bld4 q).length c9)) := ((nj_trans bV yZ9).trans (Kept.setCell _ _ _ _) (fun i hi e => absurd e (by omega))).trans (Kept.setCell _ _ _ _) (fun i hi e => absurd e (by omega))
      have hw4 := w4_four
      clear kt
      go_upto_region 10 with fail
      generalize (Z9.setCell ⟨w.heap.size, 2, none⟩ (.int .i64 4)).setCell ⟨w.heap.size, 36, none⟩ (.slice A9 (bld4 q).length c9) = X at *
      have at10 : At6 X w.heap.size { p with next := 4, dat := bld4 q } A9 c9 := range_hpR HT.out
      have h10 : ok6 { p with next := 4, dat := bld4 q } := HG.out.h6
      have hA10 := arg_own HO10.out
      clear k2 f2 k36 f36 ks
      go_wp2_with (first
        | ((with_reducible show wpList _ _ _ (Oper.mk _ (Op.load 38 _) _ _ _ _ :: _) _ _); refine wpList_val rfl (run_load_v6 rfl rfl at10 (v6l_len h10.1 h10.2)) ?_)
        | (go_at_call 74; refine (bwithin { p with next := 4, dat := bld4 q } q A9 c9 X h10 hA10 rfl rfl HQ.out).mono ?_; rintro e w11 ⟨v11, l11, he, r11, q11, x11⟩; obtain rfl := he.out; clear he))
      refine bodyPost_ret (results_tmp2 rfl _ _ _) rfl ?_
      exact ⟨_, l11, Lib.hid rfl, r11.base KZ.size, q11, KZ.trans (Kept.of_below (S := fun _ => False) x11) (fun i hi hf => hf.elim), _, HF10.out.below x11⟩
end
end Go.Proofs.YtjoaaabdcfcdiaaGreat
