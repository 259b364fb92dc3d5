/-
  Contracts and lemmas on which the proofs of this seat stand (several texts in one). Conditions are each theorem's own.
-/
import Derived.Test.YthdaclbgandmcaaHa6
import Derived.Test.YthdaclbgandmcaaHa7
import Derived.Laws.CopyOwn
import Derived.Lib.AppendZerosOnto
import Derived.Lib.Overlaps
import Derived.Laws.Externs
import Derived.Laws.NewBlocks

/-
  Contracts of the document's Room and Add of layer 15. Conditions are each theorem's own.
-/
namespace Go.Proofs.Ythdaclbgandmcaa
open Go.RowKit Go.Shelf

set_option maxRecDepth 100000 in
set_option maxHeartbeats 1000000 in
theorem r15room (A : Option Addr) (c : Nat) (l : List XP) (B g o : Nat) (a : Int) (A' : Option Addr) (b : List UInt8) (c' : Nat) (w : World) (h : Ho w B g o A c l) (hB : B ≤ w.heap.size) (hA' : Rd w w.heap.size A' b) :
    Calls Try.prog 55 #[.pointer (some ⟨g, o, none⟩), .int .i64 a, .slice A' b.length c'] w fun e w' => e = .returned (.int .i64 (roomP (piE l) a b)) ∧ Below w.heap.size w w' := by
  have hH := Lib.hid h
  have hA := Lib.hid hA'
  clear h hA'
  go_enter Try.func55, Try.ntmps55
  cases s1 : sameP (piE l) ⟨a, true, b⟩ with
  | true =>
    go_wp2_with (go_at_call 97; refine (r15same A c l B g o a true A' b c' w hH.out hB hA.out).mono ?_; rintro e w1 ⟨rfl, x1⟩; rw [s1])
    go_ret
    exact ⟨by rw [roomP, s1]; rfl, x1⟩
  | false =>
    cases s2 : sameP (piE l) ⟨a, false, b⟩ with
    | true =>
      go_wp2_with (first
        | (go_at_call 97; refine (r15same A c l B g o a false A' b c' w1 (hH.out.below (x1.mono hB)) (Nat.le_trans hB x1.size) ((hA.out.below x1).more x1.size)).mono ?_; rintro e w2 ⟨rfl, x2⟩; rw [s2])
        | (go_at_call 97; refine (r15same A c l B g o a true A' b c' w hH.out hB hA.out).mono ?_; rintro e w1 ⟨rfl, x1⟩; rw [s1]))
      go_ret
      exact ⟨by rw [roomP, s1, s2]; rfl, x1.trans (x2.mono x1.size)⟩
    | false =>
      go_wp2_with (first
        | (go_at_call 97; refine (r15same A c l B g o a false A' b c' w1 (hH.out.below (x1.mono hB)) (Nat.le_trans hB x1.size) ((hA.out.below x1).more x1.size)).mono ?_; rintro e w2 ⟨rfl, x2⟩; rw [s2])
        | (go_at_call 97; refine (r15same A c l B g o a true A' b c' w hH.out hB hA.out).mono ?_; rintro e w1 ⟨rfl, x1⟩; rw [s1]))
      go_ret
      exact ⟨by rw [roomP, s1, s2]; rfl, x1.trans (x2.mono x1.size)⟩
theorem clP_ones (x : XP) : ∀ u ∈ clP x, u.oneCell' = true := by
  intro u hu
  simp only [clP, List.mem_cons, List.not_mem_nil, or_false] at hu
  rcases hu with rfl | rfl | rfl <;> rfl
theorem info_pc : (Try.prog.info? 172).map (fun i => (i.zero, i.size, i.bytes)) = some (some (.agg #[.int .i64 0, .bool false, .slice none 0 0]), 3, 40) := by kernel_rfl
theorem flat3 (l : List XP) : (l.flatMap clP).length = l.length * 3 := flat_len l (fun _ _ => rfl)
set_option maxRecDepth 100000 in
/-- append onto a row of parts of the call's own, of a source that reads as parts. -/
theorem append_pcs {w : World} {ops : Array Oper} {rest : List Oper} {o : Oper} {a : Act} {Q : Exit → Act → World → Prop} (hgd : o.guard = none) (s x : Operand)
    (ho : o.op = .call { callee := .builtin .append, args := #[s, x], argTypes := #[96, 96] })
    (base : Nat) (v : Value) (n : Nat) (xs : List Value) (hs : a.eval s = v) (hown : w.ownsRow base 172 3 v n xs)
    (B : Nat) (A : Option Addr) (m c : Nat) (l : List XP) (hx : a.eval x = .slice A m c) (hm : m = l.length) (hA : A = none → c = 0) (hr : RdS clP 3 w B A l)
    (hlen : n + m ≤ 1000000) (hbase : base ≤ w.heap.size)
    (h : ∀ v' w', w'.ownsRow base 172 3 v' (n + m) (xs ++ l.flatMap clP) → w.grownBy w' v.ownBlock → wpList Try.prog ops Q rest (a.put o.dst v') w') : wpList Try.prog ops Q (o :: rest) a w := by
  obtain ⟨i0, hi, hz0, hz1, hz2⟩ := info_parts info_pc
  subst hm
  rcases A with _ | ad
  · have h0 : l = [] := by
      rcases Nat.eq_zero_or_pos l.length with e | e
      · exact List.eq_nil_of_length_eq_zero e
      · obtain ⟨_, _, e', _⟩ := hr e; cases e'
    subst h0
    obtain rfl := hA rfl
    exact wpList_append_own_none hgd s x 96 ho base 172 i0 3 Try.underlying96 hi v n xs hs hown hx (h v w (by simpa using hown) (World.grownBy.refl w _))
  · refine wpList_append_own w hgd s x 96 ho base 172 i0 (.agg #[.int .i64 0, .bool false, .slice none 0 0]) 3 40 Try.underlying96 hi hz0 hz1 hz2 rfl (by decide) v n xs hs hown ad l.length c (l.flatMap clP) hx
      (flat3 l) (fun j u hj => ?_) (fun u hu => ?_) (by unfold maxLen; omega) (by omega) hbase (fun v' w' h1 h2 _ => h v' w' h1 h2)
    · have hj3 : j < l.length * 3 := by have := (List.getElem?_eq_some_iff.1 hj).1; rwa [flat3] at this
      obtain ⟨b, off, e, _, hc⟩ := hr (by omega)
      injection e with e
      subst e
      have hk : j / 3 < l.length := by omega
      obtain ⟨y, hy⟩ : ∃ y, l[j / 3]? = some y := ⟨_, List.getElem?_eq_getElem hk⟩
      have hlt : j % 3 < (clP y).length := by show j % 3 < 3; omega
      have hv : (clP y)[j % 3]? = some (clP y)[j % 3] := List.getElem?_eq_getElem hlt
      have h1 := flat_at l (fun _ _ => rfl) (sz := 3) (j / 3) y hy (j % 3) _ hv
      rw [show j / 3 * 3 + j % 3 = j by omega, hj] at h1
      have h2 := hc (j / 3) y hy (j % 3) _ hv
      rw [add_off, show off + j = off + j / 3 * 3 + j % 3 by omega, h2]
      exact h1.symm
    · obtain ⟨y, _, hy⟩ := List.mem_flatMap.1 hu
      exact clP_ones y u hy
theorem run_bsp {o : Oper} {a : Act} {w : World} {x : Operand} {cs : Array Value} (ho : o.op = .buildSlice 96 1 #[(0, x)]) (hx : a.eval x = .agg cs) (hl : cs.size = 3) :
    (execOp a.eval o).run Try.prog w = .ok (.value (.slice (some ⟨w.heap.size, 0, none⟩) 1 1)) (w.alloc (.cells cs 172)) := by
  obtain ⟨i0, hi, hz0, hz1, hz2⟩ := info_parts info_pc
  have h := run_lit1 (P := Try.prog) w 96 172 i0 (.agg #[.int .i64 0, .bool false, .slice none 0 0]) cs 3 Try.underlying96 hi hz0 hz1 hl (by decide) (by decide)
  unfold execOp
  simp only [ho, List.map_toArray, List.map_cons, List.map_nil, hx, Sem.run_bind, h, Result.andThen_ok]
  rfl
theorem rds_new (w : World) (x : XP) : RdS clP 3 (w.alloc (.cells (clP x).toArray 172)) (w.heap.size + 1) (some ⟨w.heap.size, 0, none⟩) [x] := by
  intro _
  refine ⟨w.heap.size, 0, rfl, Nat.lt_succ_self _, fun j y hy => ?_⟩
  have hj : j = 0 := by have := (List.getElem?_eq_some_iff.1 hy).1; simpa using this
  subst hj
  have e : y = x := by simpa using hy.symm
  subst e
  intro i v hv
  rw [Nat.zero_mul, Nat.add_zero, Nat.zero_add, World.cell?_alloc_new, List.getElem?_toArray]
  exact hv
set_option maxRecDepth 100000 in
set_option maxHeartbeats 8000000 in
theorem r15add (A : Option Addr) (c : Nat) (l : List XP) (B g o : Nat) (cs : Array Value) (tg : TypeId) (a : Int) (m : Bool) (A' : Option Addr) (b : List UInt8) (c' : Nat) (w : World) (h : Ho w B g o A c l) (hB : B ≤ w.heap.size) (hg : w.heap[g]? = some (.cells cs tg (0, 0))) (hA' : Arg w w.heap.size A' c' b) (hbl : b.length ≤ 1000000) (ha : -9223372036854775808 ≤ a ∧ a ≤ 9223372036854775807) :
    Calls Try.prog 57 #[.pointer (some ⟨g, o, none⟩), .int .i64 a, .bool m, .slice A' b.length c'] w fun e w' => e = .returned (.int .i64 (addE (piE l) ⟨a, m, b⟩)) ∧
      ((Below w.heap.size w w' ∧ addL (piE l) ⟨a, m, b⟩ = piE l) ∨
       (addL (piE l) ⟨a, m, b⟩ = piE l ++ [⟨a, m, b⟩] ∧ ∃ w1 P p A3 c3, Below w.heap.size w w1 ∧ w' = w1.setCell ⟨g, o, none⟩ (.slice P (l.length + 1) p) ∧
         w1.ownsRow w.heap.size 172 3 (.slice P (l.length + 1) p) (l.length + 1) ((l ++ [XP.mk ⟨a, m, b⟩ A3 c3]).flatMap clP) ∧ w1.ownsRow w.heap.size 5 1 (.slice A3 b.length c3) b.length (row b))) := by
  have hTu : 172 ≠ 5 := nat_ne (by kernel_rfl)
  have hH := Lib.hid h
  have hA := Lib.hid hA'
  have hgw := h.gB
  have hgw : g < w.heap.size := by omega
  clear h hA'
  have e1 : wrap64 (65535 - (b.length : Int)) = 65535 - (b.length : Int) := by unfold wrap64; omega
  have e2 : (b.length : Int).tmod 8 = (b.length : Int) % 8 := Int.tmod_eq_emod_of_nonneg (by omega)
  go_enter Try.func57, Try.ntmps57
  by_cases h1 : a < 0
  · have d1 : decide (a < 0) = true := decide_eq_true h1
    go_wp2
    have hAE : addE (piE l) ⟨a, m, b⟩ = 4 := by rw [addE, if_pos (.inl h1)]
    go_ret
    exact ⟨by rw [hAE]; rfl, .inl ⟨Below.refl _ _, by rw [addL]; first | rw [if_neg (by rw [hAE]; decide)] | rw [if_pos hAE, if_pos hs1.out]⟩⟩
  · have d1 : decide (a < 0) = false := decide_eq_false h1
    have ha0 : 0 ≤ a := by omega
    cases m with
    | true =>
      by_cases h2 : b.length = 0
      · have d2 : ((b.length : Int) == 0) = true := beq_iff_eq.2 (by omega)
        have d2' : (b.length == 0) = true := beq_iff_eq.2 h2
        go_wp2
        have hAE : addE (piE l) ⟨a, true, b⟩ = 4 := by rw [addE, if_pos (.inr ⟨rfl, .inl (by show (b.length : Int) = 0; omega)⟩)]
        go_ret
        exact ⟨by rw [hAE]; rfl, .inl ⟨Below.refl _ _, by rw [addL]; first | rw [if_neg (by rw [hAE]; decide)] | rw [if_pos hAE, if_pos hs1.out]⟩⟩
      · have d2 : ((b.length : Int) == 0) = false := beq_eq_false_iff_ne.2 (by omega)
        have d2' : (b.length == 0) = false := beq_eq_false_iff_ne.2 h2
        by_cases h3 : (b.length : Int) % 8 = 0
        · have d3 : ((b.length : Int) % 8 != 0) = false := by rw [h3]; rfl
          have d3' : ((b.length : Int) % 8 == 0) = true := by rw [h3]; rfl
          have hbad : ¬ badP ⟨a, true, b⟩ := by
            rintro (h | ⟨_, h | h⟩)
            · exact h1 h
            · have h : (b.length : Int) = 0 := h
              omega
            · exact h h3
          clear h3
          by_cases h4 : a > 65535 - (b.length : Int)
          · have d4 : decide (a > 65535 - (b.length : Int)) = true := decide_eq_true h4
            have d4' : decide (65535 - (b.length : Int) < a) = true := d4
            go_wp2
            have hAE : addE (piE l) ⟨a, true, b⟩ = 6 := by rw [addE, if_neg hbad, if_pos (by exact h4)]
            go_ret
            exact ⟨by rw [hAE]; rfl, .inl ⟨Below.refl _ _, by rw [addL]; first | rw [if_neg (by rw [hAE]; decide)] | rw [if_pos hAE, if_pos hs1.out]⟩⟩
          · have d4 : decide (a > 65535 - (b.length : Int)) = false := decide_eq_false h4
            have d4' : decide (65535 - (b.length : Int) < a) = false := d4
            cases g1 : sameP (piE l) ⟨a, true, b⟩ with
            | true =>
              have hs1 := Lib.hid g1
              clear g1
              go_wp2_with (go_at_call 97; refine (r15same A c l B g o a true A' b c' w hH.out hB hA.out.rd).mono ?_; rintro e w1 ⟨rfl, x1⟩; rw [hs1.out])
              have hAE : addE (piE l) ⟨a, true, b⟩ = 0 := by rw [addE, if_neg hbad, if_neg (by show ¬ a > 65535 - (b.length : Int); omega), if_pos hs1.out]
              go_ret
              exact ⟨by rw [hAE]; rfl, .inl ⟨(x1), by rw [addL]; first | rw [if_neg (by rw [hAE]; decide)] | rw [if_pos hAE, if_pos hs1.out]⟩⟩
            | false =>
              have hs1 := Lib.hid g1
              clear g1
              cases g2 : sharesP (piE l) ⟨a, true, b⟩ with
              | true =>
                have hs2 := Lib.hid g2
                clear g2
                go_wp2_with (first | (go_at_call 98; refine (r15shares A c l B g o a true A' b c' w1 (hH.out.below (x1.mono hB)) (Nat.le_trans hB x1.size) ha0 (by omega)).mono ?_; rintro e w2 ⟨rfl, x2⟩; rw [hs2.out]) | (go_at_call 97; refine (r15same A c l B g o a true A' b c' w hH.out hB hA.out.rd).mono ?_; rintro e w1 ⟨rfl, x1⟩; rw [hs1.out]))
                have hAE : addE (piE l) ⟨a, true, b⟩ = 9 := by rw [addE, if_neg hbad, if_neg (by show ¬ a > 65535 - (b.length : Int); omega), if_neg (by rw [hs1.out]; decide), if_pos hs2.out]
                go_ret
                exact ⟨by rw [hAE]; rfl, .inl ⟨(x1.trans (x2.mono x1.size)), by rw [addL]; first | rw [if_neg (by rw [hAE]; decide)] | rw [if_pos hAE, if_pos hs1.out]⟩⟩
              | false =>
                have hs2 := Lib.hid g2
                clear g2
                by_cases h5 : 0 ≤ endP (piE l)
                · obtain ⟨E, hE0⟩ : ∃ E, E = endP (piE l) := ⟨_, rfl⟩
                  have hE := Lib.hid hE0.symm
                  rw [← hE0] at h5
                  have q1 : decide (E ≥ 0) = true := by simpa using h5
                  have q1' : decide (0 ≤ E) = true := q1
                  by_cases h6 : a + (b.length : Int) > E
                  · have q2 : decide (a + (b.length : Int) > E) = true := decide_eq_true h6
                    have q2' : decide (E < a + (b.length : Int)) = true := q2
                    have hlate : lateP (piE l) ⟨a, true, b⟩ := .inr ⟨by rw [hE.out]; exact h5, by rw [hE.out]; exact h6⟩
                    clear h5 h6 hE0
                    go_wp2_with (first | (go_at_call 100; refine (r15far A c l B g o w3 (((hH.out.below (x1.mono hB)).below (x2.mono (Nat.le_trans hB x1.size))).below (x3.mono (Nat.le_trans hB (Nat.le_trans x1.size x2.size)))) (Nat.le_trans hB (Nat.le_trans x1.size (Nat.le_trans x2.size x3.size)))).mono ?_; rintro e w4 ⟨rfl, x4⟩; rw [hF.out]) | (go_at_call 99; refine (r15end A c l B g o w2 ((hH.out.below (x1.mono hB)).below (x2.mono (Nat.le_trans hB x1.size))) (Nat.le_trans hB (Nat.le_trans x1.size x2.size))).mono ?_; rintro e w3 ⟨rfl, x3⟩; rw [hE.out]) | (go_at_call 98; refine (r15shares A c l B g o a true A' b c' w1 (hH.out.below (x1.mono hB)) (Nat.le_trans hB x1.size) ha0 (by omega)).mono ?_; rintro e w2 ⟨rfl, x2⟩; rw [hs2.out]) | (go_at_call 97; refine (r15same A c l B g o a true A' b c' w hH.out hB hA.out.rd).mono ?_; rintro e w1 ⟨rfl, x1⟩; rw [hs1.out]))
                    have hAE : addE (piE l) ⟨a, true, b⟩ = 4 := by rw [addE, if_neg hbad, if_neg (by show ¬ a > 65535 - (b.length : Int); omega), if_neg (by rw [hs1.out]; decide), if_neg (by rw [hs2.out]; decide), if_pos hlate]
                    go_ret
                    exact ⟨by rw [hAE]; rfl, .inl ⟨(x1.trans ((x2.trans (x3.mono x2.size)).mono x1.size)), by rw [addL]; first | rw [if_neg (by rw [hAE]; decide)] | rw [if_pos hAE, if_pos hs1.out]⟩⟩
                  · have q2 : decide (a + (b.length : Int) > E) = false := decide_eq_false h6
                    have q2' : decide (E < a + (b.length : Int)) = false := q2
                    have hlate : ¬ lateP (piE l) ⟨a, true, b⟩ := by
                      rintro (⟨h, _⟩ | ⟨_, h⟩)
                      · cases h
                      · rw [hE.out] at h; exact h6 h
                    clear h5 h6 hE0
                    go_upto_region 12 with (first | (go_at_call 100; refine (r15far A c l B g o w3 (((hH.out.below (x1.mono hB)).below (x2.mono (Nat.le_trans hB x1.size))).below (x3.mono (Nat.le_trans hB (Nat.le_trans x1.size x2.size)))) (Nat.le_trans hB (Nat.le_trans x1.size (Nat.le_trans x2.size x3.size)))).mono ?_; rintro e w4 ⟨rfl, x4⟩; rw [hF.out]) | (go_at_call 99; refine (r15end A c l B g o w2 ((hH.out.below (x1.mono hB)).below (x2.mono (Nat.le_trans hB x1.size))) (Nat.le_trans hB (Nat.le_trans x1.size x2.size))).mono ?_; rintro e w3 ⟨rfl, x3⟩; rw [hE.out]) | (go_at_call 98; refine (r15shares A c l B g o a true A' b c' w1 (hH.out.below (x1.mono hB)) (Nat.le_trans hB x1.size) ha0 (by omega)).mono ?_; rintro e w2 ⟨rfl, x2⟩; rw [hs2.out]) | (go_at_call 97; refine (r15same A c l B g o a true A' b c' w hH.out hB hA.out.rd).mono ?_; rintro e w1 ⟨rfl, x1⟩; rw [hs1.out]))
                    have hAE : addE (piE l) ⟨a, true, b⟩ = 0 := by rw [addE, if_neg hbad, if_neg (by show ¬ a > 65535 - (b.length : Int); omega), if_neg (by rw [hs1.out]; decide), if_neg (by rw [hs2.out]; decide), if_neg hlate]
                    have hAL : addL (piE l) ⟨a, true, b⟩ = piE l ++ [⟨a, true, b⟩] := by rw [addL, if_pos hAE, if_neg (by rw [hs1.out]; decide)]
                    have hBV := (x1.trans ((x2.trans (x3.mono x2.size)).mono x1.size))
                    have hHV := hH.out.below (hBV.mono hB)
                    have hrowV := (hBV.block g hgw).trans hg
                    have hfV := heap_frozen hrowV o
                    have hAV := (hA.out.below hBV).more hBV.size
                    clear hbad hlate
                    generalize w3 = V at *
                    have k12 : V.cell? ⟨g, o, none⟩ = some (.slice A l.length c) := hHV.cell
                    have hn1 := hHV.n
                    obtain ⟨n, hn⟩ : ∃ n, n = l.length := ⟨_, rfl⟩
                    have HN := Lib.hid hn
                    rw [← hn] at k12 hn1
                    have hnone := hHV.none_
                    have hrdV := Lib.hid hHV.rd
                    clear hn hHV
                    go_upto_region 13 with (first
                      | (at_builtin; refine append_pcs rfl _ _ rfl w.heap.size (.slice P1 n p1) n (l.flatMap clP) rfl hown3 (w3.heap.size + 1) (some ⟨w3.heap.size, 0, none⟩) 1 1 [⟨⟨a, true, b⟩, P2, p2⟩] rfl rfl (fun e => by cases e) (rds_new w3 ⟨⟨a, true, b⟩, P2, p2⟩) (by omega) (by simp; omega) ?_; intro v4 w4 own4 grow4; obtain ⟨P4, p4, rfl⟩ := own_slice own4; have own5 := own_keepT (own_below o2 hNew) hown3 grow4 hTu; have hB3 := (hBV.trans (y1.mono hzw)).trans (y2.mono (by omega)); have hBN := hB3.trans (hNew.mono hB3.size); have hB4 := hBN.grown grow4 hBN.size (fun k hk => own_block_ge hown3 k hk); have kc4 := (hB4.cell (p := ⟨g, o, none⟩) hgw).trans hH.out.cell; have fc4 := heap_frozen ((hB4.block g hgw).trans hg) o)
                      | ((with_reducible show wpList _ _ _ (Oper.mk _ (Op.buildSlice _ _ _) _ _ _ _ :: _) _ _); refine wpList_growU rfl (run_bsp (cs := (clP ⟨⟨a, true, b⟩, P2, p2⟩).toArray) rfl rfl rfl) ?_; have hNew : Below w3.heap.size w3 (w3.alloc (.cells (clP ⟨⟨a, true, b⟩, P2, p2⟩).toArray 172)) := (Below.refl _ w3).alloc (Nat.le_refl _) _; have hown3 := own_below hown2 hNew)
                      | (at_builtin; refine append_rd rfl _ _ rfl w.heap.size (.slice none 0 0) 0 [] rfl (World.ownsRow_nil _ _ _ _) V1.heap.size A' c' b rfl hA2.none_ hA2.rd (by omega) (by omega) ?_; intro v2 w3 own2 grow2; obtain ⟨P2, p2, rfl, o2⟩ := own_made (bs := b) own2 (Nat.zero_add _) (List.nil_append _); have y2 := (Below.refl V1.heap.size V1).grown grow2 (Nat.le_refl _) (fun k hk => by cases hk); have hown2 := own_below hown1 y2; have hz2 := y2.size)
                      | (at_builtin; refine append_pcs rfl _ _ rfl w.heap.size (.slice none 0 0) 0 [] rfl (World.ownsRow_nil _ _ _ _) B A n c l rfl HN.out hnone hrdV.out (by omega) hBV.size ?_; intro v1 V1 own1 grow1; rw [Nat.zero_add, List.nil_append] at own1; obtain ⟨P1, p1, rfl⟩ := own_slice own1; have hown1 := own1; have y1 := (Below.refl V.heap.size V).grown grow1 (Nat.le_refl _) (fun k hk => by cases hk); have hA2 := (hAV.below y1).more y1.size; have hz1 := y1.size; have hzw := hBV.size))
                    go_wp2_with fail
                    go_ret
                    exact ⟨by rw [hAE]; rfl, .inr ⟨hAL, w4, P4, p4, P2, p2, hB4, by rw [← HN.out], by rw [← HN.out, List.flatMap_append]; exact own4, own5⟩⟩
                · obtain ⟨E, hE0⟩ : ∃ E, E = endP (piE l) := ⟨_, rfl⟩
                  have hE := Lib.hid hE0.symm
                  rw [← hE0] at h5
                  have q1 : decide (E ≥ 0) = false := by simpa using h5
                  have q1' : decide (0 ≤ E) = false := by simpa using h5
                  have hlate : ¬ lateP (piE l) ⟨a, true, b⟩ := by
                    rintro (⟨h, _⟩ | ⟨h, _⟩)
                    · cases h
                    · rw [hE.out] at h; exact h5 h
                  clear h5 hE0
                  go_upto_region 12 with (first | (go_at_call 100; refine (r15far A c l B g o w3 (((hH.out.below (x1.mono hB)).below (x2.mono (Nat.le_trans hB x1.size))).below (x3.mono (Nat.le_trans hB (Nat.le_trans x1.size x2.size)))) (Nat.le_trans hB (Nat.le_trans x1.size (Nat.le_trans x2.size x3.size)))).mono ?_; rintro e w4 ⟨rfl, x4⟩; rw [hF.out]) | (go_at_call 99; refine (r15end A c l B g o w2 ((hH.out.below (x1.mono hB)).below (x2.mono (Nat.le_trans hB x1.size))) (Nat.le_trans hB (Nat.le_trans x1.size x2.size))).mono ?_; rintro e w3 ⟨rfl, x3⟩; rw [hE.out]) | (go_at_call 98; refine (r15shares A c l B g o a true A' b c' w1 (hH.out.below (x1.mono hB)) (Nat.le_trans hB x1.size) ha0 (by omega)).mono ?_; rintro e w2 ⟨rfl, x2⟩; rw [hs2.out]) | (go_at_call 97; refine (r15same A c l B g o a true A' b c' w hH.out hB hA.out.rd).mono ?_; rintro e w1 ⟨rfl, x1⟩; rw [hs1.out]))
                  have hAE : addE (piE l) ⟨a, true, b⟩ = 0 := by rw [addE, if_neg hbad, if_neg (by show ¬ a > 65535 - (b.length : Int); omega), if_neg (by rw [hs1.out]; decide), if_neg (by rw [hs2.out]; decide), if_neg hlate]
                  have hAL : addL (piE l) ⟨a, true, b⟩ = piE l ++ [⟨a, true, b⟩] := by rw [addL, if_pos hAE, if_neg (by rw [hs1.out]; decide)]
                  have hBV := (x1.trans ((x2.trans (x3.mono x2.size)).mono x1.size))
                  have hHV := hH.out.below (hBV.mono hB)
                  have hrowV := (hBV.block g hgw).trans hg
                  have hfV := heap_frozen hrowV o
                  have hAV := (hA.out.below hBV).more hBV.size
                  clear hbad hlate
                  generalize w3 = V at *
                  have k12 : V.cell? ⟨g, o, none⟩ = some (.slice A l.length c) := hHV.cell
                  have hn1 := hHV.n
                  obtain ⟨n, hn⟩ : ∃ n, n = l.length := ⟨_, rfl⟩
                  have HN := Lib.hid hn
                  rw [← hn] at k12 hn1
                  have hnone := hHV.none_
                  have hrdV := Lib.hid hHV.rd
                  clear hn hHV
                  go_upto_region 13 with (first
                    | (at_builtin; refine append_pcs rfl _ _ rfl w.heap.size (.slice P1 n p1) n (l.flatMap clP) rfl hown3 (w3.heap.size + 1) (some ⟨w3.heap.size, 0, none⟩) 1 1 [⟨⟨a, true, b⟩, P2, p2⟩] rfl rfl (fun e => by cases e) (rds_new w3 ⟨⟨a, true, b⟩, P2, p2⟩) (by omega) (by simp; omega) ?_; intro v4 w4 own4 grow4; obtain ⟨P4, p4, rfl⟩ := own_slice own4; have own5 := own_keepT (own_below o2 hNew) hown3 grow4 hTu; have hB3 := (hBV.trans (y1.mono hzw)).trans (y2.mono (by omega)); have hBN := hB3.trans (hNew.mono hB3.size); have hB4 := hBN.grown grow4 hBN.size (fun k hk => own_block_ge hown3 k hk); have kc4 := (hB4.cell (p := ⟨g, o, none⟩) hgw).trans hH.out.cell; have fc4 := heap_frozen ((hB4.block g hgw).trans hg) o)
                    | ((with_reducible show wpList _ _ _ (Oper.mk _ (Op.buildSlice _ _ _) _ _ _ _ :: _) _ _); refine wpList_growU rfl (run_bsp (cs := (clP ⟨⟨a, true, b⟩, P2, p2⟩).toArray) rfl rfl rfl) ?_; have hNew : Below w3.heap.size w3 (w3.alloc (.cells (clP ⟨⟨a, true, b⟩, P2, p2⟩).toArray 172)) := (Below.refl _ w3).alloc (Nat.le_refl _) _; have hown3 := own_below hown2 hNew)
                    | (at_builtin; refine append_rd rfl _ _ rfl w.heap.size (.slice none 0 0) 0 [] rfl (World.ownsRow_nil _ _ _ _) V1.heap.size A' c' b rfl hA2.none_ hA2.rd (by omega) (by omega) ?_; intro v2 w3 own2 grow2; obtain ⟨P2, p2, rfl, o2⟩ := own_made (bs := b) own2 (Nat.zero_add _) (List.nil_append _); have y2 := (Below.refl V1.heap.size V1).grown grow2 (Nat.le_refl _) (fun k hk => by cases hk); have hown2 := own_below hown1 y2; have hz2 := y2.size)
                    | (at_builtin; refine append_pcs rfl _ _ rfl w.heap.size (.slice none 0 0) 0 [] rfl (World.ownsRow_nil _ _ _ _) B A n c l rfl HN.out hnone hrdV.out (by omega) hBV.size ?_; intro v1 V1 own1 grow1; rw [Nat.zero_add, List.nil_append] at own1; obtain ⟨P1, p1, rfl⟩ := own_slice own1; have hown1 := own1; have y1 := (Below.refl V.heap.size V).grown grow1 (Nat.le_refl _) (fun k hk => by cases hk); have hA2 := (hAV.below y1).more y1.size; have hz1 := y1.size; have hzw := hBV.size))
                  go_wp2_with fail
                  go_ret
                  exact ⟨by rw [hAE]; rfl, .inr ⟨hAL, w4, P4, p4, P2, p2, hB4, by rw [← HN.out], by rw [← HN.out, List.flatMap_append]; exact own4, own5⟩⟩
        · have d3 : ((b.length : Int) % 8 != 0) = true := bne_iff_ne.2 h3
          have d3' : ((b.length : Int) % 8 == 0) = false := beq_eq_false_iff_ne.2 h3
          go_wp2
          have hAE : addE (piE l) ⟨a, true, b⟩ = 4 := by rw [addE, if_pos (.inr ⟨rfl, .inr h3⟩)]
          go_ret
          exact ⟨by rw [hAE]; rfl, .inl ⟨Below.refl _ _, by rw [addL]; first | rw [if_neg (by rw [hAE]; decide)] | rw [if_pos hAE, if_pos hs1.out]⟩⟩
    | false =>
      have hbad : ¬ badP ⟨a, false, b⟩ := by
        rintro (h | ⟨h, _⟩)
        · exact h1 h
        · cases h
      by_cases h4 : a > 65535 - (b.length : Int)
      · have d4 : decide (a > 65535 - (b.length : Int)) = true := decide_eq_true h4
        have d4' : decide (65535 - (b.length : Int) < a) = true := d4
        go_wp2
        have hAE : addE (piE l) ⟨a, false, b⟩ = 6 := by rw [addE, if_neg hbad, if_pos (by exact h4)]
        go_ret
        exact ⟨by rw [hAE]; rfl, .inl ⟨Below.refl _ _, by rw [addL]; first | rw [if_neg (by rw [hAE]; decide)] | rw [if_pos hAE, if_pos hs1.out]⟩⟩
      · have d4 : decide (a > 65535 - (b.length : Int)) = false := decide_eq_false h4
        have d4' : decide (65535 - (b.length : Int) < a) = false := d4
        cases g1 : sameP (piE l) ⟨a, false, b⟩ with
        | true =>
          have hs1 := Lib.hid g1
          clear g1
          go_wp2_with (go_at_call 97; refine (r15same A c l B g o a false A' b c' w hH.out hB hA.out.rd).mono ?_; rintro e w1 ⟨rfl, x1⟩; rw [hs1.out])
          have hAE : addE (piE l) ⟨a, false, b⟩ = 0 := by rw [addE, if_neg hbad, if_neg (by show ¬ a > 65535 - (b.length : Int); omega), if_pos hs1.out]
          go_ret
          exact ⟨by rw [hAE]; rfl, .inl ⟨(x1), by rw [addL]; first | rw [if_neg (by rw [hAE]; decide)] | rw [if_pos hAE, if_pos hs1.out]⟩⟩
        | false =>
          have hs1 := Lib.hid g1
          clear g1
          cases g2 : sharesP (piE l) ⟨a, false, b⟩ with
          | true =>
            have hs2 := Lib.hid g2
            clear g2
            go_wp2_with (first | (go_at_call 98; refine (r15shares A c l B g o a false A' b c' w1 (hH.out.below (x1.mono hB)) (Nat.le_trans hB x1.size) ha0 (by omega)).mono ?_; rintro e w2 ⟨rfl, x2⟩; rw [hs2.out]) | (go_at_call 97; refine (r15same A c l B g o a false A' b c' w hH.out hB hA.out.rd).mono ?_; rintro e w1 ⟨rfl, x1⟩; rw [hs1.out]))
            have hAE : addE (piE l) ⟨a, false, b⟩ = 9 := by rw [addE, if_neg hbad, if_neg (by show ¬ a > 65535 - (b.length : Int); omega), if_neg (by rw [hs1.out]; decide), if_pos hs2.out]
            go_ret
            exact ⟨by rw [hAE]; rfl, .inl ⟨(x1.trans (x2.mono x1.size)), by rw [addL]; first | rw [if_neg (by rw [hAE]; decide)] | rw [if_pos hAE, if_pos hs1.out]⟩⟩
          | false =>
            have hs2 := Lib.hid g2
            clear g2
            by_cases h5 : 0 ≤ endP (piE l)
            · obtain ⟨E, hE0⟩ : ∃ E, E = endP (piE l) := ⟨_, rfl⟩
              have hE := Lib.hid hE0.symm
              rw [← hE0] at h5
              have q1 : decide (E ≥ 0) = true := by simpa using h5
              have q1' : decide (0 ≤ E) = true := q1
              have hlate : lateP (piE l) ⟨a, false, b⟩ := .inl ⟨rfl, .inl (by rw [hE.out]; exact h5)⟩
              clear h5 hE0
              go_wp2_with (first | (go_at_call 100; refine (r15far A c l B g o w3 (((hH.out.below (x1.mono hB)).below (x2.mono (Nat.le_trans hB x1.size))).below (x3.mono (Nat.le_trans hB (Nat.le_trans x1.size x2.size)))) (Nat.le_trans hB (Nat.le_trans x1.size (Nat.le_trans x2.size x3.size)))).mono ?_; rintro e w4 ⟨rfl, x4⟩; rw [hF.out]) | (go_at_call 99; refine (r15end A c l B g o w2 ((hH.out.below (x1.mono hB)).below (x2.mono (Nat.le_trans hB x1.size))) (Nat.le_trans hB (Nat.le_trans x1.size x2.size))).mono ?_; rintro e w3 ⟨rfl, x3⟩; rw [hE.out]) | (go_at_call 98; refine (r15shares A c l B g o a false A' b c' w1 (hH.out.below (x1.mono hB)) (Nat.le_trans hB x1.size) ha0 (by omega)).mono ?_; rintro e w2 ⟨rfl, x2⟩; rw [hs2.out]) | (go_at_call 97; refine (r15same A c l B g o a false A' b c' w hH.out hB hA.out.rd).mono ?_; rintro e w1 ⟨rfl, x1⟩; rw [hs1.out]))
              have hAE : addE (piE l) ⟨a, false, b⟩ = 4 := by rw [addE, if_neg hbad, if_neg (by show ¬ a > 65535 - (b.length : Int); omega), if_neg (by rw [hs1.out]; decide), if_neg (by rw [hs2.out]; decide), if_pos hlate]
              go_ret
              exact ⟨by rw [hAE]; rfl, .inl ⟨(x1.trans ((x2.trans (x3.mono x2.size)).mono x1.size)), by rw [addL]; first | rw [if_neg (by rw [hAE]; decide)] | rw [if_pos hAE, if_pos hs1.out]⟩⟩
            · obtain ⟨E, hE0⟩ : ∃ E, E = endP (piE l) := ⟨_, rfl⟩
              have hE := Lib.hid hE0.symm
              rw [← hE0] at h5
              have q1 : decide (E ≥ 0) = false := by simpa using h5
              have q1' : decide (0 ≤ E) = false := by simpa using h5
              obtain ⟨F, hF0⟩ : ∃ F, F = farP (piE l) := ⟨_, rfl⟩
              have hF := Lib.hid hF0.symm
              by_cases h6 : F > a + (b.length : Int)
              · have q2 : decide (F > a + (b.length : Int)) = true := decide_eq_true h6
                have q2' : decide (a + (b.length : Int) < F) = true := q2
                have hlate : lateP (piE l) ⟨a, false, b⟩ := .inl ⟨rfl, .inr (by rw [hF.out]; exact h6)⟩
                clear h5 h6 hE0 hF0
                go_wp2_with (first | (go_at_call 100; refine (r15far A c l B g o w3 (((hH.out.below (x1.mono hB)).below (x2.mono (Nat.le_trans hB x1.size))).below (x3.mono (Nat.le_trans hB (Nat.le_trans x1.size x2.size)))) (Nat.le_trans hB (Nat.le_trans x1.size (Nat.le_trans x2.size x3.size)))).mono ?_; rintro e w4 ⟨rfl, x4⟩; rw [hF.out]) | (go_at_call 99; refine (r15end A c l B g o w2 ((hH.out.below (x1.mono hB)).below (x2.mono (Nat.le_trans hB x1.size))) (Nat.le_trans hB (Nat.le_trans x1.size x2.size))).mono ?_; rintro e w3 ⟨rfl, x3⟩; rw [hE.out]) | (go_at_call 98; refine (r15shares A c l B g o a false A' b c' w1 (hH.out.below (x1.mono hB)) (Nat.le_trans hB x1.size) ha0 (by omega)).mono ?_; rintro e w2 ⟨rfl, x2⟩; rw [hs2.out]) | (go_at_call 97; refine (r15same A c l B g o a false A' b c' w hH.out hB hA.out.rd).mono ?_; rintro e w1 ⟨rfl, x1⟩; rw [hs1.out]))
                have hAE : addE (piE l) ⟨a, false, b⟩ = 4 := by rw [addE, if_neg hbad, if_neg (by show ¬ a > 65535 - (b.length : Int); omega), if_neg (by rw [hs1.out]; decide), if_neg (by rw [hs2.out]; decide), if_pos hlate]
                go_ret
                exact ⟨by rw [hAE]; rfl, .inl ⟨(x1.trans ((x2.trans ((x3.trans (x4.mono x3.size)).mono x2.size)).mono x1.size)), by rw [addL]; first | rw [if_neg (by rw [hAE]; decide)] | rw [if_pos hAE, if_pos hs1.out]⟩⟩
              · have q2 : decide (F > a + (b.length : Int)) = false := decide_eq_false h6
                have q2' : decide (a + (b.length : Int) < F) = false := q2
                have hlate : ¬ lateP (piE l) ⟨a, false, b⟩ := by
                  rintro (⟨_, h | h⟩ | ⟨h, _⟩)
                  · rw [hE.out] at h; exact h5 h
                  · rw [hF.out] at h; exact h6 h
                  · rw [hE.out] at h; exact h5 h
                clear h5 h6 hE0 hF0
                go_upto_region 12 with (first | (go_at_call 100; refine (r15far A c l B g o w3 (((hH.out.below (x1.mono hB)).below (x2.mono (Nat.le_trans hB x1.size))).below (x3.mono (Nat.le_trans hB (Nat.le_trans x1.size x2.size)))) (Nat.le_trans hB (Nat.le_trans x1.size (Nat.le_trans x2.size x3.size)))).mono ?_; rintro e w4 ⟨rfl, x4⟩; rw [hF.out]) | (go_at_call 99; refine (r15end A c l B g o w2 ((hH.out.below (x1.mono hB)).below (x2.mono (Nat.le_trans hB x1.size))) (Nat.le_trans hB (Nat.le_trans x1.size x2.size))).mono ?_; rintro e w3 ⟨rfl, x3⟩; rw [hE.out]) | (go_at_call 98; refine (r15shares A c l B g o a false A' b c' w1 (hH.out.below (x1.mono hB)) (Nat.le_trans hB x1.size) ha0 (by omega)).mono ?_; rintro e w2 ⟨rfl, x2⟩; rw [hs2.out]) | (go_at_call 97; refine (r15same A c l B g o a false A' b c' w hH.out hB hA.out.rd).mono ?_; rintro e w1 ⟨rfl, x1⟩; rw [hs1.out]))
                have hAE : addE (piE l) ⟨a, false, b⟩ = 0 := by rw [addE, if_neg hbad, if_neg (by show ¬ a > 65535 - (b.length : Int); omega), if_neg (by rw [hs1.out]; decide), if_neg (by rw [hs2.out]; decide), if_neg hlate]
                have hAL : addL (piE l) ⟨a, false, b⟩ = piE l ++ [⟨a, false, b⟩] := by rw [addL, if_pos hAE, if_neg (by rw [hs1.out]; decide)]
                have hBV := (x1.trans ((x2.trans ((x3.trans (x4.mono x3.size)).mono x2.size)).mono x1.size))
                have hHV := hH.out.below (hBV.mono hB)
                have hrowV := (hBV.block g hgw).trans hg
                have hfV := heap_frozen hrowV o
                have hAV := (hA.out.below hBV).more hBV.size
                clear hbad hlate
                generalize w4 = V at *
                have k12 : V.cell? ⟨g, o, none⟩ = some (.slice A l.length c) := hHV.cell
                have hn1 := hHV.n
                obtain ⟨n, hn⟩ : ∃ n, n = l.length := ⟨_, rfl⟩
                have HN := Lib.hid hn
                rw [← hn] at k12 hn1
                have hnone := hHV.none_
                have hrdV := Lib.hid hHV.rd
                clear hn hHV
                go_upto_region 13 with (first
                  | (at_builtin; refine append_pcs rfl _ _ rfl w.heap.size (.slice P1 n p1) n (l.flatMap clP) rfl hown3 (w3.heap.size + 1) (some ⟨w3.heap.size, 0, none⟩) 1 1 [⟨⟨a, false, b⟩, P2, p2⟩] rfl rfl (fun e => by cases e) (rds_new w3 ⟨⟨a, false, b⟩, P2, p2⟩) (by omega) (by simp; omega) ?_; intro v4 w4 own4 grow4; obtain ⟨P4, p4, rfl⟩ := own_slice own4; have own5 := own_keepT (own_below o2 hNew) hown3 grow4 hTu; have hB3 := (hBV.trans (y1.mono hzw)).trans (y2.mono (by omega)); have hBN := hB3.trans (hNew.mono hB3.size); have hB4 := hBN.grown grow4 hBN.size (fun k hk => own_block_ge hown3 k hk); have kc4 := (hB4.cell (p := ⟨g, o, none⟩) hgw).trans hH.out.cell; have fc4 := heap_frozen ((hB4.block g hgw).trans hg) o)
                  | ((with_reducible show wpList _ _ _ (Oper.mk _ (Op.buildSlice _ _ _) _ _ _ _ :: _) _ _); refine wpList_growU rfl (run_bsp (cs := (clP ⟨⟨a, false, b⟩, P2, p2⟩).toArray) rfl rfl rfl) ?_; have hNew : Below w3.heap.size w3 (w3.alloc (.cells (clP ⟨⟨a, false, b⟩, P2, p2⟩).toArray 172)) := (Below.refl _ w3).alloc (Nat.le_refl _) _; have hown3 := own_below hown2 hNew)
                  | (at_builtin; refine append_rd rfl _ _ rfl w.heap.size (.slice none 0 0) 0 [] rfl (World.ownsRow_nil _ _ _ _) V1.heap.size A' c' b rfl hA2.none_ hA2.rd (by omega) (by omega) ?_; intro v2 w3 own2 grow2; obtain ⟨P2, p2, rfl, o2⟩ := own_made (bs := b) own2 (Nat.zero_add _) (List.nil_append _); have y2 := (Below.refl V1.heap.size V1).grown grow2 (Nat.le_refl _) (fun k hk => by cases hk); have hown2 := own_below hown1 y2; have hz2 := y2.size)
                  | (at_builtin; refine append_pcs rfl _ _ rfl w.heap.size (.slice none 0 0) 0 [] rfl (World.ownsRow_nil _ _ _ _) B A n c l rfl HN.out hnone hrdV.out (by omega) hBV.size ?_; intro v1 V1 own1 grow1; rw [Nat.zero_add, List.nil_append] at own1; obtain ⟨P1, p1, rfl⟩ := own_slice own1; have hown1 := own1; have y1 := (Below.refl V.heap.size V).grown grow1 (Nat.le_refl _) (fun k hk => by cases hk); have hA2 := (hAV.below y1).more y1.size; have hz1 := y1.size; have hzw := hBV.size))
                go_wp2_with fail
                go_ret
                exact ⟨by rw [hAE]; rfl, .inr ⟨hAL, w4, P4, p4, P2, p2, hB4, by rw [← HN.out], by rw [← HN.out, List.flatMap_append]; exact own4, own5⟩⟩
end Go.Proofs.Ythdaclbgandmcaa

/-
  A part put into a row of parts: the library's Insert, read off its text. What is kept where some blocks are written. Conditions are each theorem's own.
-/
namespace Go.Proofs.Ythdaclbgandmcaa
open Go.RowKit Go.Shelf

/-- All blocks but some lie as they lay. -/
structure Kept (S : Nat → Prop) (w w' : World) : Prop where
  os : w'.os = w.os
  tape : w'.tape = w.tape
  output : w'.output = w.output
  size : w.heap.size ≤ w'.heap.size
  block : ∀ k, k < w.heap.size → ¬ S k → w'.heap[k]? = w.heap[k]?
section
variable {S T : Nat → Prop} {a b c : World}
theorem Kept.of_below (h : Below a.heap.size a b) : Kept S a b := ⟨h.os, h.tape, h.output, h.size, fun k hk _ => h.block k hk⟩
theorem Kept.refl (a : World) : Kept S a a := Kept.of_below (Below.refl _ a)
theorem Kept.trans (h : Kept S a b) (k : Kept T b c) (hT : ∀ i, i < a.heap.size → T i → S i) : Kept S a c :=
  ⟨k.os.trans h.os, k.tape.trans h.tape, k.output.trans h.output, Nat.le_trans h.size k.size,
   fun i hi hs => (k.block i (Nat.lt_of_lt_of_le hi h.size) (fun t => hs (hT i hi t))).trans (h.block i hi hs)⟩
theorem Kept.then_below (h : Kept S a b) (k : Below b.heap.size b c) : Kept S a c := h.trans (T := fun _ => False) (Kept.of_below k) (fun _ _ f => f.elim)
theorem Kept.mono (h : Kept S a b) (hS : ∀ i, i < a.heap.size → S i → T i) : Kept T a b := ⟨h.os, h.tape, h.output, h.size, fun k hk hn => h.block k hk (fun s => hn (hS k hk s))⟩
theorem Kept.below {B : Nat} (h : Kept S a b) (hB : B ≤ a.heap.size) (hS : ∀ i, S i → B ≤ i) : Below B a b := ⟨h.os, h.tape, h.output, h.size, fun k hk => h.block k (by omega) (fun s => by have := hS k s; omega)⟩
theorem Kept.of_grown {r : Option Nat} (h : a.grownBy b r) : Kept (fun k => some k = r) a b := ⟨h.os, h.tape, h.output, h.size, fun k hk hn => h.block k hk hn⟩
theorem Kept.setRow (w : World) (g : Nat) (cs : Array Value) : Kept (fun k => k = g) w (w.setRow g cs) := ⟨rfl, rfl, rfl, by simp [World.setRow], fun k _ hn => setRow_other w g k cs hn⟩
theorem Kept.drew (w : World) : Kept S w w.drew := Kept.of_below (Below.refl _ w).drew
end
theorem splice_get {α : Type} {L cs : List α} {k : Nat} (h : k + cs.length ≤ L.length) (j : Nat) : (splice L k cs)[j]? = if k ≤ j ∧ j < k + cs.length then cs[j - k]? else L[j]? := by
  unfold splice
  by_cases h1 : j < k
  · rw [if_neg (by omega), List.getElem?_append_left (by simp; omega), List.getElem?_take, if_pos h1]
  · rw [List.getElem?_append_right (by simp; omega), List.length_take, Nat.min_eq_left (by omega)]
    by_cases h2 : j < k + cs.length
    · rw [if_pos ⟨by omega, h2⟩, List.getElem?_append_left (by omega)]
    · rw [if_neg (by omega), List.getElem?_append_right (by omega), List.getElem?_drop]
      congr 1; omega
/-- What the two copies leave, in either order: the cells ahead of the place, the new ones, the others. -/
theorem ins_take {α : Type} {R xs C : List α} {i n : Nat} (hi : i ≤ n) (hx : xs.length = n * 3) (hC : C.length = 3) (hp : ∀ j, j < i * 3 → R[j]? = xs[j]?) (R' : List α)
    (hR' : ∀ j, j < n * 3 + 3 → R'[j]? = if j < i * 3 then R[j]? else if j < i * 3 + 3 then C[j - i * 3]? else xs[j - 3]?) : R'.take (n * 3 + 3) = xs.take (i * 3) ++ (C ++ xs.drop (i * 3)) := by
  refine List.ext_getElem? fun j => ?_
  rw [List.getElem?_take]
  by_cases hj : j < n * 3 + 3
  · rw [if_pos hj, hR' j hj]
    by_cases h1 : j < i * 3
    · rw [if_pos h1, List.getElem?_append_left (by simp; omega), List.getElem?_take, if_pos h1, hp j h1]
    · rw [if_neg h1, List.getElem?_append_right (by simp; omega), List.length_take, Nat.min_eq_left (by omega)]
      by_cases h2 : j < i * 3 + 3
      · rw [if_pos h2, List.getElem?_append_left (by omega)]
      · rw [if_neg h2, List.getElem?_append_right (by omega), List.getElem?_drop]
        congr 1; omega
  · rw [if_neg hj, List.getElem?_eq_none]
    simp; omega
theorem info_hp : (Try.prog.info? 158).map (fun i => (i.zero, i.size, i.bytes)) = some (some (.agg #[.int .i64 0, .bool false, .slice none 0 0]), 3, 40) := by kernel_rfl
/-- copy, over rows of elements of three cells. -/
theorem run_copy3 (w : World) (dT sT ty elem : TypeId) (g o dLen dCap : Nat) (a : Addr) (sLen sCap : Nat) (cur : Array Value) (t : TypeId) (cs : List Value) (k : Nat)
    (hu : Try.prog.underlying dT = some (.slice elem)) (hs : (Try.prog.info? elem).map (·.size) = some 3) (hk : k = Nat.min sLen dLen)
    (hg : w.heap[g]? = some (.cells cur t (0, 0))) (hn : cs.length = k * 3)
    (hsrc : ∀ j v, cs[j]? = some v → w.cell? (a.add j) = some v) (hfit : o + cs.length ≤ cur.size) (h1 : ∀ v ∈ cs, v.oneCell' = true) :
    (Builtin.copy_ #[dT, sT] ty #[.slice (some ⟨g, o, none⟩) dLen dCap, .slice (some a) sLen sCap]).run Try.prog w =
      .ok (goInt k) (w.setRow g (splice cur.toList o cs).toArray) := by
  have hl := run_loadCells_list (P := Try.prog) w a cs hsrc
  have hst := run_storeCells_at Try.prog g o t cs 0 cur w hg (by simpa using hfit) h1
  cases hq : Try.prog.info? elem with
  | none => simp [hq] at hs
  | some i =>
    have hi : i.size = 3 := by simpa [hq] using hs
    rw [hn] at hl
    subst hk
    simp [Builtin.copy_, run_underlying hu, Builtin.lenOf, Builtin.firstCells, sizeOf, typeInfo, hq, hi, hl, hst, splice]
theorem wpList_copy_eq {P : Program} {w : World} {ops : Array Oper} {rest : List Oper} {o : Oper} {a : Act} {Q : Exit → Act → World → Prop} (hgd : o.guard = none) (d s : Operand) (t t' : TypeId)
    (ho : o.op = .call { callee := .builtin .copy, args := #[d, s], argTypes := #[t, t'] }) (v u : Value) (hd : a.eval d = v) (hs : a.eval s = u) {v' : Value} {w1 : World}
    (hr : (Builtin.copy_ #[t, t'] o.type #[v, u]).run P w = .ok v' w1) (h : ∀ w', w' = w1 → wpList P ops Q rest (a.put o.dst v') w') : wpList P ops Q (o :: rest) a w :=
  wpList_plain hgd fun K hK => by
    unfold Oper.wp execOp
    simp only [ho, resolve, invoke, builtin, Sem.run_bind, Sem.run_pure, Result.andThen_ok, List.map_toArray, List.map_cons, List.map_nil, hd, hs, hr]
    exact hK _ _ (h _ rfl)
theorem step_copy_eq {P : Program} {ops : Array Oper} {o : Oper} {a : Act} {w : World} {K : Act → World → Prop} {Q : Exit → Act → World → Prop} {E : Prop}
    (hg : o.guard = none) (d x : Operand) (dT sT : TypeId) (hop : o.op = Op.call { callee := Callee.builtin Builtin.copy, args := #[d, x], argTypes := #[dT, sT] })
    (v u : Value) (hd : a.eval d = v) (hx : a.eval x = u) {v' : Value} {w1 : World} (hr : (Builtin.copy_ #[dT, sT] o.type #[v, u]).run P w = .ok v' w1) (hK : ∀ w', w' = w1 → K (a.put o.dst v') w') :
    if Region.wanted o (yielded ops a.tmps) = true then Oper.wp P o a w K Q else E := by
  have hw : Region.wanted o (yielded ops a.tmps) = true := by simp [Region.wanted, hg]
  rw [if_pos hw]
  unfold Oper.wp
  simp [execOp, hop, resolve, invoke, builtin, hd, hx, hr, Result.andThen]
  exact hK _ rfl
theorem clP_oneM {L : List XP} : ∀ u ∈ L.flatMap clP, u.oneCell' = true := fun u hu => by
  obtain ⟨y, _, hy⟩ := List.mem_flatMap.1 hu
  exact clP_ones y u hy
def putX (L : List XP) (i : Nat) (x : XP) : List XP := L.take i ++ x :: L.drop i
theorem putX_cells (L : List XP) (i : Nat) (x : XP) : (putX L i x).flatMap clP = (L.flatMap clP).take (i * 3) ++ (clP x ++ (L.flatMap clP).drop (i * 3)) := by
  have h : ∀ (L : List XP) (i : Nat), (L.take i).flatMap clP = (L.flatMap clP).take (i * 3) ∧ (L.drop i).flatMap clP = (L.flatMap clP).drop (i * 3) := fun L => by
    induction L with
    | nil => intro i; simp
    | cons a L ih =>
      intro i
      cases i with
      | zero => simp
      | succ i =>
        obtain ⟨h1, h2⟩ := ih i
        rw [List.take_succ_cons, List.drop_succ_cons, List.flatMap_cons, List.flatMap_cons, h1, h2]
        have e : (i + 1) * 3 = (clP a).length + i * 3 := by show _ = 3 + i * 3; omega
        rw [e, List.take_length_add_append, List.drop_length_add_append]
        exact ⟨rfl, rfl⟩
  rw [putX, List.flatMap_append, List.flatMap_cons, (h L i).1, (h L i).2]
theorem overlaps_no (w : World) (vb g la ca lb cb o kA kB : Nat) (tA tB : TypeId) (hne : vb ≠ g) (hsa : w.shape? vb = some (tA, kA)) (hsb : w.shape? g = some (tB, kB)) (hkB : kB ≠ 0) (hfa : w.frozen? ⟨vb, 0, none⟩ = false) (hfe : w.frozen? ⟨vb, kA, none⟩ = false) :
    (callFunc 146 #[.slice (some ⟨vb, 0, none⟩) la ca, .slice (some ⟨g, o, none⟩) lb cb]).run Try.prog w = .ok (.value (.bool false)) w := by
  have hov : (callFunc 146 #[.slice (some ⟨vb, 0, none⟩) la ca, .slice (some ⟨g, o, none⟩) lb cb]).run Try.prog w = _ :=
    run_callFunc_extern Try.func146 (by kernel_rfl) (by kernel_rfl) (by kernel_rfl) (e := Extern.SlicesOverlaps.overlaps #[156, 156] #[4]) (by kernel_rfl) _ w
  rw [hov, Lib.run_overlaps_apart w 156 4 158 Try.underlying156 3 (fun w => by have := sizeOf_hpart w; rwa [show Try.prog.elem 156 = 158 by kernel_rfl] at this) ⟨vb, 0, none⟩ ⟨g, o, none⟩ la ca lb cb hne tA tB kA kB hsa hsb hkB hfa hfe]
  rfl
set_option maxRecDepth 100000 in
set_option maxHeartbeats 1000000 in
/-- Insert where there is room, ahead of the end: in place. -/
theorem hcins_shift (g c i vb : Nat) (cur : Array Value) (L : List XP) (x : XP) (w : World) (hg : w.heap[g]? = some (.cells cur 158 (0, 0))) (hi : i < L.length) (hn : L.length ≤ 100000) (hc : L.length + 1 ≤ c) (hs : cur.size = c * 3)
    (ht : cur.toList.take (L.length * 3) = L.flatMap clP) (hv : w.heap[vb]? = some (.cells (clP x).toArray 158 (0, 0))) (hne : vb ≠ g) :
    Calls Try.prog 125 #[.slice (some ⟨g, 0, none⟩) L.length c, .int .i64 i, .slice (some ⟨vb, 0, none⟩) 1 1] w fun e w' =>
      e = .returned (.slice (some ⟨g, 0, none⟩) (L.length + 1) c) ∧ (∃ cur', w'.heap[g]? = some (.cells cur' 158 (0, 0)) ∧ cur'.size = c * 3 ∧ cur'.toList.take ((L.length + 1) * 3) = (putX L i x).flatMap clP) ∧ Kept (fun k => k = g) w w' := by
  obtain ⟨n, hnn⟩ : ∃ n, n = L.length := ⟨_, rfl⟩
  obtain ⟨xs, hxs⟩ : ∃ xs, xs = L.flatMap clP := ⟨_, rfl⟩
  have hxl : xs.length = n * 3 := by rw [hxs, hnn]; exact flat3 L
  have hx1 : ∀ u ∈ xs, u.oneCell' = true := by rw [hxs]; exact clP_oneM
  have HPX := Lib.hid (putX_cells L i x)
  rw [← hxs] at HPX
  have hcl : (clP x).length = 3 := rfl
  have hc1x := clP_ones x
  rw [← hnn] at hi hn hc ht ⊢
  rw [← hxs] at ht
  have hcpA : ∀ ty dc sc, (Builtin.copy_ #[156, 156] ty #[.slice (some ⟨g, (i + 1) * 3, none⟩) (n - i) dc, .slice (some ⟨g, i * 3, none⟩) (n + 1 - i) sc]).run Try.prog w.drew = .ok (goInt (n - i : Nat)) (w.drew.setRow g (splice cur.toList ((i + 1) * 3) (xs.drop (i * 3))).toArray) := fun ty dc sc =>
    run_copy3 w.drew _ _ ty 158 g ((i + 1) * 3) _ dc ⟨g, i * 3, none⟩ _ sc cur 158 (xs.drop (i * 3)) (n - i) Try.underlying156 (by kernel_rfl) (by simp only [Nat.min_def]; split <;> omega) hg (by simp; omega)
      (fun j v hj => by
        rw [List.getElem?_drop, ← ht, List.getElem?_take] at hj
        split at hj
        · rw [add_off]; exact cells_at hg (by simpa using hj)
        · cases hj)
      (by simp; omega) (fun v hv => hx1 v (List.mem_of_mem_drop hv))
  have hi3 : i * 3 + 3 ≤ n * 3 := by omega
  have HT := Lib.hid ht
  clear hnn hxs ht
  have hz2 : ¬ ((i : Int) = (n : Int)) := by omega
  have hz3 : ¬ ((c : Int) < (n : Int) + 1) := by omega
  have hb2 : ¬ (c = i + 1) := by omega
  have hb4 : ¬ (c = i) := by omega
  have htn : ((i : Int) + 1).toNat = i + 1 := by omega
  have htm : ((n : Int) + 1).toNat = n + 1 := by omega
  have hov := fun la ca lb cb o => overlaps_no w vb g la ca lb cb o 3 cur.size 158 158 hne (by simp [World.shape?, hv, clP]) (by simp [World.shape?, hg]) (by omega) (heap_frozen hv _) (heap_frozen hv _)
  go_enter Try.func125, Try.ntmps125
  go_wp2_with (simp only [hov])
  have hw1 : IntKind.i64.wrap ((i : Int) + 1) = (i : Int) + 1 := IntWalk.i64_in _ (by omega)
  have hb1 : (0 : Int) ≤ (i : Int) + 1 := by omega
  have hb3 : (i : Int) ≤ (n : Int) := by omega
  have hb5 : (i : Int) ≤ (n : Int) + 1 := by omega
  have hb6 : (i : Int) + 1 ≤ (n : Int) + 1 := by omega
  obtain ⟨cur1, hc1⟩ : ∃ cur1, cur1 = (splice cur.toList ((i + 1) * 3) (xs.drop (i * 3))).toArray := ⟨_, rfl⟩
  have HC1 := Lib.hid hc1.symm
  have hl1 : cur1.toList.length = c * 3 := by rw [hc1, List.toList_toArray, length_splice _ _ _ (by simp; omega)]; simpa using hs
  have hl2 : cur1.size = c * 3 := by simpa using hl1
  clear hc1
  have hcpB : ∀ (W : World), W.heap[g]? = some (.cells cur1 158 (0, 0)) → W.heap[vb]? = some (.cells (clP x).toArray 158 (0, 0)) → ∀ ty dc sc, (Builtin.copy_ #[156, 156] ty #[.slice (some ⟨g, i * 3, none⟩) (n + 1 - i) dc, .slice (some ⟨vb, 0, none⟩) 1 sc]).run Try.prog W = .ok (goInt (1 : Nat)) (W.setRow g (splice cur1.toList (i * 3) (clP x)).toArray) := fun W h1 h2 ty dc sc =>
    run_copy3 W _ _ ty 158 g (i * 3) (n + 1 - i) dc ⟨vb, 0, none⟩ 1 sc cur1 158 (clP x) 1 Try.underlying156 (by kernel_rfl) (by simp only [Nat.min_def]; split <;> omega) h1 (by rw [hcl]) (fun j v hj => by rw [add_off, Nat.zero_add]; exact cells_at h2 (by simpa using hj)) (by rw [hcl]; omega) hc1x
  go_region_law (refine step_copy_eq rfl _ _ 156 156 rfl (.slice (some ⟨g, (i + 1) * 3, none⟩) (n - i) (c - (i + 1))) (.slice (some ⟨g, i * 3, none⟩) (n + 1 - i) (c - i)) (by simp [Act.eval, Act.put]) (by simp [Act.eval, Act.put]) (hcpA _ _ _) ?_; intro w1 hd0; have hd1 := Lib.hid hd0; clear hd0)
  all_goals (
    have hg1 : w1.heap[g]? = some (.cells cur1 158 (0, 0)) := by rw [hd1.out, HC1.out]; exact setRow_heap _ _ _ _ _ _ hg
    have hv1 : w1.heap[vb]? = some (.cells (clP x).toArray 158 (0, 0)) := by rw [hd1.out]; exact (setRow_other _ g vb _ hne).trans hv
    have K1 : Kept (fun k => k = g) w w1 := by rw [hd1.out]; exact (Kept.drew w).trans (Kept.setRow _ g _) (fun _ _ h => h)
    clear hd1 hcpA
    go_wp2
    go_ret
    refine ⟨rfl, ⟨(splice cur1.toList (i * 3) (clP x)).toArray, by exact setRow_heap _ _ _ _ _ _ hg1, by simp [splice, hcl]; omega, ?_⟩, K1.trans (by exact Kept.setRow _ g _) (fun _ _ h => h)⟩
    rw [HPX.out, show (n + 1) * 3 = n * 3 + 3 by omega]
    refine ins_take (R := cur.toList) (by omega) hxl hcl (fun j hj => ?_) _ (fun j hj => ?_)
    · rw [← HT.out, List.getElem?_take, if_pos (by omega)]
    · rw [List.toList_toArray, splice_get (by rw [hcl, hl1]; omega)]
      by_cases c1 : j < i * 3
      · rw [if_neg (by omega), if_pos c1, ← HC1.out, List.toList_toArray, splice_get (by simp; omega), if_neg (by omega)]
      · rw [if_neg c1]
        by_cases c2 : j < i * 3 + 3
        · rw [if_pos ⟨by omega, by omega⟩, if_pos c2]
        · rw [if_neg (by omega), if_neg c2, ← HC1.out, List.toList_toArray, splice_get (by simp; omega), if_pos ⟨by omega, by simp; omega⟩, List.getElem?_drop]
          congr 1; omega)
end Go.Proofs.Ythdaclbgandmcaa

/-
  A part put into a row of parts: the library's Insert where there is no room, and at the end. Conditions are each theorem's own.
-/
namespace Go.Proofs.Ythdaclbgandmcaa
open Go.RowKit Go.Shelf
set_option maxRecDepth 100000 in
set_option maxHeartbeats 1000000 in
/-- Insert where there is no room, ahead of the end: a new row. -/
theorem hcins_grow (g c i vb : Nat) (cur : Array Value) (L : List XP) (x : XP) (w : World) (hg : w.heap[g]? = some (.cells cur 158 (0, 0))) (hi : i < L.length) (hn : L.length ≤ 100000) (hc0 : L.length ≤ c) (hc : c < L.length + 1)
    (ht : cur.toList.take (L.length * 3) = L.flatMap clP) (hv : w.heap[vb]? = some (.cells (clP x).toArray 158 (0, 0))) :
    Calls Try.prog 125 #[.slice (some ⟨g, 0, none⟩) L.length c, .int .i64 i, .slice (some ⟨vb, 0, none⟩) 1 1] w fun e w' =>
      ∃ c', e = .returned (.slice (some ⟨w.heap.size, 0, none⟩) (L.length + 1) c') ∧ (∃ cur', w'.heap[w.heap.size]? = some (.cells cur' 158 (0, 0)) ∧ cur'.size = c' * 3 ∧ cur'.toList.take ((L.length + 1) * 3) = (putX L i x).flatMap clP) ∧
        (L.length + 1 ≤ c' ∧ c' ≤ maxLen) ∧ Below w.heap.size w w' := by
  obtain ⟨n, hnn⟩ : ∃ n, n = L.length := ⟨_, rfl⟩
  obtain ⟨xs, hxs⟩ : ∃ xs, xs = L.flatMap clP := ⟨_, rfl⟩
  have hxl : xs.length = n * 3 := by rw [hxs, hnn]; exact flat3 L
  have hx1 : ∀ u ∈ xs, u.oneCell' = true := by rw [hxs]; exact clP_oneM
  have HPX := Lib.hid (putX_cells L i x)
  rw [← hxs] at HPX
  have hcl : (clP x).length = 3 := rfl
  have hc1x := clP_ones x
  rw [← hnn] at hi hn hc hc0 ht ⊢
  rw [← hxs] at ht
  have hgz : g < w.heap.size := heap_lt hg
  have hvz : vb < w.heap.size := heap_lt hv
  obtain ⟨i0, hi0, hz0, hzs, hzb⟩ := info_parts info_hp
  have hkk : (n : Int) + 1 - (i : Int) = ((n + 1 - i : Nat) : Int) := by omega
  have hik : i + (n + 1 - i) = n + 1 := by omega
  have hold : (Builtin.firstCells i0.size i (.slice (some ⟨g, 0, none⟩) i c)).run Try.prog w.drew = .ok (xs.take (i * 3)).toArray w.drew := by
    rw [hzs]
    exact run_firstCells_some w.drew 3 i ⟨g, 0, none⟩ i c (xs.take (i * 3)) (by rw [List.length_take]; omega) (fun j v hj => by
      rw [add_off, Nat.zero_add]
      rw [List.getElem?_take] at hj
      split at hj
      · refine cells_at (w := w.drew) hg ?_
        rw [← ht, List.getElem?_take] at hj
        split at hj
        · simpa using hj
        · cases hj
      · cases hj)
  have hrz : ∀ ty, (Builtin.append_ #[156, 3] ty #[.slice (some ⟨g, 0, none⟩) i c, .int .i64 ((n : Int) + 1 - (i : Int))]).run Try.prog w =
      .ok (.slice (some ⟨w.heap.size, 0, none⟩) (n + 1) (grownCap w (n + 1) c 158)) (w.drew.alloc (.cells ((xs.take (i * 3)).toArray ++ Builtin.zeroCells (Value.agg #[.int .i64 0, .bool false, .slice none 0 0]).cells (n + 1 - i) ++ Builtin.zeroCells (Value.agg #[.int .i64 0, .bool false, .slice none 0 0]).cells (grownCap w (n + 1) c 158 - (n + 1))) 158)) := fun ty => by
    have h := Lib.run_append_grow_zeros w 156 3 ty 158 i0 _ .i64 .i64 Try.underlying156 Try.underlying3 hi0 hz0 (some ⟨g, 0, none⟩) i c (xs.take (i * 3)) hold (n + 1 - i) (by omega) (by omega) (by omega) (by omega) (by rw [hzb]; omega) (by rw [hzb, hik]; exact growslice_fits (by omega) (by omega))
    rw [hik] at h
    rw [hkk]
    exact h
  obtain ⟨G, hG⟩ : ∃ G, G = grownCap w (n + 1) c 158 := ⟨_, rfl⟩
  obtain ⟨ROW, hROW⟩ : ∃ ROW : Array Value, ROW = (xs.take (i * 3)).toArray ++ Builtin.zeroCells (Value.agg #[.int .i64 0, .bool false, .slice none 0 0]).cells (n + 1 - i) ++ Builtin.zeroCells (Value.agg #[.int .i64 0, .bool false, .slice none 0 0]).cells (G - (n + 1)) := ⟨_, rfl⟩
  rw [← hG] at hrz
  rw [← hROW] at hrz
  have hGn : n + 1 ≤ G := by rw [hG]; exact grownCap_ge w _ _ _
  have hGm : G ≤ maxLen := by
    have := grownCap_le_maxLen w (n + 1) c 158 (by unfold maxLen; omega)
    rwa [← hG] at this
  have hRl : ROW.size = G * 3 := by
    rw [hROW]
    simp [Builtin.zeroCells, Value.cells]
    omega
  have hRp : ∀ j, j < i * 3 → ROW.toList[j]? = xs[j]? := fun j hj => by
    rw [hROW]
    simp only [Array.toList_append]
    rw [List.append_assoc, List.getElem?_append_left (by simp; omega), List.getElem?_take, if_pos hj]
  have HRP := Lib.hid hRp
  have HT := Lib.hid ht
  obtain ⟨W1, hW1⟩ : ∃ W1, W1 = w.drew.alloc (.cells ROW 158) := ⟨_, rfl⟩
  rw [← hW1] at hrz
  have h1N : W1.heap[w.heap.size]? = some (.cells ROW 158 (0, 0)) := by rw [hW1]; exact World.alloc_heap_new w.drew _
  have B1 : Below w.heap.size w W1 := by rw [hW1]; exact ((Below.refl _ w).drew).alloc (Nat.le_refl _) _
  have h1v := (B1.block vb hvz).trans hv
  obtain ⟨R2, hR2⟩ : ∃ R2, R2 = (splice ROW.toList (i * 3) (clP x)).toArray := ⟨_, rfl⟩
  obtain ⟨W2, hW2⟩ : ∃ W2, W2 = W1.setRow w.heap.size R2 := ⟨_, rfl⟩
  have hcpA : ∀ ty dc sc, (Builtin.copy_ #[156, 156] ty #[.slice (some ⟨w.heap.size, i * 3, none⟩) (n + 1 - i) dc, .slice (some ⟨vb, 0, none⟩) 1 sc]).run Try.prog W1 = .ok (goInt (1 : Nat)) W2 := fun ty dc sc => by
    rw [hW2, hR2]
    exact run_copy3 W1 _ _ ty 158 w.heap.size (i * 3) (n + 1 - i) dc ⟨vb, 0, none⟩ 1 sc ROW 158 (clP x) 1 Try.underlying156 (by kernel_rfl) (by simp only [Nat.min_def]; split <;> omega) h1N (by rw [hcl]) (fun j v hj => by rw [add_off, Nat.zero_add]; exact cells_at h1v (by simpa using hj)) (by rw [hcl]; omega) hc1x
  have h2N : W2.heap[w.heap.size]? = some (.cells R2 158 (0, 0)) := by rw [hW2]; exact setRow_heap _ _ _ _ _ _ h1N
  have B2 : Below w.heap.size w W2 := by rw [hW2]; exact below_setRow B1 (Nat.le_refl _) _
  have h2g := (B2.block g hgz).trans hg
  have hl2 : R2.toList.length = G * 3 := by rw [hR2, List.toList_toArray, length_splice _ _ _ (by rw [hcl]; simp; omega)]; simpa using hRl
  have hl3 : R2.size = G * 3 := by simpa using hl2
  obtain ⟨R3, hR3⟩ : ∃ R3, R3 = (splice R2.toList ((i + 1) * 3) (xs.drop (i * 3))).toArray := ⟨_, rfl⟩
  have hcpB : ∀ ty dc sc, (Builtin.copy_ #[156, 156] ty #[.slice (some ⟨w.heap.size, (i + 1) * 3, none⟩) (n - i) dc, .slice (some ⟨g, i * 3, none⟩) (n - i) sc]).run Try.prog W2.drew = .ok (goInt (n - i : Nat)) (W2.drew.setRow w.heap.size R3) := fun ty dc sc => by
    rw [hR3]
    exact run_copy3 W2.drew _ _ ty 158 w.heap.size ((i + 1) * 3) (n - i) dc ⟨g, i * 3, none⟩ (n - i) sc R2 158 (xs.drop (i * 3)) (n - i) Try.underlying156 (by kernel_rfl) (by simp only [Nat.min_def]; split <;> omega) h2N (by simp; omega)
      (fun j v hj => by
        rw [List.getElem?_drop, ← HT.out, List.getElem?_take] at hj
        split at hj
        · rw [add_off]; exact cells_at (w := W2.drew) h2g (by simpa using hj)
        · cases hj)
      (by simp; omega) (fun v hv => hx1 v (List.mem_of_mem_drop hv))
  have HR2 := Lib.hid hR2
  have HR3 := Lib.hid hR3
  have H2N := Lib.hid h2N
  have HBB := Lib.hid hcpB
  have hi3 : i * 3 + 3 ≤ n * 3 := by omega
  clear hkk hik hold hROW hG hnn hxs ht hW1 hW2 hR2 hR3 hRp h1N h1v h2N h2g hcpB hi0 hz0 hzs hzb
  have hz2 : ¬ ((i : Int) = (n : Int)) := by omega
  have hz3 : (c : Int) < (n : Int) + 1 := by omega
  have hci : ¬ (c = i) := by omega
  have hGi : ¬ (G = i) := by omega
  have hGim : ¬ (G = i + 1) := by omega
  have htn : ((i : Int) + 1).toNat = i + 1 := by omega
  go_enter Try.func125, Try.ntmps125
  go_wp2_with (at_builtin; refine Lib.wpList_append_run _ rfl _ _ _ _ rfl _ _ rfl rfl _ _ (hrz _) ?_)
  have hw1 : IntKind.i64.wrap ((i : Int) + 1) = (i : Int) + 1 := IntWalk.i64_in _ (by omega)
  have hb1 : (0 : Int) ≤ (i : Int) + 1 := by omega
  have hb3 : (i : Int) ≤ (n : Int) := by omega
  have hb6 : (i : Int) + 1 ≤ (n : Int) + 1 := by omega
  go_region_law (refine step_copy_eq rfl _ _ 156 156 rfl (.slice (some ⟨w.heap.size, (i + 1) * 3, none⟩) (n - i) (G - (i + 1))) (.slice (some ⟨g, i * 3, none⟩) (n - i) (c - i)) (by simp [Act.eval, Act.put]) (by simp [Act.eval, Act.put]) (HBB.out _ _ _) ?_; intro w1 hd0; have hd1 := Lib.hid hd0; clear hd0)
  all_goals (
    go_wp2
    go_ret
    have e3 : R3.size = G * 3 := by rw [HR3.out]; simp only [List.size_toArray]; rw [length_splice _ _ _ (by simp; omega)]; simpa using hl2
    refine ⟨G, rfl, ⟨R3, by rw [hd1.out]; exact setRow_heap _ _ _ _ _ _ H2N.out, e3, ?_⟩, ⟨hGn, hGm⟩, by rw [hd1.out]; exact below_setRow B2.drew (Nat.le_refl _) _⟩
    rw [HPX.out, show (n + 1) * 3 = n * 3 + 3 by omega]
    refine ins_take (R := ROW.toList) (by omega) hxl hcl HRP.out _ (fun j hj => ?_)
    rw [HR3.out, List.toList_toArray, splice_get (by simp; omega)]
    by_cases c1 : j < i * 3
    · rw [if_neg (by omega), if_pos c1, HR2.out, List.toList_toArray, splice_get (by rw [hcl]; simp; omega), if_neg (by omega)]
    · rw [if_neg c1]
      by_cases c2 : j < i * 3 + 3
      · rw [if_neg (by omega), if_pos c2, HR2.out, List.toList_toArray, splice_get (by rw [hcl]; simp; omega), if_pos ⟨by omega, by omega⟩]
      · rw [if_pos ⟨by omega, by simp; omega⟩, if_neg c2, List.getElem?_drop]
        congr 1; omega)
/-- append of one part, and where the row lies then. -/
theorem wpList_append_one {w : World} {ops : Array Oper} {rest : List Oper} {o : Oper} {a : Act} {Q : Exit → Act → World → Prop}
    (hg : o.guard = none) (s x : Operand) (hop : o.op = Op.call { callee := Callee.builtin Builtin.append, args := #[s, x], argTypes := #[156, 156] })
    (v : Value) (k : Nat) (xs : List Value) (hs : a.eval s = v) (hown : w.ownsRow 0 158 3 v k xs) (hv : v = .slice none 0 0 ∨ 0 < k) (ad : Addr) (c : Nat) (news : List Value) (hx : a.eval x = .slice (some ad) 1 c) (hn : news.length = 3)
    (hc : ∀ j u, news[j]? = some u → w.cell? (ad.add j) = some u) (h1c : ∀ u ∈ news, u.oneCell' = true) (b1 : k ≤ 1000000)
    (hK : ∀ v' w', w'.ownsRow 0 158 3 v' (k + 1) (xs ++ news) → w.grownBy w' v.ownBlock → (v'.ownBlock = v.ownBlock ∨ v'.ownBlock = some w.heap.size) → wpList Try.prog ops Q rest (a.put o.dst v') w') :
    wpList Try.prog ops Q (o :: rest) a w := by
  obtain ⟨i0, hi, hz0, hz1, hz2⟩ := info_parts info_hp
  refine wpList_plain hg fun K hK' => ?_
  obtain ⟨v', w', hrun, r1, r2, r3⟩ := run_append_own (P := Try.prog) w 0 156 o.type 158 i0 _ 3 40 Try.underlying156 hi hz0 hz1 hz2 rfl (by decide) v k xs hown ad 1 c news (by omega) hc h1c (by unfold maxLen; omega) (by omega) (Nat.zero_le _)
  have r4 := append_keeps (P := Try.prog) w 0 156 o.type 158 i0 _ 3 40 Try.underlying156 hi hz0 hz1 hz2 (by decide) v k xs hown hv ad c news hn hc h1c (by unfold maxLen; omega) (by omega) hrun
  unfold Oper.wp
  simp [execOp, hop, resolve, invoke, builtin, hs, hx, hrun, Result.andThen]
  exact hK' _ _ (hK v' w' r1 r2 r4.2)
set_option maxRecDepth 100000 in
set_option maxHeartbeats 1000000 in
theorem hcins_end (A : Option Addr) (c vb : Nat) (L : List XP) (x : XP) (w : World) (own : w.ownsRow 0 158 3 (.slice A L.length c) L.length (L.flatMap clP)) (hnil : Value.slice A L.length c = .slice none 0 0 ∨ 0 < L.length) (hn : L.length ≤ 100000) (hcap : L.length ≤ c)
    (hv : w.heap[vb]? = some (.cells (clP x).toArray 158 (0, 0))) :
    Calls Try.prog 125 #[.slice A L.length c, .int .i64 L.length, .slice (some ⟨vb, 0, none⟩) 1 1] w fun e w' =>
      ∃ A' c', e = .returned (.slice A' (L.length + 1) c') ∧ w'.ownsRow 0 158 3 (.slice A' (L.length + 1) c') (L.length + 1) (L.flatMap clP ++ clP x) ∧ w.grownBy w' (Value.slice A L.length c).ownBlock ∧
        ((Value.slice A' (L.length + 1) c').ownBlock = (Value.slice A L.length c).ownBlock ∨ (Value.slice A' (L.length + 1) c').ownBlock = some w.heap.size) := by
  obtain ⟨n, hnn⟩ : ∃ n, n = L.length := ⟨_, rfl⟩
  obtain ⟨xs, hxs⟩ : ∃ xs, xs = L.flatMap clP := ⟨_, rfl⟩
  rw [← hxs, ← hnn] at own ⊢
  rw [← hnn] at hnil hn hcap
  have HO := Lib.hid own
  have HNI := Lib.hid hnil
  clear hnn hxs own hnil
  go_enter Try.func125, Try.ntmps125
  go_wp2_with (at_builtin; refine wpList_append_one rfl _ _ rfl (.slice A n c) n xs rfl HO.out HNI.out ⟨vb, 0, none⟩ 1 (clP x) rfl rfl (fun j u hj => by rw [add_off, Nat.zero_add]; exact cells_at hv (by simpa using hj)) (clP_ones x) (by omega) ?_; intro v1 w1 own1 grow1 blk1; obtain ⟨A1, c1, rfl⟩ := own_slice own1; have G1 := Lib.hid (And.intro grow1 blk1); clear grow1 blk1)
  all_goals (go_ret; first | exact ⟨A1, c1, rfl, own1, G1.out.1, G1.out.2⟩ | (obtain rfl : c = n := (by assumption); exact ⟨A1, c1, rfl, own1, G1.out.1, G1.out.2⟩))
/-- Insert of one part, wherever. -/
theorem hcinsert (A : Option Addr) (c i vb : Nat) (L : List XP) (x : XP) (w : World) (own : w.ownsRow 0 158 3 (.slice A L.length c) L.length (L.flatMap clP)) (hnil : Value.slice A L.length c = .slice none 0 0 ∨ 0 < L.length) (hi : i ≤ L.length) (hn : L.length ≤ 100000)
    (hv : w.heap[vb]? = some (.cells (clP x).toArray 158 (0, 0))) (hne : (Value.slice A L.length c).ownBlock ≠ some vb) :
    Calls Try.prog 125 #[.slice A L.length c, .int .i64 i, .slice (some ⟨vb, 0, none⟩) 1 1] w fun e w' =>
      ∃ A' c', e = .returned (.slice A' (L.length + 1) c') ∧ w'.ownsRow 0 158 3 (.slice A' (L.length + 1) c') (L.length + 1) ((putX L i x).flatMap clP) ∧ Kept (fun k => (Value.slice A L.length c).ownBlock = some k) w w' ∧
        ((Value.slice A' (L.length + 1) c').ownBlock = (Value.slice A L.length c).ownBlock ∨ (Value.slice A' (L.length + 1) c').ownBlock = some w.heap.size) := by
  rcases Nat.lt_or_ge i L.length with h1 | h1
  · rcases own.2 with ⟨_, h0⟩ | ⟨g, cap, cur, hv2, _, hg, hnc, hcm, hcs, ht⟩
    · omega
    · injection hv2 with e1 e2 e3
      subst e1; subst e3
      have hb : (Value.slice (some ⟨g, 0, none⟩) L.length c).ownBlock = some g := rfl
      rw [hb] at hne ⊢
      have hne' : vb ≠ g := fun e => hne (by rw [e])
      have hxl := flat3 (putX L i x)
      have hpl : (putX L i x).length = L.length + 1 := by simp [putX]; omega
      rcases Nat.lt_or_ge c (L.length + 1) with h2 | h2
      · refine (hcins_grow g c i vb cur L x w hg h1 hn hnc h2 ht hv).mono ?_
        rintro e w' ⟨c', rfl, ⟨cur', g1, g2, g3⟩, ⟨g4, g5⟩, g6⟩
        exact ⟨_, c', rfl, ⟨by rw [hxl, hpl], .inr ⟨_, c', cur', rfl, Nat.zero_le _, g1, g4, g5, g2, g3⟩⟩, Kept.of_below g6, .inr rfl⟩
      · refine (hcins_shift g c i vb cur L x w hg h1 hn h2 hcs ht hv hne').mono ?_
        rintro e w' ⟨rfl, ⟨cur', g1, g2, g3⟩, g6⟩
        exact ⟨_, c, rfl, ⟨by rw [hxl, hpl], .inr ⟨_, c, cur', rfl, Nat.zero_le _, g1, h2, hcm, g2, g3⟩⟩, g6.mono (fun _ _ e => by rw [e]), .inl rfl⟩
  · obtain rfl : i = L.length := by omega
    have hcap : L.length ≤ c := by
      rcases own.2 with ⟨h2, h0⟩ | ⟨g, cap, cur, hv2, _, hg, hnc, _⟩
      · omega
      · injection hv2 with e1 e2 e3
        omega
    refine (hcins_end A c vb L x w own hnil hn hcap hv).mono ?_
    rintro e w' ⟨A', c', rfl, g1, g2, g3⟩
    refine ⟨A', c', rfl, ?_, (Kept.of_grown g2).mono (fun _ _ e => e.symm), g3⟩
    rw [putX, List.take_length, List.drop_length, List.flatMap_append]
    simpa using g1
end Go.Proofs.Ythdaclbgandmcaa

/-
  A region that draws its order and stores last: two operations may come up; the walk's moves. Conditions are each theorem's own.
-/
namespace Go.Proofs.Ythdaclbgandmcaa
open Go.RowKit
section
variable {n : Nat} {P : Program} {ops : Array Oper} {Q : Exit → Act → World → Prop} {md : Region.Mode} {S : World → Prop} {y : Nat}
theorem twoY {i j : Nat} {oi oj : Oper} {fuel : Nat} {listed : Array Bool} {a : Act} {w : World} (hr : Region.ready md ops listed = [i, j]) (hi : ops[i]? = some oi) (hj : ops[j]? = some oj) (hwi : Region.wanted oi (yielded ops a.tmps) = true) (hwj : Region.wanted oj (yielded ops a.tmps) = true)
    (h1 : ∀ K : Act → World → Prop, (∀ a w, ((listed.setIfInBounds i true).getD y true = false → S w) → anyHY n P md ops Q y S fuel (listed.setIfInBounds i true) a w → K a w) → oi.wpIn Fence.wide n P a w K Q)
    (h2 : ∀ K : Act → World → Prop, (∀ a w, ((listed.setIfInBounds j true).getD y true = false → S w) → anyHY n P md ops Q y S fuel (listed.setIfInBounds j true) a w → K a w) → oj.wpIn Fence.wide n P a w K Q) : anyHY n P md ops Q y S (fuel + 1) listed a w := by
  refine ⟨fun h0 => (by rw [hr] at h0; cases h0), fun k hk => ?_⟩
  rw [hr] at hk
  rcases List.mem_cons.1 hk with rfl | hk
  · unfold wpOpIn
    simp only [hi]
    rw [if_pos hwi]
    exact h1 _ (fun a w hS hW => ⟨hS, hW⟩)
  · rw [List.mem_singleton] at hk
    subst hk
    unfold wpOpIn
    simp only [hj]
    rw [if_pos hwj]
    exact h2 _ (fun a w hS hW => ⟨hS, hW⟩)
theorem valGI {o : Oper} {a : Act} {w w' : World} {K : Act → World → Prop} {v : Value} (hrun : (execOp a.eval o).run P w = .ok (.value v) w') (h : K (a.put o.dst v) w') : o.wpIn Fence.wide n P a w K Q :=
  ⟨fun _ _ => trivial, by rw [show Fence.wide.round = none from rfl, Oper.semAt_none, hrun]; exact h⟩
end
section
variable {n : Nat} {o : Oper} {a : Act} {w : World} {K : Act → World → Prop} {Q : Exit → Act → World → Prop}
theorem store_hpsI {x y : Operand} {p : Addr} {v0 : Value} {A : Option Addr} {m c : Nat} (ho : o.op = .store 156 x y) (hx : a.eval x = .pointer (some p)) (hy : a.eval y = .slice A m c) (hc : w.cell? p = some v0) (hf : w.frozen? p = false)
    (h : K (a.put o.dst undef) (w.setCell p (.slice A m c))) : o.wpIn Fence.wide n Try.prog a w K Q := by
  refine skipI (w' := w.setCell p (.slice A m c)) ?_ h
  unfold execOp
  simp only [ho, hx, hy, Instr.storeAt, Instr.sureAddr, Sem.run_bind, Sem.run_pure, Result.andThen_ok]
  go_simp
theorem store_intI {x y : Operand} {p : Addr} {v0 : Value} {i : Int} (ho : o.op = .store 3 x y) (hx : a.eval x = .pointer (some p)) (hy : a.eval y = .int .i64 i) (hc : w.cell? p = some v0) (hf : w.frozen? p = false)
    (h : K (a.put o.dst undef) (w.setCell p (.int .i64 i))) : o.wpIn Fence.wide n Try.prog a w K Q := by
  refine skipI (w' := w.setCell p (.int .i64 i)) ?_ h
  unfold execOp
  simp only [ho, hx, hy, Instr.storeAt, Instr.sureAddr, Sem.run_bind, Sem.run_pure, Result.andThen_ok]
  go_simp
end
end Go.Proofs.Ythdaclbgandmcaa
