/-
  Contracts and lemmas on which the proofs of this seat stand (several texts in one). Conditions are each theorem's own.
-/
import Derived.Test.YtpoigngpdcmipaaGreatMb12
import Derived.Test.YtpoigngpdcmipaaGreatMb7
import Derived.Test.YtpoigngpdcmipaaGreatMb3
import Derived.Test.YtpoigngpdcmipaaGreatMb6
import Derived.Test.YtpoigngpdcmipaaGreatMb8
import Derived.Test.YtpoigngpdcmipaaGreatMb1
namespace Go.Proofs.YtpoigngpdcmipaaGreat
open Go.RowKit
def dgE (s d f t ttl : Int) (b : List UInt8) : P4 := ⟨0, 0, 0, ttl, 17, s, d, false, false, [], bldU s d ⟨f, t, false, b⟩⟩
theorem quoted_ofE {b : List UInt8} (h : prsE b false = 0) : prsE b true = 0 ∧ prsV b true = prsV b false := by
  have hb : bad4 b false = 0 := by
    unfold prsE at h
    split at h
    · assumption
    · exact h
  have hb2 : bad4 b true = 0 := by
    unfold bad4 at hb ⊢
    split at hb
    · cases hb
    · rename_i g0
      rw [if_neg g0]
      split at hb
      · cases hb
      · rename_i g1
        rw [if_neg g1]
        split at hb
        · cases hb
        · rename_i g2
          rw [if_neg (by rintro (g | ⟨g, _⟩); exact g2 (.inl g); cases g)]
          split at hb
          · cases hb
          · rename_i g3
            rw [if_neg g3, if_neg (by rintro ⟨g, _⟩; cases g)]
  have he : prsE b true = 0 := by
    unfold prsE
    rw [if_pos hb2, if_neg (by rintro ⟨g, _⟩; cases g)]
  exact ⟨he, by rw [prsV, prsV, if_pos he, if_pos h]⟩
set_option maxRecDepth 100000 in
set_option maxHeartbeats 2000000 in
theorem plain_dgE (s d f t ttl : Int) (b : List UInt8) (A : Option Addr) (c : Nat) (w : World) (B : Nat) (hD : Arg w B A c b) (hB0 : B ≤ w.heap.size) (hl : b.length ≤ 900000) (hu : chkU ⟨f, t, false, b⟩ = 0) (h4 : chk4 (dgE s d f t ttl b) = 0) :
    Calls Tryz.prog 9 #[.int .i64 s, .int .i64 d, .int .i64 f, .int .i64 t, .int .i64 ttl, .slice A b.length c] w fun e w' => ∃ P p, e = .returned (.slice P (bld4 (dgE s d f t ttl b)).length p) ∧ Made w w' (.slice P (bld4 (dgE s d f t ttl b)).length p) (bld4 (dgE s d f t ttl b)) := by
  have HU := Lib.hid hu
  have H4 := Lib.hid h4
  obtain ⟨D, hDD⟩ : ∃ l, l = bldU s d ⟨f, t, false, b⟩ := ⟨_, rfl⟩
  have hDl : D.length = 8 + b.length := by rw [hDD, bldU_len]
  have HP := Lib.hid (show dgE s d f t ttl b = ⟨0, 0, 0, ttl, 17, s, d, false, false, [], D⟩ by rw [dgE, hDD])
  have HD := Lib.hid hDD
  obtain ⟨R, hR⟩ : ∃ l, l = bld4 (dgE s d f t ttl b) := ⟨_, rfl⟩
  have HR := Lib.hid hR
  rw [← hR]
  have hDL := Lib.hid hDl
  clear hu h4 hDD hR hDl
  go_enter Tryz.func9, Tryz.ntmps9
  go_wp2_with (first
    | (go_at_call 25; refine (rUbuild ⟨f, t, false, b⟩ A c s d w B hD hB0 (by show b.length ≤ _; omega)).mono ?_; rintro e w1 ⟨v1, rfl, _, m1⟩; have m1 := m1 HU.out; rw [← HD.out] at m1; obtain ⟨P, p, rfl, g1, o1, y1⟩ := made_shape m1; have x1 := m1.below)
    | (go_at_call 26; refine (r5build ⟨0, 0, 0, ttl, 17, s, d, false, false, [], D⟩ none 0 P p w1 w1.heap.size (Arg.nil _ _) g1 (Nat.le_refl _) (by simp) (by have := hDL.out; show D.length ≤ _; omega)).mono ?_; rintro e w2 ⟨v2, rfl, _, m2⟩; have m2 := m2 (by have h := H4.out; rwa [HP.out] at h); rw [← HP.out, ← HR.out] at m2; obtain ⟨P2, p2, rfl, g2, o2, y2⟩ := made_shape m2))
  go_ret
  exact ⟨P2, p2, rfl, m2.after x1⟩
theorem back_quo {q : P4} (h : chk4 q = 0) : prsE (bld4 q) true = 0 ∧ prsV (bld4 q) true = q := by
  have hk := back_ok (more := []) h
  rw [List.append_nil] at hk
  obtain ⟨h1, h2⟩ := quoted_ofE hk.1
  exact ⟨h1, h2.trans hk.2⟩
theorem typ_first {m : PI} (h : chkI m = 0) : byt (bldI [] m) 0 = m.typ := by
  obtain ⟨⟨a1, a2, _⟩, _⟩ := chkI_ok h
  have e : byt (bldI [] m) 0 = m.typ % 256 := u8_val m.typ
  omega
theorem may_parts {b : List UInt8} (h : mayE b = true) : prsE b true = 0 ∧ (prsV b true).off = 0 ∧ hostB (prsV b true).src = true ∧ hostB (prsV b true).dst = true := by
  unfold mayE okE at h
  simp only [Bool.and_eq_true, beq_iff_eq] at h
  exact ⟨h.1.1.1.1, h.1.1.1.2, h.1.1.2, h.1.2⟩
theorem once_may {a k c r : Int} {b : List UInt8} (h : mkE a k c r b = 0) (hf : fltI k = true) : chk4 (mkV a k c r b) = 0 ∧ mayE (bld4 (mkV a k c r b)) = false := by
  obtain ⟨h1, h2, h3⟩ := mkE_may h
  have hv : mkV a k c r b = pkE a b (msE k c r b) := by rw [mkV, if_pos h]
  rw [hv]
  refine ⟨h3, ?_⟩
  obtain ⟨e1, e2⟩ := back_quo h3
  have ht : tnE (pkE a b (msE k c r b)).dat = false := by
    show tnE (bldI [] (msE k c r b)) = false
    rw [tnE, typ_first h2]
    show (_ && !fltI k) = false
    rw [hf]; simp
  unfold mayE okE
  rw [e2, ht]
  have : ((pkE a b (msE k c r b)).proto != 1) = false := rfl
  rw [this]
  simp
theorem may_mk {a k c : Int} {b : List UInt8} (h : mayE b = true) (a0 : 0 ≤ a) (a1 : a < 4294967296) (k0 : 0 ≤ k) (k1 : k ≤ 255) (c0 : 0 ≤ c) (c1 : c ≤ 255) : mkE a k c 0 b = 0 := by
  obtain ⟨_, _, hs, _⟩ := may_parts h
  have hn : (b.take (nE b)).length ≤ 548 := by rw [List.length_take]; unfold nE; omega
  have hI : chkI (msE k c 0 b) = 0 := by
    rw [chkI, if_pos ⟨k0, k1, c0, c1, Int.le_refl _, (by show (0 : Int) < 4294967296; decide)⟩, if_neg (by show ¬ (b.take (nE b)).length > 65527; omega)]
  unfold hostB at hs
  rw [decide_eq_true_eq] at hs
  have hl : (bldI [] (msE k c 0 b)).length ≤ 556 := by rw [bldI_len]; show 8 + (b.take (nE b)).length ≤ _; omega
  have h4 : chk4 (pkE a b (msE k c 0 b)) = 0 := by
    have h0 : arg4 (pkE a b (msE k c 0 b)) := ⟨Int.le_refl _, (by show (0 : Int) ≤ 255; decide), (by show (0 : Int) ≤ 64; decide), (by show (64 : Int) ≤ 255; decide), (by show (0 : Int) ≤ 1; decide), (by show (1 : Int) ≤ 255; decide), Int.le_refl _, (by show (0 : Int) ≤ 65535; decide), a0, a1, (by show 0 ≤ (prsV b true).src; omega), (by show (prsV b true).src < _; omega), Int.le_refl _, (by show (0 : Int) ≤ 65528; decide), (by show (0 : Int) % 8 = 0; decide), (by show 0 ≤ 40; decide), (by show 0 % 4 = 0; decide), fun h => by cases h⟩
    rw [chk4, if_pos h0, if_neg]
    rintro (g | g)
    · have : size4 (pkE a b (msE k c 0 b)) = 20 + ((bldI [] (msE k c 0 b)).length : Int) := rfl
      omega
    · have e1 : (pkE a b (msE k c 0 b)).off = 0 := rfl
      have e2 : (pkE a b (msE k c 0 b)).dat = bldI [] (msE k c 0 b) := rfl
      rw [e1, e2] at g
      omega
  rw [mkE, if_pos h, if_pos hI, if_pos h4]
def exE : List UInt8 := bld4 (dgE 167772161 3221225985 5 6 1 [])
theorem ex_uchk : chkU ⟨5, 6, false, []⟩ = 0 := by decide
theorem ex_chk : chk4 (dgE 167772161 3221225985 5 6 1 []) = 0 := by
  have hl : (dgE 167772161 3221225985 5 6 1 []).dat.length = 8 := by show (bldU _ _ _).length = _; rw [bldU_len]; rfl
  have h0 : arg4 (dgE 167772161 3221225985 5 6 1 []) := by
    refine ⟨?_, ?_, ?_, ?_, ?_, ?_, ?_, ?_, ?_, ?_, ?_, ?_, ?_, ?_, ?_, ?_, ?_, fun h => by cases h⟩ <;> simp [dgE]
  rw [chk4, if_pos h0, if_neg]
  rintro (g | g)
  · have : size4 (dgE 167772161 3221225985 5 6 1 []) = 20 + ((dgE 167772161 3221225985 5 6 1 []).dat.length : Int) := rfl
    omega
  · have : (dgE 167772161 3221225985 5 6 1 []).off = 0 := rfl
    omega
theorem ex_may : mayE exE = true := by
  obtain ⟨e1, e2⟩ := back_quo ex_chk
  unfold mayE exE okE
  rw [e1, e2]
  have h1 : hostB (dgE 167772161 3221225985 5 6 1 []).src = true := by show hostB 167772161 = true; decide
  have h2 : hostB (dgE 167772161 3221225985 5 6 1 []).dst = true := by show hostB 3221225985 = true; decide
  have h3 : ((dgE 167772161 3221225985 5 6 1 []).off == 0) = true := rfl
  have h4 : ((dgE 167772161 3221225985 5 6 1 []).proto != 1) = true := rfl
  rw [h1, h2, h3, h4]
  rfl
end Go.Proofs.YtpoigngpdcmipaaGreat
namespace Go.Proofs.YtpoigngpdcmipaaGreat
open Go.RowKit
def wrP (s d : List UInt8) (hop : Int) (b : List UInt8) : P6 := ⟨0, 0, 4, hop, s, d, b⟩
def wrV (s d : List UInt8) (hop : Int) (b : List UInt8) : P6 := if chk6 (wrP s d hop b) = 0 then wrP s d hop b else p6z
def uwV (q : P6) : List UInt8 := if q.next = 4 then q.dat else []
def uwE (q : P6) : Int := if q.next = 4 then 0 else 4
def hpB (q : P4) : Bool := decide (1 < q.ttl)
def hpV (q : P4) : P4 := if 1 < q.ttl then { q with ttl := q.ttl - 1 } else p4z
theorem wrV_ok {s d : List UInt8} {hop : Int} {b : List UInt8} (h : chk6 (wrP s d hop b) = 0) : wrV s d hop b = wrP s d hop b := by rw [wrV, if_pos h]
theorem wr_chk {s d : List UInt8} {hop : Int} {b : List UInt8} (h0 : 0 ≤ hop) (h1 : hop ≤ 255) (hl : b.length ≤ 65535) : chk6 (wrP s d hop b) = 0 := by
  have ha : arg6 (wrP s d hop b) := ⟨Int.le_refl _, (by show (0 : Int) ≤ 255; decide), (by show (0 : Int) ≤ 4; decide), (by show (4 : Int) ≤ 255; decide), h0, h1, Int.le_refl _, (by show (0 : Int) < 1048576; decide)⟩
  rw [chk6, if_pos ha, if_neg (by show ¬ (b.length : Int) > 65535; omega)]
theorem rstF_len (b : List UInt8) : (rstF b).length ≤ b.length := by
  unfold rstF
  split
  · exact Nat.zero_le _
  · rw [List.length_drop]; omega
end Go.Proofs.YtpoigngpdcmipaaGreat
namespace Go.Proofs.YtpoigngpdcmipaaGreat
open Go.RowKit
end Go.Proofs.YtpoigngpdcmipaaGreat
namespace Go.Proofs.YtpoigngpdcmipaaGreat
open Go.RowKit
theorem own_cellR {w : World} {base g c i : Nat} {bs : List UInt8} (h : w.ownsRow base 5 1 (.slice (some ⟨g, 0, none⟩) bs.length c) bs.length (row bs)) (_hi : i < bs.length) : base ≤ g ∧ g < w.heap.size := by
  rcases h.2 with ⟨h0, _⟩ | ⟨k, cap, cur, hv, hb, hh, hle, _, hs, ht⟩
  · cases h0
  · cases hv; exact ⟨hb, heap_lt hh⟩
theorem wp_valR {o : Oper} {a : Act} {w : World} {K : Act → World → Prop} {Q : Exit → Act → World → Prop} {v : Value} (hrun : (execOp a.eval o).run Tryz.prog w = .ok (.value v) w) (h : K (a.put o.dst v) w) : o.wp Tryz.prog a w K Q := by
  unfold Oper.wp; rw [hrun]; exact h
theorem store_slR_wp {o : Oper} {a : Act} {w : World} {K : Act → World → Prop} {Q : Exit → Act → World → Prop} {x y : Operand} {p : Addr} {v0 : Value} {A : Option Addr} {n c : Nat} (ho : o.op = .store 22 x y) (hx : a.eval x = .pointer (some p)) (hy : a.eval y = .slice A n c) (hc : w.cell? p = some v0) (hf : w.frozen? p = false) (h : K (a.put o.dst undef) (w.setCell p (.slice A n c))) : o.wp Tryz.prog a w K Q := by
  unfold Oper.wp execOp
  simp only [ho, hx, hy]
  go_simp
  exact h
theorem own_setRowR {w : World} {base e sz n t : Nat} {v : Value} {xs : List Value} {cs cs' : Array Value} (h : w.ownsRow base e sz v n xs) {g : Nat} (hg : w.heap[g]? = some (.cells cs t (0, 0))) (hte : t ≠ e) : (w.setRow g cs').ownsRow base e sz v n xs := by
  refine ⟨h.1, ?_⟩
  rcases h.2 with hn | ⟨g', cap, cur, hv, hb, hg', rest⟩
  · exact .inl hn
  · refine .inr ⟨g', cap, cur, hv, hb, (setRow_other w g g' cs' (fun e' => ?_)).trans hg', rest⟩
    subst e'
    rw [hg'] at hg
    cases hg; exact hte rfl
theorem three_boxes (w : World) (x y z : Obj) : Below w.heap.size w (((w.alloc x).alloc y).alloc z) ∧ (((w.alloc x).alloc y).alloc z).heap[w.heap.size]? = some x ∧ (((w.alloc x).alloc y).alloc z).heap[w.heap.size + 1]? = some y ∧ (((w.alloc x).alloc y).alloc z).heap[w.heap.size + 2]? = some z ∧ w.heap.size + 2 < (((w.alloc x).alloc y).alloc z).heap.size := by
  have e1 : (w.alloc x).heap.size = w.heap.size + 1 := by simp
  have e2 : ((w.alloc x).alloc y).heap.size = w.heap.size + 2 := by simp
  refine ⟨(((Below.refl _ w).alloc (Nat.le_refl _) x).alloc (by omega) y).alloc (by omega) z, ?_, ?_, ?_, by simp⟩
  · exact (Below.heap_alloc _ _ _ (by omega)).trans ((Below.heap_alloc _ _ _ (by omega)).trans (World.alloc_heap_new w x))
  · refine (Below.heap_alloc _ _ _ (by omega)).trans ?_
    have := World.alloc_heap_new (w.alloc x) y
    rwa [e1] at this
  · have := World.alloc_heap_new ((w.alloc x).alloc y) z
    rwa [e2] at this
theorem range_hpR {W : World} {g : Nat} {cs : Array Value} {t : TypeId} {fr : Nat × Nat} (h : W.heap[g]? = some (.cells cs t fr)) : W.rangeAt g 0 cs.toList := fun j v hj => by
  rw [cell_of_row W g (0 + j) _ _ _ h, Nat.zero_add, ← Array.getElem?_toList]; exact hj
theorem v6a_szR (q : P6) (A : Option Addr) (c : Nat) (hs : q.src.length = 16) (hd : q.dst.length = 16) : (v6a q A c).size = 37 := by rw [v6a, List.size_toArray]; exact v6l_len hs hd
theorem v6a_set (q : P6) (A A' : Option Addr) (c c' : Nat) (hs : q.src.length = 16) (hd : q.dst.length = 16) : (v6a q A c).setIfInBounds 36 (.slice A' q.dat.length c') = v6a q A' c' := by
  apply Array.ext'
  rw [Array.toList_setIfInBounds]
  have hl : ∀ X Y, v6l q X Y = ([.int .i64 q.traffic, .int .i64 q.flow, .int .i64 q.next, .int .i64 q.hop] ++ row q.src ++ row q.dst) ++ [.slice X q.dat.length Y] := fun X Y => by simp [v6l]
  have hn : ([.int .i64 q.traffic, .int .i64 q.flow, .int .i64 q.next, .int .i64 q.hop] ++ row q.src ++ row q.dst : List Value).length = 36 := by simp [row_length, hs, hd]
  show (v6l q A c).set 36 _ = v6l q A' c'
  rw [hl, hl, List.set_append_right _ _ (by omega), hn]
  rfl
set_option maxRecDepth 100000 in
theorem run_build_wr {o : Oper} {a : Act} {w : World} {p h x y z : Operand} {s d b : List UInt8} {hop : Int} {q : P6} {A : Option Addr} {c : Nat} (ho : o.op = .build 38 #[(2, p), (3, h), (4, x), (5, y), (6, z)]) (hp : a.eval p = .int .i64 4) (hh : a.eval h = .int .i64 hop)
    (hx : a.eval x = .agg (cel s)) (hy : a.eval y = .agg (cel d)) (hz : a.eval z = .slice A b.length c) (hs : s.length = 16) (hd : d.length = 16) (hq : q = wrP s d hop b) :
    (execOp a.eval o).run Tryz.prog w = .ok (.value (v6v q A c)) w := by
  subst hq
  match s, hs, d, hd with
  | [s0, s1, s2, s3, s4, s5, s6, s7, s8, s9, s10, s11, s12, s13, s14, s15], _, [d0, d1, d2, d3, d4, d5, d6, d7, d8, d9, d10, d11, d12, d13, d14, d15], _ =>
    have e : (Array.map (fun y : Nat × Operand => (y.1, a.eval y.2)) #[(2, p), (3, h), (4, x), (5, y), (6, z)]) = #[(2, .int .i64 4), (3, .int .i64 hop), (4, .agg (cel [s0, s1, s2, s3, s4, s5, s6, s7, s8, s9, s10, s11, s12, s13, s14, s15])), (5, .agg (cel [d0, d1, d2, d3, d4, d5, d6, d7, d8, d9, d10, d11, d12, d13, d14, d15])), (6, .slice A b.length c)] := by simp [hp, hh, hx, hy, hz]
    have hb : (Instr.build 38 #[(2, .int .i64 4), (3, .int .i64 hop), (4, .agg (cel [s0, s1, s2, s3, s4, s5, s6, s7, s8, s9, s10, s11, s12, s13, s14, s15])), (5, .agg (cel [d0, d1, d2, d3, d4, d5, d6, d7, d8, d9, d10, d11, d12, d13, d14, d15])), (6, .slice A b.length c)]).run Tryz.prog w = .ok (v6v (wrP [s0, s1, s2, s3, s4, s5, s6, s7, s8, s9, s10, s11, s12, s13, s14, s15] [d0, d1, d2, d3, d4, d5, d6, d7, d8, d9, d10, d11, d12, d13, d14, d15] hop b) A c) w := by kernel_rfl
    unfold execOp
    simp only [ho, e, Sem.run_bind, hb]
    rfl
set_option maxHeartbeats 1000000 in
theorem cloneS_any (A : Option Addr) (bs : List UInt8) (c B : Nat) (w : World) (h : Arg w B A c bs) (hB : B ≤ w.heap.size) (hl : bs.length ≤ 1099511627776) :
    Calls Tryz.prog 86 #[.slice A bs.length c] w fun e w' => ∃ v, e = .returned v ∧ Made w w' v bs := by
  have q22 : ∀ (w : World) (a : Option Addr) (n c n' c' : Nat), (binOp .eql 22 (.slice a n c) (.slice none n' c')).run Tryz.prog w = .ok (.bool a.isNone) w := fun w a n c n' c' => Lib.run_eql_slice_nil w _ _ a n c n' c' Tryz.underlying22
  rcases A with _ | ad
  · have h0 : bs = [] := by
      rcases Nat.eq_zero_or_pos bs.length with e | e
      · exact List.eq_nil_of_length_eq_zero e
      · obtain ⟨_, _, e', _⟩ := h.rd e; cases e'
    subst h0
    go_enter Tryz.func86, Tryz.ntmps86
    go_wp2
    go_ret
    exact ⟨_, rfl, Made.nil _ _ (Below.refl _ _)⟩
  · have hr := h.rd
    have hn := h.none_
    go_enter Tryz.func86, Tryz.ntmps86
    go_wp2_with (at_builtin; refine append_rd rfl _ _ rfl w.heap.size _ _ _ rfl (World.ownsRow_made w #[] 0 (Nat.le_refl _) (Nat.zero_le _) rfl) B (some ad) c bs rfl hn (hr.alloc hB _) (by omega) (by simp) ?_; intro v' w1 hown hgrow)
    go_ret
    refine ⟨_, rfl, Made.of_own (by simpa using hown) (((Below.refl _ w).alloc (Nat.le_refl _) _).grown hgrow (by simp) (fun k hk => own_block_ge (World.ownsRow_made (base := w.heap.size) (e := 5) (size := 1) w #[] 0 (Nat.le_refl _) (Nat.zero_le _) rfl) k hk))⟩
theorem v4q_eqR (q : P4) (A : Option Addr) (c : Nat) (A' : Option Addr) (c' : Nat) : v4v q A c A' c' = .agg (v4a q A c A' c') := rfl
theorem At4.of_heapR {W : World} {g : Nat} {q : P4} {A : Option Addr} {c : Nat} {A' : Option Addr} {c' : Nat} {t : TypeId} {fr : Nat × Nat} (h : W.heap[g]? = some (.cells (v4a q A c A' c') t fr)) : At4 W g q A c A' c' := ofhE h
set_option maxRecDepth 100000 in
set_option maxHeartbeats 4000000 in
theorem cWwrap (s d : List UInt8) (hop : Int) (b : List UInt8) (A : Option Addr) (c B : Nat) (w : World) (hs : s.length = 16) (hd : d.length = 16) (hD : Arg w B A c b) (hB : B ≤ w.heap.size) (hl : b.length ≤ 1000000) :
    Calls Tryz.prog 89 #[.agg (cel s), .agg (cel d), .int .i64 hop, .slice A b.length c] w fun e w' => ∃ P p, e = .returned (.tuple #[v6v (wrV s d hop b) P p, .int .i64 (chk6 (wrP s d hop b))]) ∧ Made w w' (.slice P (wrV s d hop b).dat.length p) (wrV s d hop b).dat := by
  obtain ⟨q, hq⟩ : ∃ q, q = wrP s d hop b := ⟨_, rfl⟩
  have hqs : q.src.length = 16 := by rw [hq]; exact hs
  have hqd : q.dst.length = 16 := by rw [hq]; exact hd
  have hqb : q.dat = b := by rw [hq]; rfl
  have HW : Hid (wrV s d hop b = if chk6 q = 0 then q else p6z) := Lib.hid (by rw [hq]; rfl)
  have HQ := Lib.hid hq
  have HQB := Lib.hid hqb
  rw [← hq]
  obtain ⟨E, hE⟩ : ∃ x, x = chk6 q := ⟨_, rfl⟩
  have HE := Lib.hid hE
  rw [← hE]
  have HQL : Hid (q.dat.length ≤ 1000000) := Lib.hid (by rw [hqb]; exact hl)
  have HQS := Lib.hid hqs
  have HQD := Lib.hid hqd
  clear hq hE hqb hqs hqd
  go_enter Tryz.func89, Tryz.ntmps89
  go_upto_region 1 with fail
  rw [show #[.int .i64 0, .int .i64 0, .int .i64 0, .int .i64 0, .int .u8 0, .int .u8 0, .int .u8 0, .int .u8 0, .int .u8 0, .int .u8 0, .int .u8 0, .int .u8 0, .int .u8 0, .int .u8 0, .int .u8 0, .int .u8 0, .int .u8 0, .int .u8 0, .int .u8 0, .int .u8 0, .int .u8 0, .int .u8 0, .int .u8 0, .int .u8 0, .int .u8 0, .int .u8 0, .int .u8 0, .int .u8 0, .int .u8 0, .int .u8 0, .int .u8 0, .int .u8 0, .int .u8 0, .int .u8 0, .int .u8 0, .int .u8 0, .slice none 0 0] = v6a p6z none 0 from rfl]
  obtain ⟨hB3, k1, k2, k3, z3⟩ := three_boxes w (.cells (cel s) 25) (.cells (cel d) 25) (.cells (v6a p6z none 0) 38)
  generalize ((w.alloc (.cells (cel s) 25)).alloc (.cells (cel d) 25)).alloc (.cells (v6a p6z none 0) 38) = W at *
  have rS : W.rangeAt w.heap.size 0 (row s) := range_hpR k1
  have rD : W.rangeAt (w.heap.size + 1) 0 (row d) := range_hpR k2
  have zS : w.heap.size < W.heap.size := by omega
  have zD : w.heap.size + 1 < W.heap.size := by omega
  have hDW := hD.below (hB3.mono hB)
  have hBW := Nat.le_trans hB hB3.size
  go_upto_region 2 with (first
    | ((with_reducible show wpList _ _ _ (Oper.mk (some 13) (Op.load 25 _) _ _ _ _ :: _) _ _); refine wpList_val rfl (run_load_six rfl rfl rS hs) ?_)
    | ((with_reducible show wpList _ _ _ (Oper.mk (some 14) (Op.load 25 _) _ _ _ _ :: _) _ _); refine wpList_val rfl (run_load_six rfl rfl rD hd) ?_)
    | ((with_reducible show wpList _ _ _ (Oper.mk _ (Op.build 38 _) _ _ _ _ :: _) _ _); refine wpList_val rfl (run_build_wr (A := A) (c := c) rfl rfl rfl rfl rfl rfl hs hd HQ.out) ?_)
    | ((with_reducible show wpList _ _ _ (Oper.mk _ (Op.store 38 _ _) _ _ _ _ :: _) _ _); refine v6_store_new (cs := v6a q A c) rfl rfl rfl (by rw [v6a_szR _ _ _ HQS.out HQD.out]) (v6a_one _ _ _) ?_))
  have kq := World.alloc_heap_new W (.cells (v6a q A c) 38)
  have j4 : Below W.heap.size W (W.alloc (.cells (v6a q A c) 38)) := (Below.refl _ W).alloc (Nat.le_refl _) _
  have z4 := heap_lt kq
  generalize W.alloc (.cells (v6a q A c) 38) = X at *
  have at4 : At6 X W.heap.size q A c := range_hpR kq
  go_upto_region 3 with (first
    | ((with_reducible show wpList _ _ _ (Oper.mk _ (Op.load 38 _) _ _ _ _ :: _) _ _); refine wpList_val rfl (run_load_v6 rfl rfl at4 (v6l_len HQS.out HQD.out)) ?_)
    | (go_at_call 34; refine (c6check q A c _ HQS.out HQD.out HQL.out).mono ?_; rintro e w5 ⟨rfl, x5⟩; rw [← HE.out]))
  have kq5 := (x5.block W.heap.size z4).trans kq
  have j5 : Below W.heap.size W w5 := j4.trans (x5.mono j4.size)
  have k35 := (j5.block (w.heap.size + 2) z3).trans k3
  have b5 := hB3.trans (j5.mono hB3.size)
  have z5 := Nat.lt_of_lt_of_le z4 x5.size
  clear at4 kq j4 x5 rS rD k1 k2 k3
  by_cases h0 : E = 0
  · have dE : (E != 0) = false := by simp [h0]
    have HV : Hid (wrV s d hop b = q) := Lib.hid (by rw [HW.out, ← HE.out, if_pos h0])
    have H0 := Lib.hid h0
    clear h0
    go_upto_region 6 with (go_at_call 86; refine (cloneS_any A b c B _ (hD.below (b5.mono hB)) (Nat.le_trans hB b5.size) (by omega)).mono ?_; rintro e w6 ⟨v6, rfl, m6⟩; obtain ⟨P, p, rfl, g6, o6, y6⟩ := made_shape m6; have kq6 := (y6.block W.heap.size z5).trans kq5; have k36 : w6.cell? ⟨W.heap.size, 36, none⟩ = some (.slice A q.dat.length c) := At6.dat (range_hpR kq6) HQS.out HQD.out; have f36 := heap_frozen kq6 36)
    have kq7 := heap_setCell_same w6 W.heap.size 36 _ _ (.slice P b.length p) kq6
    rw [← HQB.out, v6a_set _ _ _ _ _ HQS.out HQD.out] at kq7
    have k37 := (heap_setCell_other w6 ⟨W.heap.size, 36, none⟩ (w.heap.size + 2) (.slice P q.dat.length p) (by show w.heap.size + 2 ≠ W.heap.size; omega)).trans ((y6.block _ (Nat.lt_of_lt_of_le z3 j5.size)).trans k35)
    have o7 := own_setCell o6 (p := ⟨W.heap.size, 36, none⟩) (u := .slice P q.dat.length p) z5
    have b7 := (b5.trans (y6.mono b5.size)).setCell (p := ⟨W.heap.size, 36, none⟩) (by show w.heap.size ≤ W.heap.size; omega) (.slice P q.dat.length p)
    rw [← HQB.out] at o7
    rw [← HQB.out]
    clear k36 f36 kq6 kq5 g6 m6
    generalize w6.setCell ⟨W.heap.size, 36, none⟩ (.slice P q.dat.length p) = w7 at *
    have at7 : At6 w7 W.heap.size q P p := range_hpR kq7
    go_wp2_with (first
      | ((with_reducible show wpList _ _ _ (Oper.mk _ (Op.load 38 _) _ _ _ _ :: _) _ _); refine wpList_val rfl (run_load_v6 rfl rfl at7 (v6l_len HQS.out HQD.out)) ?_)
      | ((with_reducible show wpList _ _ _ (Oper.mk _ (Op.store 38 _ _) _ _ _ _ :: _) _ _); refine v6_store (g := w.heap.size + 2) (cs := v6a q P p) rfl rfl k37 rfl (by rw [v6a_szR _ _ _ HQS.out HQD.out]) (v6a_one _ _ _) ?_))
    have oR := own_setRow o7 (g := w.heap.size + 2) (cs := v6a q P p) (by have := j5.size; omega)
    exact bodyPost_ret (res2 rfl rfl (run_loadVar_row _ _ _ 38 (v6a q P p) _ _ (setRow_heap _ _ _ _ _ _ k37) Tryz.underlying38 rfl (by rw [v6a_szR _ _ _ HQS.out HQD.out]; kernel_rfl))) rfl ⟨P, p, by rw [HQB.out, HV.out, H0.out]; rfl, by rw [HV.out]; exact Made.of_own (own_base oR b5.size) (below_row b7 (by omega))⟩
  · have dE : (E != 0) = true := by simp [h0]
    have HV : Hid (wrV s d hop b = p6z) := Lib.hid (by rw [HW.out, ← HE.out, if_neg h0])
    clear h0
    go_wp2_with (first | ((with_reducible show wpList _ _ _ (Oper.mk _ (Op.store 38 _ _) _ _ _ _ :: _) _ _); refine v6_store (g := w.heap.size + 2) (cs := v6a p6z none 0) rfl rfl k35 rfl rfl (v6a_one _ _ _) ?_))
    exact bodyPost_ret (res2 rfl rfl (run_loadVar_row _ _ _ 38 (v6a p6z none 0) _ _ (setRow_heap _ _ _ _ _ _ k35) Tryz.underlying38 rfl (by kernel_rfl))) rfl ⟨none, 0, by rw [HV.out]; rfl, by rw [HV.out]; exact Made.nil _ _ (below_row b5 (by omega))⟩
set_option maxRecDepth 100000 in
set_option maxHeartbeats 4000000 in
theorem cWunwrap (q : P6) (A : Option Addr) (c B : Nat) (w : World) (hs : q.src.length = 16) (hd : q.dst.length = 16) (hD : Arg w B A c q.dat) (hB : B ≤ w.heap.size) (hl : q.dat.length ≤ 1000000) :
    Calls Tryz.prog 127 #[v6v q A c] w fun e w' => ∃ P p, e = .returned (.tuple #[.slice P (uwV q).length p, .int .i64 (uwE q)]) ∧ Made w w' (.slice P (uwV q).length p) (uwV q) := by
  have hBW : Below w.heap.size w (w.alloc (.cells (v6a q A c) 38)) := (Below.refl w.heap.size w).alloc (Nat.le_refl _) _
  have at0 := At6.new (q := q) (A := A) (c := c) w
  have k2 := at0.next
  have k6 := at0.dat hs hd
  clear at0
  unfold v6v
  rw [show (v6l q A c).toArray = v6a q A c from rfl]
  by_cases h4 : q.next = 4
  · have HV : Hid (uwV q = q.dat) := Lib.hid (by rw [uwV, if_pos h4])
    have HE : Hid (uwE q = 0) := Lib.hid (by rw [uwE, if_pos h4])
    have d4 : (q.next != 4) = false := by simp [h4]
    clear h4
    go_enter Tryz.func127, Tryz.ntmps127
    go_upto_region 1 with fail
    generalize w.alloc (.cells (v6a q A c) 38) = W at *
    go_wp2_with (go_at_call 86; refine (cloneS_any A q.dat c B _ (hD.below (hBW.mono hB)) (Nat.le_trans hB hBW.size) (by omega)).mono ?_; rintro e w6 ⟨v6, rfl, mk⟩; obtain ⟨P, p, rfl, _, _, _⟩ := made_shape mk)
    exact bodyPost_ret (results_tmp2 rfl _ _ _) rfl ⟨P, p, by rw [HV.out, HE.out]; rfl, by rw [HV.out]; exact Made.after mk hBW⟩
  · have HV : Hid (uwV q = []) := Lib.hid (by rw [uwV, if_neg h4])
    have HE : Hid (uwE q = 4) := Lib.hid (by rw [uwE, if_neg h4])
    have d4 : (q.next != 4) = true := by simpa using h4
    clear h4
    go_enter Tryz.func127, Tryz.ntmps127
    go_upto_region 1 with fail
    generalize w.alloc (.cells (v6a q A c) 38) = W at *
    go_wp2_with fail
    exact bodyPost_ret (results_tmp2 rfl _ _ _) rfl ⟨none, 0, by rw [HV.out, HE.out]; rfl, by rw [HV.out]; exact Made.nil _ _ hBW⟩
set_option maxRecDepth 100000 in
set_option maxHeartbeats 4000000 in
theorem cWhop (q0 : P4) (A : Option Addr) (c : Nat) (A' : Option Addr) (c' : Nat) (w : World) (ho : q0.opt.length ≤ 1000000) (hl : q0.dat.length ≤ 900000) (hf : (Lit.int .i64 q0.ttl).wf = true) (B : Nat) (hO : Arg w B A c q0.opt) (hD : Arg w B A' c' q0.dat) (hB0 : B ≤ w.heap.size) :
    Calls Tryz.prog 56 #[v4v q0 A c A' c'] w fun e w' => ∃ P p P' p', e = .returned (.tuple #[v4v (hpV q0) P p P' p', .bool (hpB q0)]) ∧ Made w w' (.slice P (hpV q0).opt.length p) (hpV q0).opt ∧ Made w w' (.slice P' (hpV q0).dat.length p') (hpV q0).dat := by
  have hB : Below w.heap.size w ((w.alloc (.cells (v4a q0 A c A' c') 46)).alloc (.cells (v4a p4z none 0 none 0) 46)) := below_two w _ _
  have hP0 : ((w.alloc (.cells (v4a q0 A c A' c') 46)).alloc (.cells (v4a p4z none 0 none 0) 46)).heap[w.heap.size]? = some (.cells (v4a q0 A c A' c') 46 (0, 0)) := (Below.heap_alloc (w.alloc (.cells (v4a q0 A c A' c') 46)) _ w.heap.size (by simp)).trans (World.alloc_heap_new w _)
  have hR0 : ((w.alloc (.cells (v4a q0 A c A' c') 46)).alloc (.cells (v4a p4z none 0 none 0) 46)).heap[w.heap.size + 1]? = some (.cells (v4a p4z none 0 none 0) 46 (0, 0)) := by
    have := World.alloc_heap_new (w.alloc (.cells (v4a q0 A c A' c') 46)) (.cells (v4a p4z none 0 none 0) 46)
    rwa [World.size_alloc] at this
  rw [v4q_eqR]
  have hbd : -9223372036854775808 ≤ q0.ttl ∧ q0.ttl ≤ 9223372036854775807 := by
    have := hf
    simp [Lit.wf] at this
    have e1 : IntKind.i64.min = -9223372036854775808 := by decide
    have e2 : IntKind.i64.max = 9223372036854775807 := by decide
    omega
  go_enter Tryz.func56, Tryz.ntmps56
  go_upto_region 1 with fail
  rw [show #[.int .i64 0, .int .i64 0, .int .i64 0, .int .i64 0, .int .i64 0, .int .i64 0, .int .i64 0, .bool false, .bool false, .slice none 0 0, .slice none 0 0] = v4a p4z none 0 none 0 from rfl]
  generalize (w.alloc (.cells (v4a q0 A c A' c') 46)).alloc (.cells (v4a p4z none 0 none 0) 46) = W at *
  have zR := heap_lt hR0
  have k3 := (At4.of_heapR hP0).ttl
  have f3 := heap_frozen hP0 3
  by_cases h1 : q0.ttl ≤ 1
  · have d1 : decide (q0.ttl ≤ 1) = true := by simpa using h1
    have HV : Hid (hpV q0 = p4z) := Lib.hid (by rw [hpV, if_neg (by omega)])
    have HBB : Hid (hpB q0 = false) := Lib.hid (by rw [hpB]; simp; omega)
    clear h1
    go_wp2_with (first | ((with_reducible show wpList _ _ _ (Oper.mk _ (Op.store 46 _ _) _ _ _ _ :: _) _ _); refine v4_store (g := w.heap.size + 1) (cs := v4a p4z none 0 none 0) rfl rfl hR0 rfl rfl (v4a_one _ _ _ _ _) ?_))
    exact bodyPost_ret (res2 rfl rfl (run_loadVar_row _ _ _ 46 (v4a p4z none 0 none 0) _ _ (setRow_heap _ _ _ _ _ _ hR0) Tryz.underlying46 rfl (by kernel_rfl))) rfl ⟨none, 0, none, 0, by rw [HV.out, HBB.out]; rfl, by rw [HV.out]; exact Made.nil _ _ (below_row hB (by omega)), by rw [HV.out]; exact Made.nil _ _ (below_row hB (by omega))⟩
  · have d1 : decide (q0.ttl ≤ 1) = false := by simpa using h1
    obtain ⟨q, hq⟩ : ∃ q : P4, q = { q0 with ttl := q0.ttl - 1 } := ⟨_, rfl⟩
    have HV : Hid (hpV q0 = q) := Lib.hid (by rw [hpV, if_pos (by omega), hq])
    have HBB : Hid (hpB q0 = true) := Lib.hid (by rw [hpB]; simp; omega)
    have ho : q.opt.length ≤ 1000000 := by rw [hq]; exact ho
    have hl : q.dat.length ≤ 900000 := by rw [hq]; exact hl
    have hO : Arg w B A c q.opt := by rw [hq]; exact hO
    have hD : Arg w B A' c' q.dat := by rw [hq]; exact hD
    go_upto_region 4 with fail
    have hP1 := heap_setCell_same W w.heap.size 3 _ _ (.int .i64 (q0.ttl - 1)) hP0
    have hP1 : (W.setCell ⟨w.heap.size, 3, none⟩ (.int .i64 (q0.ttl - 1))).heap[w.heap.size]? = some (.cells (v4a q A c A' c') 46 (0, 0)) := by rw [hq]; exact hP1
    have hR1 := (heap_setCell_other W ⟨w.heap.size, 3, none⟩ (w.heap.size + 1) (.int .i64 (q0.ttl - 1)) (by show w.heap.size + 1 ≠ w.heap.size; omega)).trans hR0
    have hB1 := hB.setCell (p := ⟨w.heap.size, 3, none⟩) (Nat.le_refl _) (.int .i64 (q0.ttl - 1))
    clear k3 f3 hP0 hR0 hB zR hq
    generalize W.setCell ⟨w.heap.size, 3, none⟩ (.int .i64 (q0.ttl - 1)) = W at *
    have hP0 := hP1
    have hR0 := hR1
    have hB := hB1
    clear hP1 hR1 hB1 h1 hbd hf
    have hO1 := hO.below (hB.mono hB0)
    have hD1 := hD.below (hB.mono hB0)
    have zW := Nat.le_trans hB0 hB.size
    have zP := heap_lt hP0
    have zR := heap_lt hR0
    have kO0 := (At4.of_heapR hP0).opt
    have kD0 := (At4.of_heapR hP0).dat
    refine wp_region_held_drew (S := fun _ => True) (by kernel_rfl) trivial (fun hS => ?_)
    refine held_pure (i := 0) (oi := ⟨some 12, _, _, _, _, _⟩) rfl (by kernel_rfl) (by kernel_rfl) (by kernel_rfl) (fun _ _ _ h => h) (by rfl) (v := ?_) (fun w hSw => ?_) hS (fun hS => ?_)
    rotate_left
    · go_simp; try with_reducible rfl
    try go_frame
    refine held_pure (i := 3) (oi := ⟨some 15, _, _, _, _, _⟩) rfl (by kernel_rfl) (by kernel_rfl) (by kernel_rfl) (fun _ _ _ h => h) (by rfl) (v := ?_) (fun w hSw => ?_) hS (fun hS => ?_)
    rotate_left
    · go_simp; try with_reducible rfl
    try go_frame
    refine wpAnyH_ready (rs := [1, 4]) (by kernel_rfl) (by simp) (AllReadyH.cons (o := ⟨some 13, _, _, _, _, _⟩) rfl (fun K hK => ?_) (AllReadyH.cons (o := ⟨some 16, _, _, _, _, _⟩) rfl (fun K hK => ?_) AllReadyH.nil))
    · rw [if_pos (by rfl)]
      refine wp_valR (v := .slice A q.opt.length c) (by first | exact run_load_sl rfl rfl kO0) ?_
      refine hK.out _ _ trivial (fun hS => ?_)
      clear hK K
      try go_frame
      refine wpAnyH_ready (rs := [2, 4]) (by kernel_rfl) (by simp) (AllReadyH.cons (o := ⟨some 14, _, _, _, _, _⟩) rfl (fun K hK => ?_) (AllReadyH.cons (o := ⟨some 16, _, _, _, _, _⟩) rfl (fun K hK => ?_) AllReadyH.nil))
      · rw [if_pos (by rfl)]
        go_simp
        refine (cloneS_any A q.opt c B _ (hO1.below (Below.refl _ W).drew) zW (by omega)).mono ?_
        rintro e w2 ⟨v2, rfl, m2⟩
        obtain ⟨O, o, rfl, g2, o2, y2⟩ := made_shape m2
        clear m2 g2
        have o2 : w2.ownsRow W.heap.size 5 1 (.slice O q.opt.length o) q.opt.length (row q.opt) := o2
        have x2 : Below W.heap.size W w2 := (Below.refl _ W).drew.trans y2
        have hP2 := (x2.block w.heap.size zP).trans hP0
        have hR2 := (x2.block (w.heap.size + 1) zR).trans hR0
        have kD2 := (At4.of_heapR hP2).dat
        have hD2 := hD1.below (x2.mono zW)
        have hgO : ∀ g, O = some ⟨g, 0, none⟩ → 0 < q.opt.length → g < w2.heap.size := fun g e hl => by { subst e; exact (own_cellR o2 (i := 0) hl).2 }
        show K _ _
        refine hK.out _ _ trivial (fun hS => ?_)
        clear hK K
        try go_frame
        refine wpAnyH_ready (rs := [4]) (by kernel_rfl) (by simp) (AllReadyH.cons (o := ⟨some 16, _, _, _, _, _⟩) rfl (fun K hK => ?_) AllReadyH.nil)
        rw [if_pos (by rfl)]
        refine wp_valR (v := .slice A' q.dat.length c') (by first | exact run_load_sl rfl rfl kD0 | exact run_load_sl rfl rfl kD2) ?_
        refine hK.out _ _ trivial (fun hS => ?_)
        clear hK K
        try go_frame
        refine held_pure (i := 6) (oi := ⟨some 18, _, _, _, _, _⟩) rfl (by kernel_rfl) (by kernel_rfl) (by kernel_rfl) (fun _ _ _ h => h) (by rfl) (v := ?_) (fun w hSw => ?_) hS (fun hS => ?_)
        rotate_left
        · go_simp; try with_reducible rfl
        try go_frame
        refine wpAnyH_ready (rs := [5]) (by kernel_rfl) (by simp) (AllReadyH.cons (o := ⟨some 17, _, _, _, _, _⟩) rfl (fun K hK => ?_) AllReadyH.nil)
        rw [if_pos (by rfl)]
        go_simp
        refine (cloneS_any A' q.dat c' B _ hD2 (Nat.le_trans zW x2.size) (by omega)).mono ?_
        rintro e w3 ⟨v3, rfl, m3⟩
        obtain ⟨D, d, rfl, g3, o3, y3⟩ := made_shape m3
        clear m3 g3
        have hP3 := (y3.block w.heap.size (heap_lt hP2)).trans hP2
        have hR3 := (y3.block (w.heap.size + 1) (heap_lt hR2)).trans hR2
        have oO3 := own_below o2 y3
        have kO3 := (At4.of_heapR hP3).opt
        have fO3 := heap_frozen hP3 9
        have x3 := x2.trans (y3.mono x2.size)
        have zx2 := x2.size
        show K _ _
        refine hK.out _ _ trivial (fun hS => ?_)
        clear hK K
        try go_frame
        refine wpAnyH_ready (rs := [7]) (by kernel_rfl) (by simp) (AllReadyH.cons (o := ⟨none, _, _, _, _, _⟩) rfl (fun K hK => ?_) AllReadyH.nil)
        rw [if_pos (by rfl)]
        refine store_slR_wp rfl rfl rfl kO3 fO3 ?_
        have hP4 : (w3.setCell ⟨w.heap.size, 9, none⟩ (.slice O q.opt.length o)).heap[w.heap.size]? = some (.cells (v4a q O o A' c') 46 (0, 0)) := heap_setCell_same w3 w.heap.size 9 _ _ (.slice O q.opt.length o) hP3
        have hR4 := (heap_setCell_other w3 ⟨w.heap.size, 9, none⟩ (w.heap.size + 1) (.slice O q.opt.length o) (by show w.heap.size + 1 ≠ w.heap.size; omega)).trans hR3
        have kD4 := (At4.of_heapR hP4).dat
        have fD4 := heap_frozen hP4 10
        have oO4 := own_setCell oO3 (p := ⟨w.heap.size, 9, none⟩) (u := .slice O q.opt.length o) zP
        have oD4 := own_setCell o3 (p := ⟨w.heap.size, 9, none⟩) (u := .slice O q.opt.length o) (Nat.lt_of_lt_of_le zP zx2)
        have b4 := (hB.trans (x3.mono hB.size)).setCell (p := ⟨w.heap.size, 9, none⟩) (Nat.le_refl _) (.slice O q.opt.length o)
        clear hP2 hR2 kD2 hD2 hP3 hR3 oO3 kO3 fO3 o2 o3 y2 y3
        generalize w3.setCell ⟨w.heap.size, 9, none⟩ (.slice O q.opt.length o) = V4 at *
        refine hK.out _ _ trivial (fun hS => ?_)
        clear hK K
        try go_frame
        refine held_pure (i := 8) (oi := ⟨some 19, _, _, _, _, _⟩) rfl (by kernel_rfl) (by kernel_rfl) (by kernel_rfl) (fun _ _ _ h => h) (by rfl) (v := ?_) (fun w hSw => ?_) hS (fun hS => ?_)
        rotate_left
        · go_simp; try with_reducible rfl
        try go_frame
        refine wpAnyH_ready (rs := [9]) (by kernel_rfl) (by simp) (AllReadyH.cons (o := ⟨none, _, _, _, _, _⟩) rfl (fun K hK => ?_) AllReadyH.nil)
        rw [if_pos (by rfl)]
        refine store_slR_wp rfl rfl rfl kD4 fD4 ?_
        have hP : (V4.setCell ⟨w.heap.size, 10, none⟩ (.slice D q.dat.length d)).heap[w.heap.size]? = some (.cells (v4a q O o D d) 46 (0, 0)) := heap_setCell_same V4 w.heap.size 10 _ _ (.slice D q.dat.length d) hP4
        have hR := (heap_setCell_other V4 ⟨w.heap.size, 10, none⟩ (w.heap.size + 1) (.slice D q.dat.length d) (by show w.heap.size + 1 ≠ w.heap.size; omega)).trans hR4
        have oO := own_setCell oO4 (p := ⟨w.heap.size, 10, none⟩) (u := .slice D q.dat.length d) zP
        have oD := own_setCell oD4 (p := ⟨w.heap.size, 10, none⟩) (u := .slice D q.dat.length d) (Nat.lt_of_lt_of_le zP zx2)
        have bV := b4.setCell (p := ⟨w.heap.size, 10, none⟩) (Nat.le_refl _) (.slice D q.dat.length d)
        clear hP4 hR4 kD4 fD4 oO4 oD4 b4 hP0 hR0 hO1 hD1 kO0 kD0 x2 x3
        generalize V4.setCell ⟨w.heap.size, 10, none⟩ (.slice D q.dat.length d) = V at *
        have hat := At4.of_heapR hP
        have gO := arg_own oO
        have gD := arg_own oD
        refine hK.out _ _ trivial (fun hS => ?_)
        clear hK K
        try go_frame
        refine wpAnyH_done (by kernel_rfl) ?_ _
        go_wp2_with (first
          | ((with_reducible show wpList _ _ _ (Oper.mk _ (Op.load 46 _) _ _ _ _ :: _) _ _); refine wpList_val rfl (run_load_v4 rfl rfl hat rfl) ?_)
          | ((with_reducible show wpList _ _ _ (Oper.mk _ (Op.store 46 _ _) _ _ _ _ :: _) _ _); refine v4_store (g := w.heap.size + 1) (cs := v4a q O o D d) rfl rfl hR rfl rfl (v4a_one _ _ _ _ _) ?_))
        have oO7 := own_setRow oO (g := w.heap.size + 1) (cs := v4a q O o D d) (by omega)
        have oD7 := own_setRow oD (g := w.heap.size + 1) (cs := v4a q O o D d) (by omega)
        have b7 := below_row bV (g := w.heap.size + 1) (cs := v4a q O o D d) (by omega)
        exact bodyPost_ret (res2 rfl rfl (run_loadVar_row _ _ _ 46 (v4a q O o D d) _ _ (setRow_heap _ _ _ _ _ _ hR) Tryz.underlying46 rfl (by kernel_rfl))) rfl ⟨O, o, D, d, by rw [HV.out, HBB.out]; rfl, by rw [HV.out]; exact Made.of_own (own_base oO7 (by omega)) b7, by rw [HV.out]; exact Made.of_own (own_base oD7 (by omega)) b7⟩
      · rw [if_pos (by rfl)]
        refine wp_valR (v := .slice A' q.dat.length c') (by first | exact run_load_sl rfl rfl kD0 | exact run_load_sl rfl rfl kD2) ?_
        refine hK.out _ _ trivial (fun hS => ?_)
        clear hK K
        try go_frame
        refine wpAnyH_ready (rs := [2]) (by kernel_rfl) (by simp) (AllReadyH.cons (o := ⟨some 14, _, _, _, _, _⟩) rfl (fun K hK => ?_) AllReadyH.nil)
        rw [if_pos (by rfl)]
        go_simp
        refine (cloneS_any A q.opt c B _ (hO1.below (Below.refl _ W).drew) zW (by omega)).mono ?_
        rintro e w2 ⟨v2, rfl, m2⟩
        obtain ⟨O, o, rfl, g2, o2, y2⟩ := made_shape m2
        clear m2 g2
        have o2 : w2.ownsRow W.heap.size 5 1 (.slice O q.opt.length o) q.opt.length (row q.opt) := o2
        have x2 : Below W.heap.size W w2 := (Below.refl _ W).drew.trans y2
        have hP2 := (x2.block w.heap.size zP).trans hP0
        have hR2 := (x2.block (w.heap.size + 1) zR).trans hR0
        have kD2 := (At4.of_heapR hP2).dat
        have hD2 := hD1.below (x2.mono zW)
        have hgO : ∀ g, O = some ⟨g, 0, none⟩ → 0 < q.opt.length → g < w2.heap.size := fun g e hl => by { subst e; exact (own_cellR o2 (i := 0) hl).2 }
        show K _ _
        refine hK.out _ _ trivial (fun hS => ?_)
        clear hK K
        try go_frame
        refine held_pure (i := 6) (oi := ⟨some 18, _, _, _, _, _⟩) rfl (by kernel_rfl) (by kernel_rfl) (by kernel_rfl) (fun _ _ _ h => h) (by rfl) (v := ?_) (fun w hSw => ?_) hS (fun hS => ?_)
        rotate_left
        · go_simp; try with_reducible rfl
        try go_frame
        refine wpAnyH_ready (rs := [5]) (by kernel_rfl) (by simp) (AllReadyH.cons (o := ⟨some 17, _, _, _, _, _⟩) rfl (fun K hK => ?_) AllReadyH.nil)
        rw [if_pos (by rfl)]
        go_simp
        refine (cloneS_any A' q.dat c' B _ hD2 (Nat.le_trans zW x2.size) (by omega)).mono ?_
        rintro e w3 ⟨v3, rfl, m3⟩
        obtain ⟨D, d, rfl, g3, o3, y3⟩ := made_shape m3
        clear m3 g3
        have hP3 := (y3.block w.heap.size (heap_lt hP2)).trans hP2
        have hR3 := (y3.block (w.heap.size + 1) (heap_lt hR2)).trans hR2
        have oO3 := own_below o2 y3
        have kO3 := (At4.of_heapR hP3).opt
        have fO3 := heap_frozen hP3 9
        have x3 := x2.trans (y3.mono x2.size)
        have zx2 := x2.size
        show K _ _
        refine hK.out _ _ trivial (fun hS => ?_)
        clear hK K
        try go_frame
        refine wpAnyH_ready (rs := [7]) (by kernel_rfl) (by simp) (AllReadyH.cons (o := ⟨none, _, _, _, _, _⟩) rfl (fun K hK => ?_) AllReadyH.nil)
        rw [if_pos (by rfl)]
        refine store_slR_wp rfl rfl rfl kO3 fO3 ?_
        have hP4 : (w3.setCell ⟨w.heap.size, 9, none⟩ (.slice O q.opt.length o)).heap[w.heap.size]? = some (.cells (v4a q O o A' c') 46 (0, 0)) := heap_setCell_same w3 w.heap.size 9 _ _ (.slice O q.opt.length o) hP3
        have hR4 := (heap_setCell_other w3 ⟨w.heap.size, 9, none⟩ (w.heap.size + 1) (.slice O q.opt.length o) (by show w.heap.size + 1 ≠ w.heap.size; omega)).trans hR3
        have kD4 := (At4.of_heapR hP4).dat
        have fD4 := heap_frozen hP4 10
        have oO4 := own_setCell oO3 (p := ⟨w.heap.size, 9, none⟩) (u := .slice O q.opt.length o) zP
        have oD4 := own_setCell o3 (p := ⟨w.heap.size, 9, none⟩) (u := .slice O q.opt.length o) (Nat.lt_of_lt_of_le zP zx2)
        have b4 := (hB.trans (x3.mono hB.size)).setCell (p := ⟨w.heap.size, 9, none⟩) (Nat.le_refl _) (.slice O q.opt.length o)
        clear hP2 hR2 kD2 hD2 hP3 hR3 oO3 kO3 fO3 o2 o3 y2 y3
        generalize w3.setCell ⟨w.heap.size, 9, none⟩ (.slice O q.opt.length o) = V4 at *
        refine hK.out _ _ trivial (fun hS => ?_)
        clear hK K
        try go_frame
        refine held_pure (i := 8) (oi := ⟨some 19, _, _, _, _, _⟩) rfl (by kernel_rfl) (by kernel_rfl) (by kernel_rfl) (fun _ _ _ h => h) (by rfl) (v := ?_) (fun w hSw => ?_) hS (fun hS => ?_)
        rotate_left
        · go_simp; try with_reducible rfl
        try go_frame
        refine wpAnyH_ready (rs := [9]) (by kernel_rfl) (by simp) (AllReadyH.cons (o := ⟨none, _, _, _, _, _⟩) rfl (fun K hK => ?_) AllReadyH.nil)
        rw [if_pos (by rfl)]
        refine store_slR_wp rfl rfl rfl kD4 fD4 ?_
        have hP : (V4.setCell ⟨w.heap.size, 10, none⟩ (.slice D q.dat.length d)).heap[w.heap.size]? = some (.cells (v4a q O o D d) 46 (0, 0)) := heap_setCell_same V4 w.heap.size 10 _ _ (.slice D q.dat.length d) hP4
        have hR := (heap_setCell_other V4 ⟨w.heap.size, 10, none⟩ (w.heap.size + 1) (.slice D q.dat.length d) (by show w.heap.size + 1 ≠ w.heap.size; omega)).trans hR4
        have oO := own_setCell oO4 (p := ⟨w.heap.size, 10, none⟩) (u := .slice D q.dat.length d) zP
        have oD := own_setCell oD4 (p := ⟨w.heap.size, 10, none⟩) (u := .slice D q.dat.length d) (Nat.lt_of_lt_of_le zP zx2)
        have bV := b4.setCell (p := ⟨w.heap.size, 10, none⟩) (Nat.le_refl _) (.slice D q.dat.length d)
        clear hP4 hR4 kD4 fD4 oO4 oD4 b4 hP0 hR0 hO1 hD1 kO0 kD0 x2 x3
        generalize V4.setCell ⟨w.heap.size, 10, none⟩ (.slice D q.dat.length d) = V at *
        have hat := At4.of_heapR hP
        have gO := arg_own oO
        have gD := arg_own oD
        refine hK.out _ _ trivial (fun hS => ?_)
        clear hK K
        try go_frame
        refine wpAnyH_done (by kernel_rfl) ?_ _
        go_wp2_with (first
          | ((with_reducible show wpList _ _ _ (Oper.mk _ (Op.load 46 _) _ _ _ _ :: _) _ _); refine wpList_val rfl (run_load_v4 rfl rfl hat rfl) ?_)
          | ((with_reducible show wpList _ _ _ (Oper.mk _ (Op.store 46 _ _) _ _ _ _ :: _) _ _); refine v4_store (g := w.heap.size + 1) (cs := v4a q O o D d) rfl rfl hR rfl rfl (v4a_one _ _ _ _ _) ?_))
        have oO7 := own_setRow oO (g := w.heap.size + 1) (cs := v4a q O o D d) (by omega)
        have oD7 := own_setRow oD (g := w.heap.size + 1) (cs := v4a q O o D d) (by omega)
        have b7 := below_row bV (g := w.heap.size + 1) (cs := v4a q O o D d) (by omega)
        exact bodyPost_ret (res2 rfl rfl (run_loadVar_row _ _ _ 46 (v4a q O o D d) _ _ (setRow_heap _ _ _ _ _ _ hR) Tryz.underlying46 rfl (by kernel_rfl))) rfl ⟨O, o, D, d, by rw [HV.out, HBB.out]; rfl, by rw [HV.out]; exact Made.of_own (own_base oO7 (by omega)) b7, by rw [HV.out]; exact Made.of_own (own_base oD7 (by omega)) b7⟩
    · rw [if_pos (by rfl)]
      refine wp_valR (v := .slice A' q.dat.length c') (by first | exact run_load_sl rfl rfl kD0 | exact run_load_sl rfl rfl kD2) ?_
      refine hK.out _ _ trivial (fun hS => ?_)
      clear hK K
      try go_frame
      refine wpAnyH_ready (rs := [1]) (by kernel_rfl) (by simp) (AllReadyH.cons (o := ⟨some 13, _, _, _, _, _⟩) rfl (fun K hK => ?_) AllReadyH.nil)
      rw [if_pos (by rfl)]
      refine wp_valR (v := .slice A q.opt.length c) (by first | exact run_load_sl rfl rfl kO0) ?_
      refine hK.out _ _ trivial (fun hS => ?_)
      clear hK K
      try go_frame
      refine wpAnyH_ready (rs := [2]) (by kernel_rfl) (by simp) (AllReadyH.cons (o := ⟨some 14, _, _, _, _, _⟩) rfl (fun K hK => ?_) AllReadyH.nil)
      rw [if_pos (by rfl)]
      go_simp
      refine (cloneS_any A q.opt c B _ (hO1.below (Below.refl _ W).drew) zW (by omega)).mono ?_
      rintro e w2 ⟨v2, rfl, m2⟩
      obtain ⟨O, o, rfl, g2, o2, y2⟩ := made_shape m2
      clear m2 g2
      have o2 : w2.ownsRow W.heap.size 5 1 (.slice O q.opt.length o) q.opt.length (row q.opt) := o2
      have x2 : Below W.heap.size W w2 := (Below.refl _ W).drew.trans y2
      have hP2 := (x2.block w.heap.size zP).trans hP0
      have hR2 := (x2.block (w.heap.size + 1) zR).trans hR0
      have kD2 := (At4.of_heapR hP2).dat
      have hD2 := hD1.below (x2.mono zW)
      have hgO : ∀ g, O = some ⟨g, 0, none⟩ → 0 < q.opt.length → g < w2.heap.size := fun g e hl => by { subst e; exact (own_cellR o2 (i := 0) hl).2 }
      show K _ _
      refine hK.out _ _ trivial (fun hS => ?_)
      clear hK K
      try go_frame
      refine held_pure (i := 6) (oi := ⟨some 18, _, _, _, _, _⟩) rfl (by kernel_rfl) (by kernel_rfl) (by kernel_rfl) (fun _ _ _ h => h) (by rfl) (v := ?_) (fun w hSw => ?_) hS (fun hS => ?_)
      rotate_left
      · go_simp; try with_reducible rfl
      try go_frame
      refine wpAnyH_ready (rs := [5]) (by kernel_rfl) (by simp) (AllReadyH.cons (o := ⟨some 17, _, _, _, _, _⟩) rfl (fun K hK => ?_) AllReadyH.nil)
      rw [if_pos (by rfl)]
      go_simp
      refine (cloneS_any A' q.dat c' B _ hD2 (Nat.le_trans zW x2.size) (by omega)).mono ?_
      rintro e w3 ⟨v3, rfl, m3⟩
      obtain ⟨D, d, rfl, g3, o3, y3⟩ := made_shape m3
      clear m3 g3
      have hP3 := (y3.block w.heap.size (heap_lt hP2)).trans hP2
      have hR3 := (y3.block (w.heap.size + 1) (heap_lt hR2)).trans hR2
      have oO3 := own_below o2 y3
      have kO3 := (At4.of_heapR hP3).opt
      have fO3 := heap_frozen hP3 9
      have x3 := x2.trans (y3.mono x2.size)
      have zx2 := x2.size
      show K _ _
      refine hK.out _ _ trivial (fun hS => ?_)
      clear hK K
      try go_frame
      refine wpAnyH_ready (rs := [7]) (by kernel_rfl) (by simp) (AllReadyH.cons (o := ⟨none, _, _, _, _, _⟩) rfl (fun K hK => ?_) AllReadyH.nil)
      rw [if_pos (by rfl)]
      refine store_slR_wp rfl rfl rfl kO3 fO3 ?_
      have hP4 : (w3.setCell ⟨w.heap.size, 9, none⟩ (.slice O q.opt.length o)).heap[w.heap.size]? = some (.cells (v4a q O o A' c') 46 (0, 0)) := heap_setCell_same w3 w.heap.size 9 _ _ (.slice O q.opt.length o) hP3
      have hR4 := (heap_setCell_other w3 ⟨w.heap.size, 9, none⟩ (w.heap.size + 1) (.slice O q.opt.length o) (by show w.heap.size + 1 ≠ w.heap.size; omega)).trans hR3
      have kD4 := (At4.of_heapR hP4).dat
      have fD4 := heap_frozen hP4 10
      have oO4 := own_setCell oO3 (p := ⟨w.heap.size, 9, none⟩) (u := .slice O q.opt.length o) zP
      have oD4 := own_setCell o3 (p := ⟨w.heap.size, 9, none⟩) (u := .slice O q.opt.length o) (Nat.lt_of_lt_of_le zP zx2)
      have b4 := (hB.trans (x3.mono hB.size)).setCell (p := ⟨w.heap.size, 9, none⟩) (Nat.le_refl _) (.slice O q.opt.length o)
      clear hP2 hR2 kD2 hD2 hP3 hR3 oO3 kO3 fO3 o2 o3 y2 y3
      generalize w3.setCell ⟨w.heap.size, 9, none⟩ (.slice O q.opt.length o) = V4 at *
      refine hK.out _ _ trivial (fun hS => ?_)
      clear hK K
      try go_frame
      refine held_pure (i := 8) (oi := ⟨some 19, _, _, _, _, _⟩) rfl (by kernel_rfl) (by kernel_rfl) (by kernel_rfl) (fun _ _ _ h => h) (by rfl) (v := ?_) (fun w hSw => ?_) hS (fun hS => ?_)
      rotate_left
      · go_simp; try with_reducible rfl
      try go_frame
      refine wpAnyH_ready (rs := [9]) (by kernel_rfl) (by simp) (AllReadyH.cons (o := ⟨none, _, _, _, _, _⟩) rfl (fun K hK => ?_) AllReadyH.nil)
      rw [if_pos (by rfl)]
      refine store_slR_wp rfl rfl rfl kD4 fD4 ?_
      have hP : (V4.setCell ⟨w.heap.size, 10, none⟩ (.slice D q.dat.length d)).heap[w.heap.size]? = some (.cells (v4a q O o D d) 46 (0, 0)) := heap_setCell_same V4 w.heap.size 10 _ _ (.slice D q.dat.length d) hP4
      have hR := (heap_setCell_other V4 ⟨w.heap.size, 10, none⟩ (w.heap.size + 1) (.slice D q.dat.length d) (by show w.heap.size + 1 ≠ w.heap.size; omega)).trans hR4
      have oO := own_setCell oO4 (p := ⟨w.heap.size, 10, none⟩) (u := .slice D q.dat.length d) zP
      have oD := own_setCell oD4 (p := ⟨w.heap.size, 10, none⟩) (u := .slice D q.dat.length d) (Nat.lt_of_lt_of_le zP zx2)
      have bV := b4.setCell (p := ⟨w.heap.size, 10, none⟩) (Nat.le_refl _) (.slice D q.dat.length d)
      clear hP4 hR4 kD4 fD4 oO4 oD4 b4 hP0 hR0 hO1 hD1 kO0 kD0 x2 x3
      generalize V4.setCell ⟨w.heap.size, 10, none⟩ (.slice D q.dat.length d) = V at *
      have hat := At4.of_heapR hP
      have gO := arg_own oO
      have gD := arg_own oD
      refine hK.out _ _ trivial (fun hS => ?_)
      clear hK K
      try go_frame
      refine wpAnyH_done (by kernel_rfl) ?_ _
      go_wp2_with (first
        | ((with_reducible show wpList _ _ _ (Oper.mk _ (Op.load 46 _) _ _ _ _ :: _) _ _); refine wpList_val rfl (run_load_v4 rfl rfl hat rfl) ?_)
        | ((with_reducible show wpList _ _ _ (Oper.mk _ (Op.store 46 _ _) _ _ _ _ :: _) _ _); refine v4_store (g := w.heap.size + 1) (cs := v4a q O o D d) rfl rfl hR rfl rfl (v4a_one _ _ _ _ _) ?_))
      have oO7 := own_setRow oO (g := w.heap.size + 1) (cs := v4a q O o D d) (by omega)
      have oD7 := own_setRow oD (g := w.heap.size + 1) (cs := v4a q O o D d) (by omega)
      have b7 := below_row bV (g := w.heap.size + 1) (cs := v4a q O o D d) (by omega)
      exact bodyPost_ret (res2 rfl rfl (run_loadVar_row _ _ _ 46 (v4a q O o D d) _ _ (setRow_heap _ _ _ _ _ _ hR) Tryz.underlying46 rfl (by kernel_rfl))) rfl ⟨O, o, D, d, by rw [HV.out, HBB.out]; rfl, by rw [HV.out]; exact Made.of_own (own_base oO7 (by omega)) b7, by rw [HV.out]; exact Made.of_own (own_base oD7 (by omega)) b7⟩
end Go.Proofs.YtpoigngpdcmipaaGreat
namespace Go.Proofs.YtpoigngpdcmipaaGreat
open Go.RowKit
structure Pc where
  off : Int
  more : Bool
  b : List UInt8
  deriving DecidableEq
def Pc.len (p : Pc) : Int := (p.b.length : Int)
def Pc.stop (p : Pc) : Int := p.off + p.len
def sharing (x p : Pc) : Bool := (decide (0 < x.len) && decide (0 < p.len) && decide (x.off < p.stop) && decide (p.off < x.stop)) || (x.off == p.off && x.len == 0 && p.len == 0)
def sameP (l : List Pc) (p : Pc) : Bool := l.any fun x => decide (x = p)
def sharesP (l : List Pc) (p : Pc) : Bool := l.any fun x => sharing x p
def endP : List Pc → Int
  | [] => -1
  | x :: l => if x.more then endP l else x.stop
def farP : List Pc → Int
  | [] => 0
  | x :: l => max x.stop (farP l)
def bytesP : List Pc → Int
  | [] => 0
  | x :: l => x.len + bytesP l
def badP (p : Pc) : Prop := p.off < 0 ∨ (p.more = true ∧ (p.len = 0 ∨ p.len % 8 ≠ 0))
instance (p : Pc) : Decidable (badP p) := by unfold badP; exact inferInstance
def lateP (l : List Pc) (p : Pc) : Prop := (p.more = false ∧ (0 ≤ endP l ∨ farP l > p.stop)) ∨ (0 ≤ endP l ∧ p.stop > endP l)
instance (l : List Pc) (p : Pc) : Decidable (lateP l p) := by unfold lateP; exact inferInstance
def addE (l : List Pc) (p : Pc) : Int :=
  if badP p then 4 else if p.off > 65535 - p.len then 6 else if sameP l p then 0 else if sharesP l p then 9 else if lateP l p then 4 else 0
def addL (l : List Pc) (p : Pc) : List Pc := if addE l p = 0 then (if sameP l p then l else l ++ [p]) else l
def roomP (l : List Pc) (off : Int) (b : List UInt8) : Int := if sameP l ⟨off, true, b⟩ || sameP l ⟨off, false, b⟩ then 0 else (b.length : Int)
def layB (out : List UInt8) (k : Nat) (b : List UInt8) : List UInt8 := out.take k ++ b ++ out.drop (k + b.length)
def fillP : List Pc → List UInt8 → List UInt8
  | [], out => out
  | x :: l, out => fillP l (layB out x.off.toNat x.b)
def doneB (l : List Pc) : Bool := decide (0 ≤ endP l) && decide (bytesP l = endP l)
def doneP (l : List Pc) : List UInt8 := if doneB l then fillP l (List.replicate (endP l).toNat 0) else []
theorem layB_length {out : List UInt8} {k : Nat} {b : List UInt8} (h : k + b.length ≤ out.length) : (layB out k b).length = out.length := by
  simp only [layB, List.length_append, List.length_take, List.length_drop]; omega
theorem layB_get {out : List UInt8} {k : Nat} {b : List UInt8} (h : k + b.length ≤ out.length) (j : Nat) :
    (layB out k b)[j]? = if k ≤ j ∧ j < k + b.length then b[j - k]? else out[j]? := by
  unfold layB
  by_cases h1 : j < k
  · rw [if_neg (by omega), List.append_assoc, List.getElem?_append_left (by simp; omega), List.getElem?_take, if_pos h1]
  · by_cases h2 : j < k + b.length
    · rw [if_pos ⟨by omega, h2⟩, List.append_assoc, List.getElem?_append_right (by simp; omega), List.length_take, Nat.min_eq_left (by omega), List.getElem?_append_left (by omega)]
    · rw [if_neg (by omega), List.getElem?_append_right (by simp; omega), List.getElem?_drop]
      congr 1
      simp only [List.length_append, List.length_take]; omega
def PieceOf (b : List UInt8) (x : Pc) : Prop := 0 ≤ x.off ∧ x.stop ≤ (b.length : Int) ∧ x.b = (b.drop x.off.toNat).take x.b.length
theorem fill_get (b : List UInt8) (j : Nat) : ∀ (l : List Pc) (out : List UInt8), out.length = b.length → (∀ x ∈ l, PieceOf b x) → (out[j]? = b[j]? ∨ ∃ x ∈ l, x.off ≤ (j : Int) ∧ (j : Int) < x.stop) →
    (fillP l out)[j]? = b[j]? ∧ (fillP l out).length = b.length
  | [], out, hl, _, h => by
    rcases h with h | ⟨x, hx, _⟩
    · exact ⟨h, hl⟩
    · cases hx
  | x :: l, out, hl, hp, h => by
    obtain ⟨p1, p2, p3⟩ := hp x (List.mem_cons_self ..)
    have hs : x.stop = x.off + (x.b.length : Int) := rfl
    have hfit : x.off.toNat + x.b.length ≤ out.length := by omega
    refine fill_get b j l (layB out x.off.toNat x.b) (by rw [layB_length hfit]; exact hl) (fun y hy => hp y (List.mem_cons_of_mem _ hy)) ?_
    have hcov : x.off ≤ (j : Int) ∧ (j : Int) < x.stop → (layB out x.off.toNat x.b)[j]? = b[j]? := fun ⟨h1, h2⟩ => by
      rw [layB_get hfit, if_pos ⟨by omega, by omega⟩, p3, List.getElem?_take, List.getElem?_drop]
      rw [if_pos (by omega)]
      congr 1; omega
    rcases h with h | ⟨y, hy, hc⟩
    · left
      by_cases hc : x.off ≤ (j : Int) ∧ (j : Int) < x.stop
      · exact hcov hc
      · rw [layB_get hfit, if_neg (by omega)]; exact h
    · rcases List.mem_cons.1 hy with rfl | hy
      · exact .inl (hcov hc)
      · exact .inr ⟨y, hy, hc⟩
inductive Chain (b : List UInt8) : Nat → List Pc → Prop
  | last {k : Nat} (h : k ≤ b.length) (he : k = b.length → k = 0) : Chain b k [⟨(k : Int), false, b.drop k⟩]
  | more {k n : Nat} {l : List Pc} (hn : 0 < n) (h8 : n % 8 = 0) (hk : k + n < b.length) (h : Chain b (k + n) l) : Chain b k (⟨(k : Int), true, (b.drop k).take n⟩ :: l)
theorem Chain.facts {b : List UInt8} : ∀ {k : Nat} {l : List Pc}, Chain b k l →
    (∀ x ∈ l, PieceOf b x ∧ (k : Int) ≤ x.off ∧ ¬ badP x ∧ (x.more = true → x.stop < (b.length : Int)) ∧ (x.more = false → x.stop = (b.length : Int)) ∧ (0 < b.length → 0 < x.len)) ∧
    bytesP l = (b.length : Int) - (k : Int) ∧ endP l = (b.length : Int) ∧ (∀ j : Nat, k ≤ j → j < b.length → ∃ x ∈ l, x.off ≤ (j : Int) ∧ (j : Int) < x.stop) ∧
    l.Pairwise (fun x y => x.stop ≤ y.off ∧ x.more = true ∧ x.off < y.off) := by
  intro k l h
  induction h with
  | @last k h he =>
    have hl : (b.drop k).length = b.length - k := List.length_drop
    have hs : (Pc.mk (k : Int) false (b.drop k)).stop = (b.length : Int) := by simp only [Pc.stop, Pc.len, hl]; omega
    have hle : (Pc.mk (k : Int) false (b.drop k)).len = (b.length : Int) - (k : Int) := by simp only [Pc.len, hl]; omega
    refine ⟨fun x hx => ?_, ?_, ?_, fun j h1 h2 => ⟨_, List.mem_cons_self .., ?_, ?_⟩, List.pairwise_singleton _ _⟩
    · rw [List.mem_singleton.1 hx]
      refine ⟨⟨Int.natCast_nonneg k, by rw [hs]; exact Int.le_refl _, ?_⟩, Int.le_refl _, ?_, fun e => (by cases e), fun _ => hs, fun h0 => by rw [hle]; omega⟩
      · show b.drop k = (b.drop k).take (b.drop k).length
        rw [List.take_length]
      · rintro (h1 | ⟨h1, _⟩)
        · have : (k : Int) < 0 := h1
          omega
        · cases h1
    · show _ + 0 = _
      rw [hle]; omega
    · show (if false = true then _ else _) = _
      rw [if_neg (by decide)]; exact hs
    · show (k : Int) ≤ j; omega
    · rw [hs]; omega
  | @more k n l hn h8 hk _ ih =>
    obtain ⟨i1, i2, i3, i4, i5⟩ := ih
    have hl : ((b.drop k).take n).length = n := by rw [List.length_take, List.length_drop]; omega
    have hs : (Pc.mk (k : Int) true ((b.drop k).take n)).stop = ((k + n : Nat) : Int) := by simp only [Pc.stop, Pc.len, hl]; omega
    have hle : (Pc.mk (k : Int) true ((b.drop k).take n)).len = (n : Int) := by simp only [Pc.len, hl]
    refine ⟨fun x hx => ?_, ?_, ?_, fun j h1 h2 => ?_, ?_⟩
    · rcases List.mem_cons.1 hx with rfl | hx
      · refine ⟨⟨Int.natCast_nonneg k, by rw [hs]; omega, ?_⟩, Int.le_refl _, ?_, fun _ => by rw [hs]; omega, fun e => (by cases e), fun _ => by rw [hle]; omega⟩
        · show (b.drop k).take n = (b.drop k).take ((b.drop k).take n).length
          rw [hl]
        · rintro (h1 | ⟨_, h1⟩)
          · have : (k : Int) < 0 := h1
            omega
          · rw [hle] at h1; omega
      · obtain ⟨a1, a2, a3, a4, a5, a6⟩ := i1 x hx
        exact ⟨a1, by omega, a3, a4, a5, a6⟩
    · show _ + bytesP l = _
      rw [hle, i2]; omega
    · show (if true = true then _ else _) = _
      rw [if_pos rfl]; exact i3
    · by_cases hj : j < k + n
      · exact ⟨_, List.mem_cons_self .., by show (k : Int) ≤ j; omega, by rw [hs]; omega⟩
      · obtain ⟨x, hx, hc⟩ := i4 j (by omega) h2
        exact ⟨x, List.mem_cons_of_mem _ hx, hc⟩
    · refine List.pairwise_cons.2 ⟨fun y hy => ?_, i5⟩
      obtain ⟨_, a2, _⟩ := i1 y hy
      exact ⟨by rw [hs]; exact a2, rfl, by show (k : Int) < y.off; omega⟩
theorem endP_cases : ∀ s : List Pc, endP s = -1 ∨ ∃ y ∈ s, y.more = false ∧ endP s = y.stop
  | [] => .inl rfl
  | x :: s => by
    cases hm : x.more with
    | false => exact .inr ⟨x, List.mem_cons_self .., hm, by rw [endP, hm]; rfl⟩
    | true =>
      have e : endP (x :: s) = endP s := by rw [endP, hm]; rfl
      rcases endP_cases s with h | ⟨y, hy, h1, h2⟩
      · exact .inl (e.trans h)
      · exact .inr ⟨y, List.mem_cons_of_mem _ hy, h1, e.trans h2⟩
theorem farP_le {n : Int} : ∀ s : List Pc, 0 ≤ n → (∀ x ∈ s, x.stop ≤ n) → farP s ≤ n
  | [], h, _ => h
  | x :: s, h, hs => by
    have h1 := farP_le s h (fun y hy => hs y (List.mem_cons_of_mem _ hy))
    have h2 := hs x (List.mem_cons_self ..)
    rw [farP]; omega
theorem sameP_iff {s : List Pc} {p : Pc} : sameP s p = true ↔ p ∈ s := by simp [sameP]
theorem bytesP_perm {s l : List Pc} (h : List.Perm s l) : bytesP s = bytesP l := by
  induction h with
  | nil => rfl
  | cons x _ ih => rw [bytesP, bytesP, ih]
  | swap x y l => simp only [bytesP]; omega
  | trans _ _ h1 h2 => exact h1.trans h2
theorem pair_of {R : Pc → Pc → Prop} : ∀ {l : List Pc}, l.Pairwise R → ∀ {x y : Pc}, x ∈ l → y ∈ l → x ≠ y → R x y ∨ R y x
  | [], _, _, _, h, _, _ => by cases h
  | a :: l, h, x, y, hx, hy, hne => by
    obtain ⟨h1, h2⟩ := List.pairwise_cons.1 h
    rcases List.mem_cons.1 hx with e1 | hx1
    · rcases List.mem_cons.1 hy with e2 | hy1
      · exact absurd (e1.trans e2.symm) hne
      · rw [e1]; exact .inl (h1 y hy1)
    · rcases List.mem_cons.1 hy with e2 | hy1
      · rw [e2]; exact .inr (h1 x hx1)
      · exact pair_of h2 hx1 hy1 hne
theorem order_add {b : List UInt8} {l s : List Pc} {p : Pc} (h : Chain b 0 l) (hb : b.length ≤ 65535) (hs : ∀ x ∈ s, x ∈ l) (hp : p ∈ l) :
    addE s p = 0 ∧ addL s p = if p ∈ s then s else s ++ [p] := by
  obtain ⟨f1, _, _, _, f5⟩ := h.facts
  obtain ⟨⟨p1, p2, _⟩, p3, p4, p5, p6, p7⟩ := f1 p hp
  have hst : p.stop = p.off + p.len := rfl
  by_cases hm : p ∈ s
  · have he : addE s p = 0 := by rw [addE, if_neg p4, if_neg (by omega), if_pos (sameP_iff.2 hm)]
    exact ⟨he, by rw [addL, if_pos he, if_pos (sameP_iff.2 hm), if_pos hm]⟩
  · have hns : ¬ sameP s p = true := fun e => hm (sameP_iff.1 e)
    have hsh : ¬ sharesP s p = true := fun e => by
      obtain ⟨x, hx, hxp⟩ := List.any_eq_true.1 e
      have hxs : x.stop = x.off + x.len := rfl
      have hne : x ≠ p := fun e => hm (e ▸ hx)
      simp only [sharing, Bool.or_eq_true, Bool.and_eq_true, decide_eq_true_eq, beq_iff_eq] at hxp
      rcases pair_of f5 (hs x hx) hp hne with ⟨r1, _, r3⟩ | ⟨r1, _, r3⟩ <;> omega
    have hlt : ¬ lateP s p := by
      have hle : ∀ y ∈ s, y.stop ≤ (b.length : Int) := fun y hy => (f1 y (hs y hy)).1.2.1
      have hend : endP s = -1 ∨ endP s = (b.length : Int) := by
        rcases endP_cases s with h0 | ⟨y, hy, h1, h2⟩
        · exact .inl h0
        · exact .inr (h2.trans ((f1 y (hs y hy)).2.2.2.2.1 h1))
      rintro (⟨h1, h2 | h2⟩ | ⟨h1, h2⟩)
      · rcases endP_cases s with h0 | ⟨y, hy, g1, g2⟩
        · omega
        · have hne : y ≠ p := fun e => hm (e ▸ hy)
          rcases pair_of f5 (hs y hy) hp hne with ⟨_, r2, _⟩ | ⟨_, r2, _⟩
          · rw [g1] at r2; cases r2
          · rw [h1] at r2; cases r2
      · have := farP_le s (by omega) hle
        have := p6 h1
        omega
      · rcases hend with e | e <;> omega
    have he : addE s p = 0 := by rw [addE, if_neg p4, if_neg (by omega), if_neg hns, if_neg hsh, if_neg hlt]
    exact ⟨he, by rw [addL, if_pos he, if_neg hns, if_neg hm]⟩
theorem order_done {b : List UInt8} {l s : List Pc} (h : Chain b 0 l) (hs : List.Perm s l) : doneB s = true ∧ doneP s = b := by
  obtain ⟨f1, f2, f3, f4, f5⟩ := h.facts
  have hmem : ∀ x, x ∈ s ↔ x ∈ l := fun x => hs.mem_iff
  have hend : endP s = (b.length : Int) := by
    rcases endP_cases s with h0 | ⟨y, hy, h1, h2⟩
    · exfalso
      rcases endP_cases l with g0 | ⟨z, hz, g1, g2⟩
      · omega
      · have key : ∀ (q : List Pc), (∀ x ∈ q, x ∈ l) → z ∈ q → endP q ≠ -1 := fun q => by
          induction q with
          | nil => intro _ h; cases h
          | cons a q ih =>
            intro ha hq
            rw [endP]
            split
            · rcases List.mem_cons.1 hq with e | hq
              · rename_i hb; rw [← e, g1] at hb; cases hb
              · exact ih (fun x hx => ha x (List.mem_cons_of_mem _ hx)) hq
            · rename_i hb
              have h9 := (f1 a (ha a (List.mem_cons_self ..))).2.2.2.2.1 (by simpa using hb)
              rw [h9]; omega
        exact key s (fun x hx => (hmem x).1 hx) ((hmem z).2 hz) h0
    · exact h2.trans ((f1 y ((hmem y).1 hy)).2.2.2.2.1 h1)
  have hby : bytesP s = (b.length : Int) := by rw [bytesP_perm hs, f2]; simp
  have hd : doneB s = true := by simp only [doneB, Bool.and_eq_true, decide_eq_true_eq]; omega
  refine ⟨hd, ?_⟩
  rw [doneP, if_pos hd, hend]
  refine List.ext_getElem? fun j => ?_
  have hfill := fun (j : Nat) (hj : j < b.length) => fill_get b j s (List.replicate (b.length : Int).toNat 0) (by simp) (fun x hx => (f1 x ((hmem x).1 hx)).1) (.inr (by
    obtain ⟨x, hx, hc⟩ := f4 j (Nat.zero_le _) hj
    exact ⟨x, (hmem x).2 hx, hc⟩))
  by_cases hj : j < b.length
  · exact (hfill j hj).1
  · rcases Nat.eq_zero_or_pos b.length with h0 | h0
    · obtain rfl : b = [] := List.eq_nil_of_length_eq_zero h0
      have := fill_get [] j s (List.replicate (([] : List UInt8).length : Int).toNat 0) (by simp) (fun x hx => (f1 x ((hmem x).1 hx)).1) (.inl (by simp))
      exact this.1
    · have := (hfill 0 h0).2
      rw [List.getElem?_eq_none (by omega), List.getElem?_eq_none (by omega)]
theorem le_farP : ∀ {l : List Pc} {x : Pc}, x ∈ l → x.stop ≤ farP l
  | a :: l, x, h => by
    rw [farP]
    rcases List.mem_cons.1 h with rfl | h
    · omega
    · have := le_farP h; omega
theorem endP_app_last {m : List Pc} : ∀ {l : List Pc}, (∃ x ∈ l, x.more = false) → endP (l ++ m) = endP l
  | [], ⟨_, h, _⟩ => by cases h
  | a :: l, ⟨x, hx, hm⟩ => by
    rw [List.cons_append, endP, endP]
    cases ha : a.more with
    | false => rfl
    | true =>
      rw [if_pos rfl, if_pos rfl]
      rcases List.mem_cons.1 hx with rfl | hx
      · rw [hm] at ha; cases ha
      · exact endP_app_last ⟨x, hx, hm⟩
theorem endP_last : ∀ {l : List Pc}, (∃ x ∈ l, x.more = false) → ∃ y ∈ l, y.more = false ∧ endP l = y.stop
  | [], ⟨_, h, _⟩ => by cases h
  | a :: l, ⟨x, hx, hm⟩ => by
    cases ha : a.more with
    | false => exact ⟨a, List.mem_cons_self .., ha, by rw [endP, ha]; rfl⟩
    | true =>
      have h1 : ∃ x ∈ l, x.more = false := by
        rcases List.mem_cons.1 hx with rfl | hx
        · rw [hm] at ha; cases ha
        · exact ⟨x, hx, hm⟩
      obtain ⟨y, hy, h2, h3⟩ := endP_last h1
      exact ⟨y, List.mem_cons_of_mem _ hy, h2, by rw [endP, ha, if_pos rfl, h3]⟩
theorem addL_cases (l : List Pc) (p : Pc) : addL l p = l ∨ (addL l p = l ++ [p] ∧ addE l p = 0 ∧ ¬ badP p ∧ ¬ p.off > 65535 - p.len ∧ ¬ sharesP l p = true ∧ ¬ lateP l p) := by
  by_cases he : addE l p = 0
  · by_cases hs : sameP l p = true
    · exact .inl (by rw [addL, if_pos he, if_pos hs])
    · right
      refine ⟨by rw [addL, if_pos he, if_neg hs], he, ?_⟩
      unfold addE at he
      by_cases h1 : badP p
      · rw [if_pos h1] at he; omega
      · rw [if_neg h1] at he
        by_cases h2 : p.off > 65535 - p.len
        · rw [if_pos h2] at he; omega
        · rw [if_neg h2, if_neg hs] at he
          by_cases h3 : sharesP l p = true
          · rw [if_pos h3] at he; omega
          · rw [if_neg h3] at he
            by_cases h4 : lateP l p
            · rw [if_pos h4] at he; omega
            · exact ⟨h1, h2, h3, h4⟩
  · exact .inl (by rw [addL, if_neg he])
end Go.Proofs.YtpoigngpdcmipaaGreat
namespace Go.Proofs.YtpoigngpdcmipaaGreat
open Go.RowKit
theorem Pc.len_nn (x : Pc) : 0 ≤ x.len := Int.natCast_nonneg _
theorem Pc.stop_eq (x : Pc) : x.stop = x.off + x.len := rfl
structure Ris (L : List Pc) : Prop where
  ok : ∀ x ∈ L, 0 ≤ x.off ∧ x.stop ≤ 65535
  full : ∀ x ∈ L, x.more = true → 0 < x.len
  pw : L.Pairwise fun x y => x.stop ≤ y.off ∧ x.more = true
theorem Ris.nil : Ris [] := ⟨fun _ h => (by cases h), fun _ h => (by cases h), List.Pairwise.nil⟩
theorem Ris.tail {a : Pc} {L : List Pc} (h : Ris (a :: L)) : Ris L := ⟨fun x hx => h.ok x (List.mem_cons_of_mem _ hx), fun x hx => h.full x (List.mem_cons_of_mem _ hx), (List.pairwise_cons.1 h.pw).2⟩
theorem Ris.head {a : Pc} {L : List Pc} (h : Ris (a :: L)) : ∀ y ∈ L, a.stop ≤ y.off ∧ a.off < y.off ∧ a.more = true := fun y hy => by
  obtain ⟨h1, h2⟩ := (List.pairwise_cons.1 h.pw).1 y hy
  have h3 := h.full a (List.mem_cons_self ..) h2
  have h4 := a.stop_eq
  exact ⟨h1, by omega, h2⟩
def atP (L : List Pc) (off : Int) : Nat := L.countP fun x => decide (x.off < off)
theorem atP_le (L : List Pc) (off : Int) : atP L off ≤ L.length := List.countP_le_length
theorem at_split : ∀ {L : List Pc} (off : Int), Ris L → (∀ x ∈ L.take (atP L off), x.off < off) ∧ (∀ x ∈ L.drop (atP L off), off ≤ x.off)
  | [], _, _ => ⟨fun x h => by simp at h, fun x h => by simp at h⟩
  | a :: L, off, h => by
    obtain ⟨i1, i2⟩ := at_split off h.tail
    by_cases ha : a.off < off
    · have e : atP (a :: L) off = atP L off + 1 := by simp [atP, ha]
      rw [e, List.take_succ_cons, List.drop_succ_cons]
      exact ⟨fun x hx => by
        rcases List.mem_cons.1 hx with rfl | hx
        · exact ha
        · exact i1 x hx, i2⟩
    · have e : atP (a :: L) off = 0 := by
        rw [atP, List.countP_eq_zero]
        intro x hx
        rcases List.mem_cons.1 hx with rfl | hx
        · simpa using ha
        · have := (h.head x hx).2.1
          simp; omega
      rw [e]
      refine ⟨fun x hx => by simp at hx, fun x hx => ?_⟩
      rcases List.mem_cons.1 (by simpa using hx) with rfl | hx
      · omega
      · have := (h.head x hx).2.1
        omega
def nearP (L : List Pc) (off : Int) : List Pc := (L.drop (atP L off - 1)).take (min (atP L off + 1) L.length - (atP L off - 1))
theorem near_sub {L : List Pc} {off : Int} : ∀ x ∈ nearP L off, x ∈ L := fun _ hx => List.mem_of_mem_drop (List.mem_of_mem_take hx)
theorem near_at {L : List Pc} {off : Int} {k : Nat} (h1 : atP L off - 1 ≤ k) (h2 : k < atP L off + 1) {x : Pc} (hx : L[k]? = some x) : x ∈ nearP L off := by
  have hk := (List.getElem?_eq_some_iff.1 hx).1
  refine List.mem_of_getElem? (i := k - (atP L off - 1)) ?_
  rw [nearP, List.getElem?_take, if_pos (by omega), List.getElem?_drop, show atP L off - 1 + (k - (atP L off - 1)) = k by omega, hx]
theorem idx_rel {L : List Pc} (h : Ris L) {i j : Nat} {x y : Pc} (hij : i < j) (hx : L[i]? = some x) (hy : L[j]? = some y) : x.stop ≤ y.off ∧ x.off < y.off ∧ x.more = true := by
  obtain ⟨hi, ex⟩ := List.getElem?_eq_some_iff.1 hx
  obtain ⟨hj, ey⟩ := List.getElem?_eq_some_iff.1 hy
  have h1 := List.pairwise_iff_getElem.1 h.pw i j hi hj hij
  rw [ex, ey] at h1
  have h3 := h.full x (List.mem_of_getElem? hx) h1.2
  have h4 := x.stop_eq
  exact ⟨h1.1, by omega, h1.2⟩
theorem at_lt {L : List Pc} (h : Ris L) (off : Int) {k : Nat} {x : Pc} (hx : L[k]? = some x) : (k < atP L off → x.off < off) ∧ (atP L off ≤ k → off ≤ x.off) := by
  obtain ⟨h1, h2⟩ := at_split off h
  refine ⟨fun hk => h1 x (List.mem_of_getElem? (i := k) ?_), fun hk => h2 x (List.mem_of_getElem? (i := k - atP L off) ?_)⟩
  · rw [List.getElem?_take, if_pos hk]; exact hx
  · rw [List.getElem?_drop, show atP L off + (k - atP L off) = k by omega]; exact hx
def alikeP (p x : Pc) : Bool := p.off == x.off && decide (p.b = x.b)
def meetsP (p x : Pc) : Bool := decide (max p.off x.off < min p.stop x.stop)
theorem near_same {L : List Pc} (h : Ris L) (p : Pc) (f : Pc → Bool) (hf : ∀ x ∈ L, f x = true → x.off = p.off) : (nearP L p.off).any f = L.any f := by
  rw [Bool.eq_iff_iff, List.any_eq_true, List.any_eq_true]
  refine ⟨fun ⟨x, hx, h1⟩ => ⟨x, near_sub x hx, h1⟩, fun ⟨x, hx, h1⟩ => ⟨x, ?_, h1⟩⟩
  obtain ⟨k, hk⟩ := List.getElem?_of_mem hx
  have ho := hf x hx h1
  have hat := at_lt h p.off hk
  have h2 : atP L p.off ≤ k := by
    rcases Nat.lt_or_ge k (atP L p.off) with g | g
    · have := hat.1 g; omega
    · exact g
  refine near_at (by omega) ?_ hk
  rcases Nat.lt_or_ge k (atP L p.off + 1) with g | g
  · exact g
  · exfalso
    have hkl := (List.getElem?_eq_some_iff.1 hk).1
    obtain ⟨y, hy⟩ : ∃ y, L[atP L p.off]? = some y := ⟨_, List.getElem?_eq_getElem (by omega)⟩
    have r := (idx_rel h (by omega) hy hk).2.1
    have := (at_lt h p.off hy).2 (Nat.le_refl _)
    omega
theorem meets_iff (p x : Pc) : meetsP p x = true ↔ 0 < x.len ∧ 0 < p.len ∧ x.off < p.stop ∧ p.off < x.stop := by
  have h1 := p.stop_eq
  have h2 := x.stop_eq
  simp only [meetsP, decide_eq_true_eq]
  omega
theorem near_meets {L : List Pc} (h : Ris L) (p : Pc) : (nearP L p.off).any (meetsP p) = L.any (meetsP p) := by
  rw [Bool.eq_iff_iff, List.any_eq_true, List.any_eq_true]
  refine ⟨fun ⟨x, hx, h1⟩ => ⟨x, near_sub x hx, h1⟩, fun ⟨x, hx, h1⟩ => ?_⟩
  obtain ⟨k, hk⟩ := List.getElem?_of_mem hx
  have hkl := (List.getElem?_eq_some_iff.1 hk).1
  have hat := at_lt h p.off hk
  obtain ⟨m1, m2, m3, m4⟩ := (meets_iff p x).1 h1
  by_cases g1 : k < atP L p.off - 1
  · exfalso
    obtain ⟨y, hy⟩ : ∃ y, L[atP L p.off - 1]? = some y := ⟨_, List.getElem?_eq_getElem (by have := atP_le L p.off; omega)⟩
    have r := (idx_rel h g1 hk hy).1
    have := (at_lt h p.off hy).1 (by omega)
    omega
  · by_cases g2 : k < atP L p.off + 1
    · exact ⟨x, near_at (by omega) g2 hk, h1⟩
    · obtain ⟨y, hy⟩ : ∃ y, L[atP L p.off]? = some y := ⟨_, List.getElem?_eq_getElem (by omega)⟩
      obtain ⟨r1, r2, r3⟩ := idx_rel h (by omega) hy hk
      have h5 := (at_lt h p.off hy).2 (Nat.le_refl _)
      have h6 := h.full y (List.mem_of_getElem? hy) r3
      have h7 := y.stop_eq
      exact ⟨y, near_at (by omega) (by omega) hy, (meets_iff p y).2 ⟨h6, m2, by omega, by omega⟩⟩
theorem shares_meets {L : List Pc} (h : Ris L) {p : Pc} (hb : ¬ badP p) (hp : ¬ p ∈ L) : sharesP L p = L.any (meetsP p) := by
  rw [Bool.eq_iff_iff, sharesP, List.any_eq_true, List.any_eq_true]
  refine ⟨fun ⟨x, hx, h1⟩ => ⟨x, hx, ?_⟩, fun ⟨x, hx, h1⟩ => ⟨x, hx, ?_⟩⟩
  · simp only [sharing, Bool.or_eq_true, Bool.and_eq_true, decide_eq_true_eq, beq_iff_eq] at h1
    rcases h1 with ⟨⟨⟨a, b⟩, c⟩, d⟩ | ⟨⟨a, b⟩, c⟩
    · exact (meets_iff p x).2 ⟨a, b, c, d⟩
    · exfalso
      have hpm : p.more = false := by
        cases hm : p.more with
        | false => rfl
        | true => exact absurd (.inr ⟨hm, .inl c⟩) hb
      have hxm : x.more = false := by
        cases hm : x.more with
        | false => rfl
        | true => have := h.full x hx hm; omega
      have e1 : x.b = [] := List.eq_nil_of_length_eq_zero (by have : (x.b.length : Int) = 0 := b; omega)
      have e2 : p.b = [] := List.eq_nil_of_length_eq_zero (by have : (p.b.length : Int) = 0 := c; omega)
      refine hp ((show p = x from ?_) ▸ hx)
      cases p; cases x
      simp_all
  · obtain ⟨a, b, c, d⟩ := (meets_iff p x).1 h1
    simp only [sharing, Bool.or_eq_true, Bool.and_eq_true, decide_eq_true_eq, beq_iff_eq]
    exact .inl ⟨⟨⟨a, b⟩, c⟩, d⟩
def endedP (L : List Pc) : Bool := L.any fun x => !x.more
theorem ended_iff {L : List Pc} : endedP L = true ↔ ∃ x ∈ L, x.more = false := by simp [endedP]
theorem ris_last {L : List Pc} (h : Ris L) {y : Pc} (hy : y ∈ L) (hm : y.more = false) : ∀ x ∈ L, x.stop ≤ y.stop := fun x hx => by
  by_cases e : x = y
  · rw [e]; exact Int.le_refl _
  · have h1 := y.stop_eq
    have h2 := y.len_nn
    rcases pair_of h.pw hx hy e with ⟨r, _⟩ | ⟨_, r⟩
    · omega
    · rw [hm] at r; cases r
theorem ris_end {L : List Pc} (h : Ris L) : endP L = if endedP L then farP L else -1 := by
  by_cases he : endedP L = true
  · rw [if_pos he]
    obtain ⟨y, hy, h1, h2⟩ := endP_last (ended_iff.1 he)
    have h3 := farP_le L (n := y.stop) (by have := (h.ok y hy).1; have := y.stop_eq; have := y.len_nn; omega) (ris_last h hy h1)
    have h4 := le_farP hy
    omega
  · rw [if_neg he]
    rcases endP_cases L with h0 | ⟨y, hy, h1, _⟩
    · exact h0
    · exact absurd (ended_iff.2 ⟨y, hy, h1⟩) he
theorem far_nn : ∀ L : List Pc, 0 ≤ farP L
  | [] => Int.le_refl _
  | x :: l => by have := far_nn l; rw [farP]; omega
theorem ris_late {L : List Pc} (h : Ris L) (p : Pc) : lateP L p ↔ (endedP L = true ∧ (p.more = false ∨ p.stop > farP L)) ∨ (p.more = false ∧ p.stop < farP L) := by
  have hf := far_nn L
  unfold lateP
  rw [ris_end h]
  by_cases he : endedP L = true
  · rw [if_pos he]
    simp only [he, true_and]
    constructor
    · rintro (⟨a, _⟩ | ⟨_, b⟩)
      · exact .inl (.inl a)
      · exact .inl (.inr b)
    · rintro ((a | b) | ⟨a, b⟩)
      · exact .inl ⟨a, .inl hf⟩
      · exact .inr ⟨hf, b⟩
      · exact .inl ⟨a, .inr b⟩
  · rw [if_neg he]
    constructor
    · rintro (⟨a, b | b⟩ | ⟨b, _⟩)
      · omega
      · exact .inr ⟨a, b⟩
      · omega
    · rintro (⟨a, _⟩ | ⟨a, b⟩)
      · exact absurd a he
      · exact .inl ⟨a, .inr b⟩
def putP (L : List Pc) (p : Pc) : List Pc := L.take (atP L p.off) ++ p :: L.drop (atP L p.off)
theorem putP_perm (L : List Pc) (p : Pc) : List.Perm (putP L p) (L ++ [p]) := by
  have h1 : List.Perm (putP L p) (p :: (L.take (atP L p.off) ++ L.drop (atP L p.off))) := List.perm_middle
  rw [List.take_append_drop] at h1
  exact h1.trans (List.perm_append_singleton p L).symm
theorem ris_put {L : List Pc} (h : Ris L) {p : Pc} (hb : ¬ badP p) (hf : ¬ p.off > 65535 - p.len) (hs : ¬ sharesP L p = true) (hl : ¬ lateP L p) : Ris (putP L p) := by
  have e1 := p.stop_eq
  have e2 := p.len_nn
  have e3 : ¬ p.off < 0 := fun g => hb (.inl g)
  have e4 : p.more = true → 0 < p.len := fun g => by
    have : p.len ≠ 0 := fun g2 => hb (.inr ⟨g, .inl g2⟩)
    omega
  obtain ⟨s1, s2⟩ := at_split p.off h
  have hmem : ∀ x ∈ putP L p, x = p ∨ x ∈ L := fun x hx => by
    have := (putP_perm L p).mem_iff.1 hx
    simp at this
    exact this.symm
  have hns : ∀ x ∈ L, ¬ (0 < x.len ∧ 0 < p.len ∧ x.off < p.stop ∧ p.off < x.stop) := fun x hx ⟨a, b, c, d⟩ => hs (List.any_eq_true.2 ⟨x, hx, by
    simp only [sharing, Bool.or_eq_true, Bool.and_eq_true, decide_eq_true_eq, beq_iff_eq]
    exact .inl ⟨⟨⟨a, b⟩, c⟩, d⟩⟩)
  have hend := ris_end h
  have hlate := fun g => hl ((ris_late h p).2 g)
  have hlast : ∀ x ∈ L, x.more = false → endedP L = true ∧ p.more = true ∧ p.stop ≤ farP L ∧ farP L = x.stop := fun x hx hm => by
    have he : endedP L = true := ended_iff.2 ⟨x, hx, hm⟩
    have g1 := farP_le L (n := x.stop) (by have := (h.ok x hx).1; have := x.stop_eq; have := x.len_nn; omega) (ris_last h hx hm)
    have g2 := le_farP hx
    refine ⟨he, ?_, ?_, by omega⟩
    · cases hp : p.more with
      | true => rfl
      | false => exact absurd (.inl ⟨he, .inl hp⟩) hlate
    · have : ¬ p.stop > farP L := fun g => hlate (.inl ⟨he, .inr g⟩)
      omega
  refine ⟨fun x hx => ?_, fun x hx hm => ?_, ?_⟩
  · rcases hmem x hx with rfl | hx
    · omega
    · exact h.ok x hx
  · rcases hmem x hx with rfl | hx
    · exact e4 hm
    · exact h.full x hx hm
  · unfold putP
    have hpw : (L.take (atP L p.off) ++ L.drop (atP L p.off)).Pairwise (fun x y => x.stop ≤ y.off ∧ x.more = true) := by rw [List.take_append_drop]; exact h.pw
    obtain ⟨w1, w2, w3⟩ := List.pairwise_append.1 hpw
    refine List.pairwise_append.2 ⟨w1, List.pairwise_cons.2 ⟨fun y hy => ?_, w2⟩, fun x hx y hy => ?_⟩
    · have hyL := List.mem_of_mem_drop hy
      have g1 := s2 y hy
      have g2 := hns y hyL
      have g3 := y.stop_eq
      have g4 := y.len_nn
      have hst : p.stop ≤ y.off := by
        by_cases c1 : 0 < p.len
        · by_cases c2 : 0 < y.len
          · have : ¬ (y.off < p.stop ∧ p.off < y.stop) := fun ⟨a, b⟩ => g2 ⟨c2, c1, a, b⟩
            omega
          · have hm : y.more = false := by
              cases hm : y.more with
              | false => rfl
              | true => exact absurd (h.full y hyL hm) c2
            obtain ⟨_, _, k3, k4⟩ := hlast y hyL hm
            omega
        · omega
      refine ⟨hst, ?_⟩
      cases hp : p.more with
      | true => rfl
      | false =>
        exfalso
        have hy1 : y.more = true := by
          cases hm : y.more with
          | true => rfl
          | false => have := (hlast y hyL hm).2.1; rw [hp] at this; cases this
        have k1 := h.full y hyL hy1
        have k2 := le_farP hyL
        have k3 : ¬ p.stop < farP L := fun g => hlate (.inr ⟨hp, g⟩)
        omega
    · rcases List.mem_cons.1 hy with rfl | hy
      · have hxL := List.mem_of_mem_take hx
        have g1 := s1 x hx
        have g2 := hns x hxL
        have g3 := x.stop_eq
        have g4 := x.len_nn
        constructor
        · by_cases c1 : 0 < y.len
          · by_cases c2 : 0 < x.len
            · have : ¬ (x.off < y.stop ∧ y.off < x.stop) := fun ⟨a, b⟩ => g2 ⟨c2, c1, a, b⟩
              omega
            · omega
          · have hm : y.more = false := by
              cases hm : y.more with
              | false => rfl
              | true => exact absurd (e4 hm) c1
            have k2 := le_farP hxL
            have k3 : ¬ y.stop < farP L := fun g => hlate (.inr ⟨hm, g⟩)
            omega
        · cases hm : x.more with
          | true => rfl
          | false =>
            exfalso
            obtain ⟨k1, k2, k3, k4⟩ := hlast x hxL hm
            have k5 := e4 k2
            exact g2 ⟨by omega, k5, by omega, by omega⟩
      · exact w3 x hx y hy
theorem farP_perm {s l : List Pc} (h : List.Perm s l) : farP s = farP l := by
  induction h with
  | nil => rfl
  | cons x _ ih => rw [farP, farP, ih]
  | swap x y l => simp only [farP]; omega
  | trans _ _ h1 h2 => exact h1.trans h2
theorem any_perm {s l : List Pc} (h : List.Perm s l) (f : Pc → Bool) : s.any f = l.any f := by
  rw [Bool.eq_iff_iff, List.any_eq_true, List.any_eq_true]
  exact ⟨fun ⟨x, hx, g⟩ => ⟨x, h.mem_iff.1 hx, g⟩, fun ⟨x, hx, g⟩ => ⟨x, h.mem_iff.2 hx, g⟩⟩
theorem endP_perm {s l : List Pc} (hs : Ris s) (h : List.Perm s l) : endP s = endP l := by
  rcases endP_cases l with h0 | ⟨y, hy, h1, h2⟩
  · rw [h0, ris_end hs]
    refine if_neg fun he => ?_
    obtain ⟨x, hx, hm⟩ := ended_iff.1 he
    obtain ⟨y, hy, h1, h2⟩ := endP_last ⟨x, h.mem_iff.1 hx, hm⟩
    have := hs.ok y (h.mem_iff.2 hy)
    have := y.stop_eq
    have := y.len_nn
    omega
  · have hys := h.mem_iff.2 hy
    obtain ⟨x, hx, g1, g2⟩ := endP_last ⟨y, hys, h1⟩
    have k1 := ris_last hs hx g1 y hys
    have k2 := ris_last hs hys h1 x hx
    omega
structure Same (L l : List Pc) : Prop where
  ris : Ris L
  perm : List.Perm L l
theorem Same.nil : Same [] [] := ⟨Ris.nil, List.Perm.refl _⟩
def addC (L : List Pc) (p : Pc) : Int :=
  if badP p then 4 else if p.off > 65535 - p.len then 6 else if (nearP L p.off).any (fun x => decide (x = p)) then 0 else if (nearP L p.off).any (meetsP p) then 9
  else if (endedP L = true ∧ (p.more = false ∨ p.stop > farP L)) ∨ (p.more = false ∧ p.stop < farP L) then 4 else 0
def addCL (L : List Pc) (p : Pc) : List Pc := if addC L p = 0 then (if (nearP L p.off).any (fun x => decide (x = p)) then L else putP L p) else L
theorem Same.same {L l : List Pc} (h : Same L l) (p : Pc) : (nearP L p.off).any (fun x => decide (x = p)) = sameP l p := by
  rw [near_same h.ris p _ (fun x _ g => by rw [of_decide_eq_true g])]
  exact any_perm h.perm _
theorem Same.late {L l : List Pc} (h : Same L l) (p : Pc) : lateP l p ↔ (endedP L = true ∧ (p.more = false ∨ p.stop > farP L)) ∨ (p.more = false ∧ p.stop < farP L) := by
  rw [← ris_late h.ris]
  unfold lateP
  rw [endP_perm h.ris h.perm, farP_perm h.perm]
theorem Same.addE {L l : List Pc} (h : Same L l) (p : Pc) : addC L p = addE l p := by
  unfold addC Go.Proofs.YtpoigngpdcmipaaGreat.addE
  rw [h.same]
  by_cases h1 : badP p
  · rw [if_pos h1, if_pos h1]
  · rw [if_neg h1, if_neg h1]
    by_cases h2 : p.off > 65535 - p.len
    · rw [if_pos h2, if_pos h2]
    · rw [if_neg h2, if_neg h2]
      by_cases h3 : sameP l p = true
      · rw [if_pos h3, if_pos h3]
      · rw [if_neg h3, if_neg h3, near_meets h.ris p, ← shares_meets h.ris h1 (fun g => h3 (sameP_iff.2 (h.perm.mem_iff.1 g))), show sharesP L p = sharesP l p from any_perm h.perm _]
        by_cases h4 : sharesP l p = true
        · rw [if_pos h4, if_pos h4]
        · rw [if_neg h4, if_neg h4]
          by_cases h5 : lateP l p
          · rw [if_pos h5, if_pos ((h.late p).1 h5)]
          · rw [if_neg h5, if_neg (fun g => h5 ((h.late p).2 g))]
theorem Same.addL {L l : List Pc} (h : Same L l) (p : Pc) : Same (addCL L p) (addL l p) := by
  unfold addCL Go.Proofs.YtpoigngpdcmipaaGreat.addL
  rw [h.same, h.addE]
  by_cases h0 : Go.Proofs.YtpoigngpdcmipaaGreat.addE l p = 0
  · rw [if_pos h0, if_pos h0]
    by_cases h1 : sameP l p = true
    · rw [if_pos h1, if_pos h1]; exact h
    · rw [if_neg h1, if_neg h1]
      rcases addL_cases l p with e | ⟨_, _, hb, hf, hs, hl⟩
      · exfalso
        have e2 : Go.Proofs.YtpoigngpdcmipaaGreat.addL l p = l ++ [p] := by rw [Go.Proofs.YtpoigngpdcmipaaGreat.addL, if_pos h0, if_neg h1]
        rw [e2] at e
        have := congrArg List.length e
        simp at this
      · refine ⟨ris_put h.ris hb hf (fun g => hs ?_) (fun g => hl ?_), (putP_perm L p).trans (h.perm.append_right [p])⟩
        · rw [← show sharesP L p = sharesP l p from any_perm h.perm _]; exact g
        · rw [h.late, ← ris_late h.ris]; exact g
  · rw [if_neg h0, if_neg h0]; exact h
theorem Same.bytes {L l : List Pc} (h : Same L l) : bytesP L = bytesP l := bytesP_perm h.perm
theorem Same.room {L l : List Pc} (h : Same L l) (a : Int) (b : List UInt8) (m : Bool) : (if (nearP L a).any (alikeP ⟨a, m, b⟩) then 0 else (b.length : Int)) = roomP l a b := by
  have h1 : (nearP L a).any (alikeP ⟨a, m, b⟩) = L.any (alikeP ⟨a, m, b⟩) := near_same h.ris ⟨a, m, b⟩ _ (fun x _ g => by
    simp only [alikeP, Bool.and_eq_true, beq_iff_eq] at g
    exact g.1.symm)
  have h2 : l.any (alikeP ⟨a, m, b⟩) = (sameP l ⟨a, true, b⟩ || sameP l ⟨a, false, b⟩) := by
    rw [Bool.eq_iff_iff, Bool.or_eq_true, sameP_iff, sameP_iff, List.any_eq_true]
    constructor
    · rintro ⟨x, hx, g⟩
      simp only [alikeP, Bool.and_eq_true, beq_iff_eq, decide_eq_true_eq] at g
      obtain ⟨g1, g2⟩ := g
      cases hm : x.more with
      | true => left; rw [g1, g2, ← hm]; exact hx
      | false => right; rw [g1, g2, ← hm]; exact hx
    · rintro (hx | hx) <;> exact ⟨_, hx, by simp [alikeP]⟩
  rw [h1, any_perm h.perm, h2, roomP]
end Go.Proofs.YtpoigngpdcmipaaGreat
