/-
  Contracts and lemmas on which the proofs of this seat stand (several texts in one). Conditions are each theorem's own.
-/
import Derived.Test.YtghbliabmecbcaaMa15

/-
  slices.Equal of two slices of texts that read the same. Conditions are each theorem's own.
-/
namespace Go.Proofs.Ytghbliabmecbcaa
open Go.RowKit Go.Shelf
theorem run_load_strE {o : Oper} {a : Act} {w : World} {x : Operand} {p : Addr} {s : ByteArray} (ho : o.op = .load 9 x) (hx : a.eval x = .pointer (some p)) (hc : w.cell? p = some (.string s)) :
    (execOp a.eval o).run Try.prog w = .ok (.value (.string s)) w := by
  unfold execOp
  simp only [ho, hx, Instr.loadAt, Instr.sureAddr, Sem.run_bind, Sem.run_pure, Result.andThen_ok]
  go_simp
set_option maxRecDepth 100000 in
theorem eq_texts (A A' : Option Addr) (c c' n : Nat) (K : List (List UInt8)) (w : World) (h : RdS clK 1 w w.heap.size A K) (h' : RdS clK 1 w w.heap.size A' K) (hn : n = K.length) (hc : n ≤ c ∧ n ≤ c') (hm : n ≤ 1000000) :
    Calls Try.prog 13 #[.slice A n c, .slice A' n c'] w fun e w' => e = .returned (.bool true) ∧ Below w.heap.size w w' := by
  obtain ⟨hc1, hc2⟩ := hc
  have HN := Lib.hid hn
  have H1 := Lib.hid h
  have H2 := Lib.hid h'
  clear h h' hn
  go_enter Try.func13, Try.ntmps13
  go_wp2
  go_loopw [13] (fun z wr => ∃ k : Nat, k ≤ n ∧ z = .int .i64 (k : Int) ∧ Below w.heap.size w wr) (fun z _ => n - (intOf z).toNat)
  case atStart => exact ⟨0, Nat.zero_le _, rfl, Below.refl _ _⟩
  case round =>
    obtain ⟨k, hk, rfl, hbel⟩ := hrel
    by_cases hkn : k < n
    · obtain ⟨y, hy⟩ : ∃ y, K[k]? = some y := ⟨_, List.getElem?_eq_getElem (by rw [← HN.out]; exact hkn)⟩
      obtain ⟨b, o, rfl, hb, hr⟩ := H1.out (by rw [← HN.out]; omega)
      obtain ⟨b', o', rfl, hb', hr'⟩ := H2.out (by rw [← HN.out]; omega)
      have q1 : w.cell? ⟨b, o + k, none⟩ = some (.string (strB y)) := by simpa [sk] using hr k y hy 0 _ rfl
      have q2 : w.cell? ⟨b', o' + k, none⟩ = some (.string (strB y)) := by simpa [sk] using hr' k y hy 0 _ rfl
      have K1 : Hid (∀ U, Below wr.heap.size wr U → U.cell? ⟨b, o + k, none⟩ = some (.string (strB y))) := Lib.hid fun U hU => ((hbel.trans (hU.mono hbel.size)).cell (p := ⟨b, o + k, none⟩) hb).trans q1
      have K2 : Hid (∀ U, Below wr.heap.size wr U → U.cell? ⟨b', o' + k, none⟩ = some (.string (strB y))) := Lib.hid fun U hU => ((hbel.trans (hU.mono hbel.size)).cell (p := ⟨b', o' + k, none⟩) hb').trans q2
      have dk : ((strB y).toList == (strB y).toList) = true := by simp
      clear hy hr hr' q1 q2
      go_upto_region 6 with fail
      refine wp_region_held_drew (S := fun w' => Below wr.heap.size wr w') (by kernel_rfl) (Below.refl _ wr).drew (fun hS => ?_)
      refine held_pure (i := 0) (oi := ⟨some 16, _, _, _, _, _⟩) rfl (by kernel_rfl) (by kernel_rfl) (by kernel_rfl) (fun _ _ _ h => h) (by rfl) (v := ?_) (fun w hSw => ?_) hS (fun hS => ?_)
      rotate_left
      · go_simp; try with_reducible rfl
      try go_frame
      refine held_pure (i := 1) (oi := ⟨some 17, _, _, _, _, _⟩) rfl (by kernel_rfl) (by kernel_rfl) (by kernel_rfl) (fun _ _ _ h => h) (by rfl) (v := ?_) (fun w hSw => ?_) hS (fun hS => ?_)
      rotate_left
      · go_simp; try with_reducible rfl
      try go_frame
      refine held_pure (i := 2) (oi := ⟨some 18, _, _, _, _, _⟩) rfl (by kernel_rfl) (by kernel_rfl) (by kernel_rfl) (fun _ _ _ h => h) (by rfl) (v := ?_) (fun w hSw => ?_) hS (fun hS => ?_)
      rotate_left
      · go_simp; try with_reducible rfl
      try go_frame
      refine held_pure (i := 3) (oi := ⟨some 19, _, _, _, _, _⟩) rfl (by kernel_rfl) (by kernel_rfl) (by kernel_rfl) (fun _ _ _ h => h) (by rfl) (fun w hSw => run_load_strE rfl rfl (K1.out _ hSw)) hS (fun hS => ?_)
      try go_frame
      refine held_pure (i := 4) (oi := ⟨some 20, _, _, _, _, _⟩) rfl (by kernel_rfl) (by kernel_rfl) (by kernel_rfl) (fun _ _ _ h => h) (by rfl) (v := ?_) (fun w hSw => ?_) hS (fun hS => ?_)
      rotate_left
      · go_simp; try with_reducible rfl
      try go_frame
      refine held_pure (i := 5) (oi := ⟨some 21, _, _, _, _, _⟩) rfl (by kernel_rfl) (by kernel_rfl) (by kernel_rfl) (fun _ _ _ h => h) (by rfl) (v := ?_) (fun w hSw => ?_) hS (fun hS => ?_)
      rotate_left
      · go_simp; try with_reducible rfl
      try go_frame
      refine held_pure (i := 6) (oi := ⟨some 22, _, _, _, _, _⟩) rfl (by kernel_rfl) (by kernel_rfl) (by kernel_rfl) (fun _ _ _ h => h) (by rfl) (v := ?_) (fun w hSw => ?_) hS (fun hS => ?_)
      rotate_left
      · go_simp; try with_reducible rfl
      try go_frame
      refine held_pure (i := 7) (oi := ⟨some 23, _, _, _, _, _⟩) rfl (by kernel_rfl) (by kernel_rfl) (by kernel_rfl) (fun _ _ _ h => h) (by rfl) (fun w hSw => run_load_strE rfl rfl (K2.out _ hSw)) hS (fun hS => ?_)
      try go_frame
      refine held_pure (i := 8) (oi := ⟨some 24, _, _, _, _, _⟩) rfl (by kernel_rfl) (by kernel_rfl) (by kernel_rfl) (fun _ _ _ h => h) (by rfl) (v := .bool false) (fun w hSw => by go_simp; try exact dk) hS (fun hS => ?_)
      try go_frame
      refine wpAnyH_done (by kernel_rfl) ?_ _
      go_wp2
      go_roundw
      case rel => exact ⟨k + 1, by omega, by simp, hbel.drew⟩
      case measure => simp [intOf]; omega
    · obtain rfl : n = k := by omega
      go_wp2
      refine bodyPost_ret (results_tmp rfl _ _ _) rfl ⟨rfl, hbel⟩
end Go.Proofs.Ytghbliabmecbcaa

/-
  Layer 16's table of the code and the document's in the law's loop: a call of the one, then of the other. Conditions are each theorem's own.
-/
namespace Go.Proofs.Ytghbliabmecbcaa
open Go.RowKit Go.Shelf Go.Maps
structure JLw (B t bm g : Nat) (mb my wt : Int) (k : Nat) (S : List Bu) (T : List XB) (w U : World) : Prop where
  jv : Jv U B t bm mb my wt k S
  rj : ∃ v, Rj U g v T mb my wt ∧ ∀ j, v.ownBlock = some j → B ≤ j
  sm : SameT S (tbE T)
  n : S.length ≤ k
  bel : Below w.heap.size w U
  z : w.heap.size ≤ B
  gz : B ≤ g
section
variable {B t bm g k : Nat} {mb my wt : Int} {S S' : List Bu} {T T' : List XB} {w U V X : World} {v v' : Value}
theorem JLw.below (h : JLw B t bm g mb my wt k S T w U) (hb : Below U.heap.size U V) : JLw B t bm g mb my wt k S T w V := by
  obtain ⟨v, h1, h2⟩ := h.rj
  exact ⟨h.jv.below hb, ⟨v, h1.below hb, h2⟩, h.sm, h.n, h.bel.trans (hb.mono h.bel.size), h.z, h.gz⟩
theorem JLw.bz (h : JLw B t bm g mb my wt k S T w U) : B ≤ U.heap.size := Nat.le_trans h.jv.z.1 (Nat.le_of_lt (heap_lt h.jv.tx.obj))
theorem JLw.step (h : JLw B t bm g mb my wt k S T w U) (hr : Rj U g v T mb my wt) (hv : ∀ j, v.ownBlock = some j → B ≤ j) (hj : Jv V B t bm mb my wt (k + 1) S') (hk1 : Kept (NJ B U) U V) (hs : SameT S' (tbE T'))
    (hr' : Rj X g v' T' mb my wt) (hk2 : Kept (fun j => j = g ∨ v.ownBlock = some j) V X) (hb : ∀ j, v'.ownBlock = some j → v.ownBlock = some j ∨ V.heap.size ≤ j) (hn : S'.length ≤ k + 1) : JLw B t bm g mb my wt (k + 1) S' T' w X := by
  have rV := hr.nj hk1
  have z1 : B ≤ V.heap.size := Nat.le_trans h.bz hk1.size
  refine ⟨⟨hj.tx.ref rV hk2, hj.z, hj.by_, hj.n, hj.l⟩, ⟨v', hr', fun j hj => ?_⟩, hs, hn, ?_, h.z, h.gz⟩
  · rcases hb j hj with h1 | h1
    · exact hv j h1
    · exact Nat.le_trans z1 h1
  · have b1 : Below w.heap.size U V := hk1.below h.bel.size (fun i hi => Nat.le_trans h.z hi.1)
    have b2 : Below w.heap.size V X := hk2.below (Nat.le_trans h.z z1) (fun i hi => by
      rcases hi with rfl | hi
      · exact Nat.le_trans h.z h.gz
      · exact Nat.le_trans h.z (hv i hi))
    exact (h.bel.trans b1).trans b2
/-- What the document's call asks of its buffers. -/
theorem JLw.parts (h : JLw B t bm g mb my wt k S T w U) : T.length = S.length ∧ (∀ x ∈ T, x.l.length ≤ k) ∧ (∀ x ∈ T, wfP (piE x.l)) ∧ bytesJ (tbE T) ≤ my := by
  have hl := h.sm.len
  have hb := h.sm.bytes
  have hby := h.jv.by_
  obtain ⟨Z, h1, h2, h3⟩ := h.sm
  have hz : ∀ x ∈ T, ∃ z ∈ Z, z.2 = bfE x ∧ z.1 ∈ S := fun x hx => by
    have : bfE x ∈ Z.map (·.2) := by rw [← h2]; exact List.mem_map.2 ⟨x, hx, rfl⟩
    obtain ⟨z, hz, e⟩ := List.mem_map.1 this
    exact ⟨z, hz, e, h1.mem_iff.2 (List.mem_map.2 ⟨z, hz, rfl⟩)⟩
  refine ⟨by rw [hl, tbE, List.length_map], fun x hx => ?_, fun x hx => ?_, by rw [← hb]; exact hby⟩
  · obtain ⟨z, hz, e, hS⟩ := hz x hx
    have hp := (h3 z hz).l.perm.length_eq
    rw [e] at hp
    have hL := h.jv.l z.1 hS
    have e1 : (piE z.1.L).length = z.1.L.length := by unfold piE; exact List.length_map ..
    have e2 : (bfE x).l.length = x.l.length := by show (piE x.l).length = _; unfold piE; exact List.length_map ..
    omega
  · obtain ⟨z, hz, e, _⟩ := hz x hx
    have := (h3 z hz).l.wf
    rw [e] at this
    exact this
end
end Go.Proofs.Ytghbliabmecbcaa

/-
  New of layer 16 on both sides. Conditions are each theorem's own.
-/
namespace Go.Proofs.Ytghbliabmecbcaa
open Go.RowKit Go.Shelf Go.Maps
theorem newOk_bad {a b c : Int} : newOk a b c ↔ ¬ badN a b c := by unfold newOk badN; omega
theorem r16new_ok (a b c : Int) (w : World) (h : newOk a b c) : Calls Try.prog 10 #[.int .i64 a, .int .i64 b, .int .i64 c] w fun e w' =>
    e = .returned (.tuple #[.pointer (some ⟨w.heap.size, 0, none⟩), .int .i64 0]) ∧ Rj w' w.heap.size (.slice none 0 0) [] a b c ∧ Below w.heap.size w w' := by
  refine (r16new a b c w).mono ?_
  rintro e w' (⟨hb, _⟩ | ⟨_, rfl, rfl⟩)
  · exact absurd hb (newOk_bad.1 h)
  · exact ⟨rfl, ⟨World.alloc_heap_new w _, World.ownsRow_nil _ _ _ _, fun x hx => (by cases hx), by simp⟩, (Below.refl _ w).alloc (Nat.le_refl _) _⟩
theorem r16new_bad (a b c : Int) (w : World) (h : ¬ newOk a b c) : Calls Try.prog 10 #[.int .i64 a, .int .i64 b, .int .i64 c] w fun e w' =>
    e = .returned (.tuple #[.pointer none, .int .i64 1]) ∧ w = w' := by
  refine (r16new a b c w).mono ?_
  rintro e w' (⟨_, rfl, rfl⟩ | ⟨hb, _⟩)
  · exact ⟨rfl, rfl⟩
  · exact absurd (newOk_bad.2 hb) h
theorem JLw.start {w w1 w2 : World} {a b c : Int} (h : newOk a b c) (h1 : Tx w1 (w.heap.size + 1) w.heap.size 0 a b c [] []) (x1 : Below w.heap.size w w1) (h2 : Rj w2 w1.heap.size (.slice none 0 0) [] a b c) (x2 : Below w1.heap.size w1 w2) :
    JLw w.heap.size (w.heap.size + 1) w.heap.size w1.heap.size a b c 0 [] [] w w2 :=
  ⟨⟨h1.below x2, ⟨Nat.le_succ _, Nat.le_refl _, fun s hs => (by cases hs)⟩, h.2.1.1, h.1.1, fun s hs => (by cases hs)⟩, ⟨_, h2, fun j hj => (by cases hj)⟩, SameT.nil, Nat.le_refl _, x1.trans (x2.mono x1.size), Nat.le_refl _, x1.size⟩
theorem rds_far {w w' : World} {A : Option Addr} {l : List Dx} (h : RdS clD 7 w w.heap.size A l) (hb : Below w.heap.size w w') : RdS clD 7 w' w.heap.size A l := h.below hb
end Go.Proofs.Ytghbliabmecbcaa

/-
  Layer 16: a call of the code's table and then of the document's, with one answer. Conditions are each theorem's own.
-/
namespace Go.Proofs.Ytghbliabmecbcaa
open Go.RowKit Go.Shelf Go.Maps
def DoAt (X : World) (bx : Nat) (cs : Array Value) : Prop := X.heap[bx]? = some (.cells cs 34 (0, 0))
theorem run_load_slB16 {o : Oper} {a : Act} {w : World} {x : Operand} {p : Addr} {A : Option Addr} {n c : Nat} (ho : o.op = .load 42 x) (hx : a.eval x = .pointer (some p)) (hc : w.cell? p = some (.slice A n c)) :
    (execOp a.eval o).run Try.prog w = .ok (.value (.slice A n c)) w := by
  unfold execOp
  simp only [ho, hx, Instr.loadAt, Instr.sureAddr, Sem.run_bind, Sem.run_pure, Result.andThen_ok]
  go_simp
theorem own_argE {w : World} {base : Nat} {v : Value} {bs : List UInt8} (h : w.ownsRow base 5 1 v bs.length (row bs)) : ∃ A c, v = .slice A bs.length c ∧ Arg w w.heap.size A c bs := by
  have h' := h
  rcases h'.2 with ⟨rfl, h0⟩ | ⟨g, cap, cur, rfl, _⟩
  · obtain rfl : bs = [] := List.eq_nil_of_length_eq_zero h0
    exact ⟨none, 0, rfl, arg_own h⟩
  · exact ⟨_, _, rfl, arg_own h⟩
theorem keysOf_len (T : List Bf) : (keysOf T).length = T.length := by
  rw [(keysOf_both T).1.length_eq, List.length_map]
theorem expK_len (T : List Bf) (wt now : Int) : (expK T wt now).length ≤ T.length := by
  unfold expK
  rw [keysOf_len]
  exact List.length_filter_le ..
section
variable {B t bm g k : Nat} {mb my wt : Int} {S : List Bu} {T : List XB} {w U : World}
theorem JLw.gu (h : JLw B t bm g mb my wt k S T w U) : g < U.heap.size := by
  obtain ⟨v, h1, _⟩ := h.rj
  exact heap_lt h1.tab
theorem eq_rows {X : World} {v u : Value} {b1 b2 : Nat} {K : List (List UInt8)} (h1 : X.ownsRow b1 9 1 v K.length (K.map sk)) (h2 : X.ownsRow b2 9 1 u K.length (K.map sk)) (hK : K.length ≤ 1000000) :
    Calls Try.prog 13 #[v, u] X fun e Y => e = .returned (.bool true) ∧ Below X.heap.size X Y := by
  obtain ⟨A, c, rfl, r1, c1, _⟩ := own_keys h1 rfl
  obtain ⟨A', c', rfl, r2, c2, _⟩ := own_keys h2 rfl
  exact eq_texts A A' c c' K.length K X r1 r2 rfl ⟨c1, c2⟩ hK
theorem JLw.exp (h : JLw B t bm g mb my wt k S T w U) (hmy : my ≤ 1073741824) (hk : k ≤ 60) (hwt : 1 ≤ wt ∧ wt ≤ 1099511627776) (now : Int) (hnow : -9223372036854775808 ≤ now ∧ now ≤ 9223372036854775807) :
    Calls Try.prog 14 #[.pointer (some ⟨t, 0, none⟩), .int .i64 now] U fun e V => ∃ v, e = .returned v ∧ (∀ bx cs, DoAt U bx cs → DoAt V bx cs) ∧
      Calls Try.prog 15 #[.pointer (some ⟨g, 0, none⟩), .int .i64 now] V fun e X => ∃ u, e = .returned u ∧ (∀ bx cs, DoAt V bx cs → DoAt X bx cs) ∧
        (Calls Try.prog 13 #[v, u] X fun e Y => e = .returned (.bool true) ∧ Below X.heap.size X Y) ∧ ∃ S2 T2, JLw B t bm g mb my wt (k + 1) S2 T2 w X := by
  obtain ⟨vg, hr, hv⟩ := h.rj
  obtain ⟨hp1, hp2, hp3, hp4⟩ := h.parts
  have hn := h.n
  have hTn : (tbE T).length ≤ 60 := by have := h.sm.len; omega
  have hKl := expK_len (tbE T) wt now
  refine (kexp_says h.jv h.sm (by omega) (by omega) (by omega) hnow.2).mono ?_
  rintro e V ⟨v, S', rfl, hown, hj, hs, hkp, hl⟩
  refine ⟨v, rfl, fun bx cs hb => ((hkp.block bx (heap_lt hb) (fun hi => tj_no.2.2.2.2.2 (hi.2 _ _ _ hb))).trans hb), ?_⟩
  have rV := hr.nj hkp
  refine (r16expire rV ⟨by omega, by omega⟩ hnow).mono ?_
  rintro e X ⟨u, v', rfl, hown2, hr2, hk2, hb2⟩
  have hk3 : Kept (fun j => j = g ∨ vg.ownBlock = some j) V X := hk2.mono (fun i _ hi => .inl hi)
  refine ⟨u, rfl, fun bx cs hb => ((hk2.block bx (heap_lt hb) (fun hi => ?_)).trans hb), ?_, S', stayB wt now T, ?_⟩
  · subst hi
    have := hb.symm.trans rV.tab
    simp only [Option.some.injEq, Obj.cells.injEq] at this
    exact absurd this.2.1 (nat_ne (by kernel_rfl))
  · exact eq_rows (own_keptA (show V.ownsRow U.heap.size 9 1 v (expK (tbE T) wt now).length ((expK (tbE T) wt now).map sk) from hown) hk3 (rj_away rV) trf_no.2.2.2.2.2.2) hown2 (by omega)
  · exact h.step hr hv (hj.mono (Nat.le_succ _)) hkp (by rw [stayB_tb]; exact hs) hr2 hk3 (fun j hj => .inr (hb2 j hj)) (by omega)
theorem JLw.add (h : JLw B t bm g mb my wt k S T w U) (hmy : my ≤ 1073741824) (hk : k < 60) (key head : List UInt8) (off now : Int) (more : Bool) (A' : Option Addr) (c' : Nat) (b : List UInt8) (hA' : Arg U w.heap.size A' c' b)
    (hkey : key.length ≤ maxLen) (hbl : b.length ≤ 1000) (hoff : -9223372036854775808 ≤ off ∧ off ≤ 9223372036854775807) :
    ∃ (r1 : List UInt8) (r3 : Bool) (r4 : Int), Calls Try.prog 16 #[.pointer (some ⟨t, 0, none⟩), .string (strB key), .int .i64 off, .bool more, .slice A' b.length c', .string (strB head), .int .i64 now] U fun e V => ∃ v, e = .returned (.tuple #[.string (strB r1), v, .bool r3, .int .i64 r4]) ∧ (∀ bx cs, DoAt U bx cs → DoAt V bx cs) ∧
      Calls Try.prog 17 #[.pointer (some ⟨g, 0, none⟩), .string (strB key), .int .i64 off, .bool more, .slice A' b.length c', .string (strB head), .int .i64 now] V fun e X => ∃ u, e = .returned (.tuple #[.string (strB r1), u, .bool r3, .int .i64 r4]) ∧ (∀ bx cs, DoAt V bx cs → DoAt X bx cs) ∧
        (∀ Y, Below X.heap.size X Y → Calls Try.prog 18 #[v, u] Y fun e Z => e = .returned (.bool true) ∧ Y = Z) ∧ ∃ S2 T2, JLw B t bm g mb my wt (k + 1) S2 T2 w X := by
  obtain ⟨vg, hr, hv⟩ := h.rj
  obtain ⟨hp1, hp2, hp3, hp4⟩ := h.parts
  have hn := h.n
  have hbz := h.bz
  obtain ⟨r, hrr⟩ : ∃ r, addJ mb my (tbE T) key ⟨off, more, b⟩ head now = r := ⟨_, rfl⟩
  refine ⟨r.2.1, r.2.2.2.1, r.2.2.2.2, ?_⟩
  refine (kadd_says h.jv h.sm (by omega) key head off now more A' c' b (hA'.more (Nat.le_trans h.z hbz)) hkey (by omega) hoff (by omega) (by omega) hbz).mono ?_
  rintro e V ⟨v, S', rfl, hown, hj, hs, hkp, hl⟩
  rw [hrr] at hown hs ⊢
  refine ⟨v, rfl, fun bx cs hb => ((hkp.block bx (heap_lt hb) (fun hi => tj_no.2.2.2.2.2 (hi.2 _ _ _ hb))).trans hb), ?_⟩
  have rV := hr.nj hkp
  have bUV : Below w.heap.size U V := hkp.below (Nat.le_trans h.z hbz) (fun i hi => Nat.le_trans h.z hi.1)
  refine (r16add_says rV (by omega) key off more A' c' b head now (B1 := w.heap.size) (Nat.le_trans h.z h.gz) (hA'.below bUV) (by omega) hoff (fun x hx => by have := hp2 x hx; omega) hp3 (by omega)).mono ?_
  rintro e X ⟨v', T', u, rfl, hr2, ht2, hown2, hk2, hb2⟩
  rw [hrr] at hown2 ht2 ⊢
  refine ⟨u, rfl, fun bx cs hb => ((hk2.block bx (heap_lt hb) (fun hi => ?_)).trans hb), ?_, S', T', ?_⟩
  · exact trf_no.2.2.2.2.2.1 (rj_away rV bx hi _ _ _ hb)
  · intro Y hY
    obtain ⟨P, q, rfl, a1⟩ := own_argE (own_keptA hown hk2 (rj_away rV) trf_no.2.2.2.1)
    obtain ⟨P', q', rfl, a2⟩ := own_argE hown2
    refine (equal_any P P' r.2.2.1 r.2.2.1 q q' X.heap.size X.heap.size Y (a1.rd.below hY) (a2.rd.below hY)).mono ?_
    rintro e Z ⟨rfl, rfl⟩
    exact ⟨ret_bool (by simp), rfl⟩
  · exact h.step hr hv hj hkp (by rw [ht2]; exact hs) hr2 hk2 hb2 (by omega)
/-- What is asked of both behind each call. -/
theorem JLw.tail (h : JLw B t bm g mb my wt k S T w U) (hk : k ≤ 60) : ∃ (nb : Int) (nl : Nat), nl ≤ 1000 ∧
    (∀ X, Below U.heap.size U X → Calls Try.prog 19 #[.pointer (some ⟨t, 0, none⟩)] X fun e Y => e = .returned (.int .i64 nb) ∧ X = Y) ∧
    (∀ X, Below U.heap.size U X → Calls Try.prog 20 #[.pointer (some ⟨g, 0, none⟩)] X fun e Y => e = .returned (.int .i64 nb) ∧ Below X.heap.size X Y) ∧
    (∀ X, Below U.heap.size U X → Calls Try.prog 21 #[.pointer (some ⟨t, 0, none⟩)] X fun e Y => e = .returned (.int .i64 (nl : Int)) ∧ X = Y) ∧
    (∃ A c, ∀ X, Below U.heap.size U X → X.cell? ⟨g, 0, none⟩ = some (.slice A nl c)) ∧
    (∀ X, Below U.heap.size U X → Calls Try.prog 22 #[.pointer (some ⟨t, 0, none⟩)] X fun e Y => ∃ v, e = .returned v ∧ Below X.heap.size X Y ∧
      Calls Try.prog 23 #[.pointer (some ⟨g, 0, none⟩)] Y fun e Z => ∃ u, e = .returned u ∧ Below Y.heap.size Y Z ∧
        Calls Try.prog 13 #[v, u] Z fun e Q => e = .returned (.bool true) ∧ Below Z.heap.size Z Q) := by
  obtain ⟨vg, hr, hv⟩ := h.rj
  have hn := h.n
  have hTn : (tbE T).length ≤ 60 := by have := h.sm.len; omega
  have hTl : (tbE T).length = T.length := by rw [tbE, List.length_map]
  have hST : S.length = T.length := by have := h.sm.len; omega
  have hby := h.sm.bytes
  obtain ⟨A, c, rfl, hTb, _⟩ := hr.sh
  refine ⟨bytesJ (tbE T), T.length, by omega, fun X hX => ?_, fun X hX => ?_, fun X hX => ?_, ⟨A, c, fun X hX => ?_⟩, fun X hX => ?_⟩
  · rw [← hby]; exact jbytes (h.jv.below hX).tx
  · obtain ⟨A2, c2, e2, hTb2, _⟩ := (hr.below hX).sh
    exact r16bytes _ _ _ _ _ _ _ _ _ _ hTb2 (Nat.le_refl _)
  · refine (jbufs (h.jv.below hX).tx).mono ?_
    rintro e Y ⟨rfl, rfl⟩
    exact ⟨ret_int (by rw [List.length_map, hST]), rfl⟩
  · exact (hX.cell (p := ⟨g, 0, none⟩) h.gu).trans hTb.cell
  · refine (kkeys_says (h.jv.below hX) h.sm (by omega)).mono ?_
    rintro e Y ⟨v, rfl, hown, hb⟩
    refine ⟨v, rfl, hb, ?_⟩
    obtain ⟨A2, c2, e2, hTb2, _⟩ := ((hr.below hX).below hb).sh
    refine (r16keys _ _ _ _ _ _ _ _ _ _ hTb2 (Nat.le_refl _)).mono ?_
    rintro e Z ⟨u, rfl, hown2, hb2⟩
    refine ⟨u, rfl, hb2, ?_⟩
    have e3 : T.length = (keysOf (tbE T)).length := by rw [keysOf_len, hTl]
    rw [e3] at hown2
    exact eq_rows (own_keptA (S := fun _ => False) (T := fun _ => False) (show Y.ownsRow X.heap.size 9 1 v (keysOf (tbE T)).length ((keysOf (tbE T)).map sk) from hown) (Kept.of_below hb2) (fun _ hf => hf.elim) (fun hf => hf)) hown2 (by omega)
end
end Go.Proofs.Ytghbliabmecbcaa
