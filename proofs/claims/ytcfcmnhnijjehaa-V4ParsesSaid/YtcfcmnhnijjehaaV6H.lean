/-
  Contract of v6.Quoted. Conditions are each theorem's own.
-/
import Derived.Test.YtcfcmnhnijjehaaV6G
namespace Go.Proofs.Ytcfcmnhnijjehaa
open Go.RowKit

theorem Made.later {W w1 w2 : World} {v : Value} {bs : List UInt8} (h : Made W w1 v bs) (hb : Below w1.heap.size w1 w2) : Made W w2 v bs := by
  obtain ⟨A, c, rfl, hl, hr, ho, hB⟩ := h
  exact Made.of_own (own_below ho hb) (hB.trans (hb.mono hB.size))
/-- copy of bytes into a part of a block of any cells. -/
theorem copy_cells {ops : Array Oper} {o : Oper} {a : Act} {w : World} {K : Act → World → Prop} {Q : Exit → Act → World → Prop} {E : Prop} (hgd : o.guard = none) (d s : Operand)
    (ho : o.op = .call { callee := .builtin .copy, args := #[d, s], argTypes := #[22, 22] }) (g off dLen dCap : Nat) (bs : List UInt8) (c B : Nat) (A : Option Addr) (hd : a.eval d = .slice (some ⟨g, off, none⟩) dLen dCap) (hs : a.eval s = .slice A bs.length c)
    (cur : List Value) (hg : w.heap[g]? = some (.cells cur.toArray 44 (0, 0))) (hn : bs.length ≤ dLen) (hr : Rd w B A bs) (hfit : off + bs.length ≤ cur.length)
    (w0 : World) (B0 : Nat) (hb : Below B0 w0 w) (hBg : B0 ≤ g)
    (h : ∀ w', Hid (w'.heap[g]? = some (.cells (splice cur off (row bs)).toArray 44 (0, 0))) → Below B0 w0 w' → K (a.put o.dst (goInt (row bs).length)) w') : if Region.wanted o (yielded ops a.tmps) = true then Oper.wp Try.prog o a w K Q else E :=
  step_copy_splice hgd d s 22 22 ho 5 Try.underlying22 size_u8 (some ⟨g, off, none⟩) A dLen dCap bs.length c hd hs g off cur 44 hg (row bs) (by rw [row_length]; exact (Nat.min_eq_left hn).symm)
    (fun hp => ⟨rfl, by
      rw [row_length] at hp
      obtain ⟨b, of, rfl, hbB, hc⟩ := hr hp
      exact ⟨_, rfl, fun j v hj => by
        have hj' : j < bs.length := by have := (List.getElem?_eq_some_iff.1 hj).1; rwa [row_length] at this
        rw [row_getD bs hj' hj, add_off]; exact hc j hj'⟩⟩) (by rw [row_length]; exact hfit) (row_one bs) B0 w0 hb hBg h
theorem v6a_one (q : P6) (A : Option Addr) (c : Nat) : (v6a q A c).all (·.oneCell') = true := by
  refine Array.all_eq_true_iff_forall_mem.2 fun v hv => ?_
  have hv' : v ∈ v6l q A c := by simpa [v6a] using hv
  simp only [v6l, List.mem_append, List.mem_cons, List.not_mem_nil, or_false] at hv'
  rcases hv' with (((h | h | h | h) | h) | h) | h
  · subst h; rfl
  · subst h; rfl
  · subst h; rfl
  · subst h; rfl
  · exact row_one _ v h
  · exact row_one _ v h
  · subst h; rfl
theorem v6_store {ops : Array Oper} {rest : List Oper} {x y : Operand} {ty : TypeId} {pos : String} {af : Array Edge} {a : Act} {w : World} {Q : Exit → Act → World → Prop}
    {g : Nat} {t : TypeId} {cs old : Array Value} (hx : a.eval x = .pointer (some ⟨g, 0, none⟩)) (hy : a.eval y = .agg cs) (hg : w.heap[g]? = some (.cells old t (0, 0))) (ho : old.size = 37) (hl : cs.size = 37) (h1 : cs.all (·.oneCell') = true)
    (h : wpList Try.prog ops Q rest (a.put none undef) (w.setRow g cs)) : wpList Try.prog ops Q (⟨none, .store 44 x y, ty, pos, af, none⟩ :: rest) a w :=
  wpList_plain rfl fun _ hK => wp_store_row 44 x y rfl g cs hx hy t old hg (by rw [hl]; kernel_rfl) (by rw [ho, hl]) h1 (hK _ _ h)
theorem v6_store_new {ops : Array Oper} {rest : List Oper} {x y : Operand} {ty : TypeId} {pos : String} {af : Array Edge} {a : Act} {w : World} {Q : Exit → Act → World → Prop}
    {t : TypeId} {cs old : Array Value} (hx : a.eval x = .pointer (some ⟨w.heap.size, 0, none⟩)) (hy : a.eval y = .agg cs) (ho : old.size = 37) (hl : cs.size = 37) (h1 : cs.all (·.oneCell') = true)
    (h : wpList Try.prog ops Q rest (a.put none undef) (w.alloc (.cells cs t))) : wpList Try.prog ops Q (⟨none, .store 44 x y, ty, pos, af, none⟩ :: rest) a (w.alloc (.cells old t)) :=
  v6_store hx hy (World.alloc_heap_new w _) ho hl h1 (by rw [World.setRow_alloc_new]; exact h)
theorem At6.of_heap {w : World} {g : Nat} {q : P6} {A : Option Addr} {c : Nat} {cs : List Value} (h : w.heap[g]? = some (.cells cs.toArray 44 (0, 0))) (hc : cs = v6l q A c) : At6 w g q A c := fun j v hj => by
  subst hc
  rw [cell_of_row w g (0 + j) _ _ (0, 0) h, Nat.zero_add, List.getElem?_toArray]; exact hj
theorem six_cells (q : P6) (A : Option Addr) (c : Nat) (ss dd : List UInt8) (hs : ss.length = 16) (hd : dd.length = 16) :
    splice (splice (v6l ⟨q.traffic, q.flow, q.next, q.hop, nul, nul, q.dat⟩ A c) 4 (row ss)) 20 (row dd) = v6l ⟨q.traffic, q.flow, q.next, q.hop, ss, dd, q.dat⟩ A c := by
  have e0 : (row nul).length = 16 := by rw [row_length]; rfl
  have es : (row ss).length = 16 := by rw [row_length, hs]
  have ed : (row dd).length = 16 := by rw [row_length, hd]
  simp only [v6l]
  rw [List.append_assoc, List.append_assoc, splice_mid4 _ _ _ 4 rfl, es, List.drop_append_of_le_length (by omega), List.drop_of_length_le (by omega), List.nil_append,
    splice_mid4 _ _ _ 20 (by simp [es]), ed, List.drop_append_of_le_length (by omega), List.drop_of_length_le (by omega), List.nil_append]
section
variable (b : List UInt8) (A : Option Addr) (c : Nat) (w : World)
set_option maxRecDepth 100000 in
set_option maxHeartbeats 1000000 in
theorem c6quoted (B : Nat) (hR : Arg w B A c b) (hB : B ≤ w.heap.size) (hl : b.length ≤ 1000000) :
    Calls Try.prog 43 #[.slice A b.length c] w fun e w' => ∃ P p, e = .returned (.tuple #[v6v (prs6 b true) P p, .int .i64 (bad6 b true)]) ∧ Made w w' (.slice P (prs6 b true).dat.length p) (prs6 b true).dat := by
  have hOR0 := OwnR.new w (v6a p6z none 0) 44
  have hg0 := World.alloc_heap_new w (.cells (v6a p6z none 0) 44)
  have hcap := hR.cap
  go_enter Try.func43, Try.ntmps43
  go_upto_region 1 with fail
  have hOR : OwnR w 44 37 (w.alloc (.cells #[.int .i64 0, .int .i64 0, .int .i64 0, .int .i64 0, .int .u8 0, .int .u8 0, .int .u8 0, .int .u8 0, .int .u8 0, .int .u8 0, .int .u8 0, .int .u8 0, .int .u8 0, .int .u8 0, .int .u8 0, .int .u8 0, .int .u8 0, .int .u8 0, .int .u8 0, .int .u8 0, .int .u8 0, .int .u8 0, .int .u8 0, .int .u8 0, .int .u8 0, .int .u8 0, .int .u8 0, .int .u8 0, .int .u8 0, .int .u8 0, .int .u8 0, .int .u8 0, .int .u8 0, .int .u8 0, .int .u8 0, .int .u8 0, .slice none 0 0] 44)) := hOR0
  have hg : (w.alloc (.cells #[.int .i64 0, .int .i64 0, .int .i64 0, .int .i64 0, .int .u8 0, .int .u8 0, .int .u8 0, .int .u8 0, .int .u8 0, .int .u8 0, .int .u8 0, .int .u8 0, .int .u8 0, .int .u8 0, .int .u8 0, .int .u8 0, .int .u8 0, .int .u8 0, .int .u8 0, .int .u8 0, .int .u8 0, .int .u8 0, .int .u8 0, .int .u8 0, .int .u8 0, .int .u8 0, .int .u8 0, .int .u8 0, .int .u8 0, .int .u8 0, .int .u8 0, .int .u8 0, .int .u8 0, .int .u8 0, .int .u8 0, .int .u8 0, .slice none 0 0] 44)).heap[w.heap.size]? = some (.cells (v6a p6z none 0) 44 (0, 0)) := hg0
  clear hOR0 hg0
  generalize w.alloc (.cells #[.int .i64 0, .int .i64 0, .int .i64 0, .int .i64 0, .int .u8 0, .int .u8 0, .int .u8 0, .int .u8 0, .int .u8 0, .int .u8 0, .int .u8 0, .int .u8 0, .int .u8 0, .int .u8 0, .int .u8 0, .int .u8 0, .int .u8 0, .int .u8 0, .int .u8 0, .int .u8 0, .int .u8 0, .int .u8 0, .int .u8 0, .int .u8 0, .int .u8 0, .int .u8 0, .int .u8 0, .int .u8 0, .int .u8 0, .int .u8 0, .int .u8 0, .int .u8 0, .int .u8 0, .int .u8 0, .int .u8 0, .int .u8 0, .slice none 0 0] 44) = W at *
  by_cases h40 : b.length < 40
  · have hd40 : decide ((b.length : Int) < 40) = true := by simp; omega
    have HB := Lib.hid (show bad6 b true = 3 by rw [bad6, if_pos h40])
    have HE2 := HB
    have HE1 := Lib.hid (show prs6 b true = p6z by rw [prs6, if_neg (by rw [HB.out]; decide)])
    go_wp2_with (first | ((with_reducible show wpList _ _ _ (Oper.mk _ (Op.store _ _ _) _ _ _ _ :: _) _ _); refine v6_store (g := w.heap.size) (cs := v6a p6z none 0) rfl rfl hg rfl rfl (v6a_one _ _ _) ?_))
    exact bodyPost_ret (res2 rfl rfl (run_loadVar_row _ _ _ 44 (v6a p6z none 0) _ _ (setRow_heap _ _ _ _ _ _ hg) Try.underlying44 rfl (by kernel_rfl))) rfl ⟨none, 0, by rw [HE1.out, HE2.out]; rfl, by rw [HE1.out]; exact Made.nil _ _ (below_row hOR.b (Nat.le_refl _))⟩
    
  · have hd40 : decide ((b.length : Int) < 40) = false := by simp; omega
    have G0 := Lib.hid (get_four (b := b) (i := 0) (by omega))
    obtain ⟨N, hN⟩ : ∃ N, N = n4 b 0 := ⟨_, rfl⟩
    have hNb := n4_bd b 0
    rw [← hN] at G0 hNb
    have b0 := byt_lo b 0; have b0' := byt_hi b 0; have b1 := byt_lo b 1; have b1' := byt_hi b 1; have b2 := byt_lo b 2; have b2' := byt_hi b 2; have b3 := byt_lo b 3; have b3' := byt_hi b 3
    have HN := Lib.hid (show N = ((byt b 0 * 256 + byt b 1) * 256 + byt b 2) * 256 + byt b 3 from hN)
    clear hN
    go_upto_region 4 with (go_at_call 67; refine (get6_any A b c B _ _ _ (hR.below (hOR.b.mono hB)).rd (by omega) hR.cap).mono ?_; rintro e w' ⟨rfl, rfl⟩; rw [show getV b 0 4 = N from G0.out])
    have G6 := Lib.hid (get_one (b := b) (i := 6) (by omega))
    have G7 := Lib.hid (get_one (b := b) (i := 7) (by omega))
    have G4 := Lib.hid (get_two (b := b) (i := 4) (by omega))
    by_cases h6 : byt b 0 / 16 = 6
    · have e28 : N / 268435456 = 6 := by have := HN.out; omega
      have d28 : (N / 268435456 != 6) = false := by simp [e28]
      have n4b := n2_bd b 4
      obtain ⟨D, hD⟩ : ∃ D, D = (b.take (end6 b)).drop 40 := ⟨_, rfl⟩
      obtain ⟨SS, hSS⟩ : ∃ D, D = (b.take 24).drop 8 := ⟨_, rfl⟩
      obtain ⟨DD, hDD⟩ : ∃ D, D = (b.take 40).drop 24 := ⟨_, rfl⟩
      have HSl := Lib.hid (show SS.length = 16 by rw [hSS]; simp; omega)
      have HDl := Lib.hid (show DD.length = 16 by rw [hDD]; simp; omega)
      have he6 : end6 b ≤ b.length := by unfold end6; omega
      have HLl := Lib.hid (show D.length = end6 b - 40 by rw [hD]; simp; omega)
      have hS8 : Arg w B (cutA A c 8) (c - 8) SS := by rw [hSS]; exact hR.cut 8 24 (by omega)
      have hD8 : Arg w B (cutA A c 24) (c - 24) DD := by rw [hDD]; exact hR.cut 24 40 (by omega)
      have hA8 : Arg w B (cutA A c 40) (c - 40) D := by rw [hD]; exact hR.cut 40 (end6 b) he6
      have HQ := Lib.hid (show raw6 b = ⟨N / 1048576 % 256, N % 1048576, byt b 6, byt b 7, SS, DD, D⟩ by
        rw [raw6, ← hD, hSS, hDD, List.drop_take, List.drop_take]
        have e := HN.out
        congr 1 <;> omega)
      have HB := Lib.hid (show bad6 b true = 0 by rw [bad6, if_neg h40, if_neg (by omega), if_neg (by simp)])
      have HE1 := Lib.hid (show prs6 b true = raw6 b by rw [prs6, if_pos HB.out])
      have HE6 := Lib.hid (show end6 b = 40 + min (n2 b 4).toNat (b.length - 40) from rfl)
      clear hD hSS hDD he6
      have hlt := hOR.lt
      have hM0 : ∀ h : Int, 0 ≤ h → Hid (h = (end6 b : Int)) → D.length = h.toNat - (40 : Int).toNat := fun h h0 hh => by
        have := hh.out; have := HLl.out; rw [this]; omega
      have HMx := Lib.hid hM0
      clear hM0
      rcases Int.lt_or_le (40 + n2 b 4) (b.length : Int) with hmn | hmn
      · have HM := Lib.hid (show (40 + n2 b 4) = (end6 b : Int) by have := HE6.out; omega)
        have HML := Lib.hid (HMx.out _ (by omega) HM)
        go_upto_region 7 with (first
          | (go_at_call 67; ((with_reducible refine (get6_any A b c B 6 1 _ (hR.below (hOR.b.mono hB)).rd (by omega) hR.cap).mono ?_); rintro e w' ⟨rfl, rfl⟩; rw [show getV b 6 1 = byt b 6 from G6.out]))
          | (go_at_call 67; ((with_reducible refine (get6_any A b c B 7 1 _ (hR.below (hOR.b.mono hB)).rd (by omega) hR.cap).mono ?_); rintro e w' ⟨rfl, rfl⟩; rw [show getV b 7 1 = byt b 7 from G7.out]))
          | (go_at_call 67; ((with_reducible refine (get6_any A b c B 4 2 _ (hR.below (hOR.b.mono hB)).rd (by omega) hR.cap).mono ?_); rintro e w' ⟨rfl, rfl⟩; rw [show getV b 4 2 = n2 b 4 from G4.out]))
          | ((with_reducible show wpList _ _ _ (Oper.mk _ (Op.slice _ _ _ _ _) _ _ _ _ :: _) _ _); (refine wpList_val rfl (run_cut_lh rfl rfl rfl rfl (l := 40) (h := (40 + n2 b 4)) (by omega) (by omega) (by omega) HML.out) ?_))
          | (go_at_call 69; (refine (fresh_any (cutA A c 40) D (c - 40) B _ (hA8.below (hOR.b.mono hB)) (by have := HLl.out; have := HM.out; omega)).mono ?_); rintro e w1 ⟨v1, rfl, m1⟩; obtain ⟨P, p, rfl, ga, oa, xa⟩ := made_shape m1)
          | ((with_reducible show wpList _ _ _ (Oper.mk _ (Op.store _ _ _) _ _ _ _ :: _) _ _); refine v6_store_new (cs := v6a ⟨N / 1048576 % 256, N % 1048576, byt b 6, byt b 7, nul, nul, D⟩ P p) rfl rfl rfl rfl (v6a_one _ _ _) ?_))
        have hz5 := World.alloc_heap_new w1 (.cells (v6a ⟨N / 1048576 % 256, N % 1048576, byt b 6, byt b 7, nul, nul, D⟩ P p) 44)
        have hOR5 : OwnR w 44 37 (w1.alloc (.cells (v6a ⟨N / 1048576 % 256, N % 1048576, byt b 6, byt b 7, nul, nul, D⟩ P p) 44)) := (hOR.step xa).alloc _
        have x15 : Below w1.heap.size w1 (w1.alloc (.cells (v6a ⟨N / 1048576 % 256, N % 1048576, byt b 6, byt b 7, nul, nul, D⟩ P p) 44)) := (Below.refl _ w1).alloc (Nat.le_refl _) _
        obtain ⟨Z0, hZ0⟩ : ∃ Z, Z = v6l ⟨N / 1048576 % 256, N % 1048576, byt b 6, byt b 7, nul, nul, D⟩ P p := ⟨_, rfl⟩
        have HZ0 := Lib.hid (show Z0.length = 37 by rw [hZ0]; exact v6l_len rfl rfl)
        have HG0 := Lib.hid (show (w1.alloc (.cells (v6a ⟨N / 1048576 % 256, N % 1048576, byt b 6, byt b 7, nul, nul, D⟩ P p) 44)).heap[w1.heap.size]? = some (.cells Z0.toArray 44 (0, 0)) by rw [hZ0]; exact hz5)
        have HZC := Lib.hid (show splice (splice Z0 4 (row SS)) 20 (row DD) = v6l ⟨N / 1048576 % 256, N % 1048576, byt b 6, byt b 7, SS, DD, D⟩ P p by rw [hZ0]; exact six_cells ⟨N / 1048576 % 256, N % 1048576, byt b 6, byt b 7, nul, nul, D⟩ P p SS DD HSl.out HDl.out)
        have qz := hOR5.b
        have qz1 : w.heap.size ≤ w1.heap.size := (hOR.step xa).b.size
        have qz2 : w.heap.size < w1.heap.size := (hOR.step xa).lt
        clear hz5 hZ0
        generalize w1.alloc (.cells (v6a ⟨N / 1048576 % 256, N % 1048576, byt b 6, byt b 7, nul, nul, D⟩ P p) 44) = W5 at *
        refine wp_region_held_drew (S := fun w' => Below w1.heap.size W5 w') (by kernel_rfl) (show Below w1.heap.size W5 W5.drew from ⟨rfl, rfl, rfl, Nat.le_refl _, fun _ _ => rfl⟩) (fun hS => ?_)
        refine held_pure (i := 0) (oi := ⟨some 35, _, _, _, _, _⟩) rfl (by kernel_rfl) (by kernel_rfl) (by kernel_rfl) (fun _ _ _ h => h) (by rfl) (v := ?_) (fun w hSw => ?_) hS (fun hS => ?_)
        rotate_left
        · go_simp; try with_reducible rfl
        try go_frame
        refine held_pure (i := 1) (oi := ⟨some 36, _, _, _, _, _⟩) rfl (by kernel_rfl) (by kernel_rfl) (by kernel_rfl) (fun _ _ _ h => h) (by rfl) (fun w hSw => run_slice_six rfl rfl) hS (fun hS => ?_)
        try go_frame
        refine held_pure (i := 2) (oi := ⟨some 37, _, _, _, _, _⟩) rfl (by kernel_rfl) (by kernel_rfl) (by kernel_rfl) (fun _ _ _ h => h) (by rfl) (v := ?_) (fun w hSw => ?_) hS (fun hS => ?_)
        rotate_left
        · go_simp; try with_reducible rfl
        try go_frame
        refine held_pure (i := 3) (oi := ⟨some 38, _, _, _, _, _⟩) rfl (by kernel_rfl) (by kernel_rfl) (by kernel_rfl) (fun _ _ _ h => h) (by rfl) (fun w hSw => run_cut_lh rfl rfl rfl rfl (l := 8) (h := 24) (by omega) (by omega) (by omega) (m := 16) rfl) hS (fun hS => ?_)
        try go_frame
        refine wpAnyH_ready (rs := [4]) (by kernel_rfl) (by simp) (AllReadyH.cons (o := ⟨some 39, _, _, _, _, _⟩) rfl (fun K hK => ?_) AllReadyH.nil)
        refine copy_cells rfl _ _ rfl w1.heap.size 4 16 _ SS _ B _ rfl (by rw [HSl.out]; rfl) Z0 HG0.out (by rw [HSl.out]; decide) (hS8.rd.below ((qz.trans (hS.mono qz1)).mono hB)) (by rw [HSl.out, HZ0.out]; decide) W5 w1.heap.size hS (Nat.le_refl _) ?_
        intro w7 HG7 hB7
        refine hK.out _ _ hB7 (fun hS => ?_)
        clear hK K
        try go_frame
        refine wpAnyH_done (by kernel_rfl) ?_ _
        go_wp2_with fail
        obtain ⟨Z7, hZ7⟩ : ∃ Z, Z = splice Z0 4 (row SS) := ⟨_, rfl⟩
        have HZ7 := Lib.hid (show Z7.length = 37 by rw [hZ7, length_splice _ _ _ (by rw [row_length, HSl.out, HZ0.out]; decide), HZ0.out])
        rw [← hZ7] at HG7 HZC
        clear hZ7
        refine wp_region_held_drew (S := fun w' => Below w1.heap.size W5 w') (by kernel_rfl) hB7.drew (fun hS => ?_)
        refine held_pure (i := 0) (oi := ⟨some 40, _, _, _, _, _⟩) rfl (by kernel_rfl) (by kernel_rfl) (by kernel_rfl) (fun _ _ _ h => h) (by rfl) (v := ?_) (fun w hSw => ?_) hS (fun hS => ?_)
        rotate_left
        · go_simp; try with_reducible rfl
        try go_frame
        refine held_pure (i := 1) (oi := ⟨some 41, _, _, _, _, _⟩) rfl (by kernel_rfl) (by kernel_rfl) (by kernel_rfl) (fun _ _ _ h => h) (by rfl) (fun w hSw => run_slice_six rfl rfl) hS (fun hS => ?_)
        try go_frame
        refine held_pure (i := 2) (oi := ⟨some 42, _, _, _, _, _⟩) rfl (by kernel_rfl) (by kernel_rfl) (by kernel_rfl) (fun _ _ _ h => h) (by rfl) (v := ?_) (fun w hSw => ?_) hS (fun hS => ?_)
        rotate_left
        · go_simp; try with_reducible rfl
        try go_frame
        refine held_pure (i := 3) (oi := ⟨some 43, _, _, _, _, _⟩) rfl (by kernel_rfl) (by kernel_rfl) (by kernel_rfl) (fun _ _ _ h => h) (by rfl) (fun w hSw => run_cut_lh rfl rfl rfl rfl (l := 24) (h := 40) (by omega) (by omega) (by omega) (m := 16) rfl) hS (fun hS => ?_)
        try go_frame
        refine wpAnyH_ready (rs := [4]) (by kernel_rfl) (by simp) (AllReadyH.cons (o := ⟨some 44, _, _, _, _, _⟩) rfl (fun K hK => ?_) AllReadyH.nil)
        refine copy_cells rfl _ _ rfl w1.heap.size 20 16 _ DD _ B _ rfl (by rw [HDl.out]; rfl) Z7 HG7.out (by rw [HDl.out]; decide) (hD8.rd.below ((qz.trans (hS.mono qz1)).mono hB)) (by rw [HDl.out, HZ7.out]; decide) W5 w1.heap.size hS (Nat.le_refl _) ?_
        intro w8 HG8 hB8
        refine hK.out _ _ hB8 (fun hS => ?_)
        clear hK K
        try go_frame
        refine wpAnyH_done (by kernel_rfl) ?_ _
        have hAt8 := At6.of_heap HG8.out HZC.out
        obtain ⟨old, hold, hgo⟩ := hOR5.2
        have hgo8 := (hB8.block w.heap.size qz2).trans hgo
        go_wp2_with (first
          | ((with_reducible show wpList _ _ _ (Oper.mk _ (Op.load _ _) _ _ _ _ :: _) _ _); refine wpList_val rfl (run_load_v6 rfl rfl hAt8 (v6l_len HSl.out HDl.out)) ?_)
          | ((with_reducible show wpList _ _ _ (Oper.mk _ (Op.store _ _ _) _ _ _ _ :: _) _ _); refine v6_store (g := w.heap.size) (cs := v6a ⟨N / 1048576 % 256, N % 1048576, byt b 6, byt b 7, SS, DD, D⟩ P p) rfl rfl hgo8 hold (by rw [v6a, List.size_toArray]; exact v6l_len HSl.out HDl.out) (v6a_one _ _ _) ?_))
        exact bodyPost_ret (res2 rfl rfl (run_loadVar_row _ _ _ 44 (v6a ⟨N / 1048576 % 256, N % 1048576, byt b 6, byt b 7, SS, DD, D⟩ P p) _ _ (setRow_heap _ _ _ _ _ _ hgo8) Try.underlying44 rfl (by rw [v6a, List.size_toArray, v6l_len HSl.out HDl.out]; kernel_rfl))) rfl ⟨P, p, by rw [HE1.out, HB.out, HQ.out]; rfl, by rw [HE1.out, HQ.out]; exact (m1.later (x15.trans hB8)).row hOR.b hlt⟩
      · have HM := Lib.hid (show (b.length : Int) = (end6 b : Int) by have := HE6.out; omega)
        have HML := Lib.hid (HMx.out _ (by omega) HM)
        go_upto_region 7 with (first
          | (go_at_call 67; ((with_reducible refine (get6_any A b c B 6 1 _ (hR.below (hOR.b.mono hB)).rd (by omega) hR.cap).mono ?_); rintro e w' ⟨rfl, rfl⟩; rw [show getV b 6 1 = byt b 6 from G6.out]))
          | (go_at_call 67; ((with_reducible refine (get6_any A b c B 7 1 _ (hR.below (hOR.b.mono hB)).rd (by omega) hR.cap).mono ?_); rintro e w' ⟨rfl, rfl⟩; rw [show getV b 7 1 = byt b 7 from G7.out]))
          | (go_at_call 67; ((with_reducible refine (get6_any A b c B 4 2 _ (hR.below (hOR.b.mono hB)).rd (by omega) hR.cap).mono ?_); rintro e w' ⟨rfl, rfl⟩; rw [show getV b 4 2 = n2 b 4 from G4.out]))
          | ((with_reducible show wpList _ _ _ (Oper.mk _ (Op.slice _ _ _ _ _) _ _ _ _ :: _) _ _); (refine wpList_val rfl (run_cut_lh rfl rfl rfl rfl (l := 40) (h := (b.length : Int)) (by omega) (by omega) (by omega) HML.out) ?_))
          | (go_at_call 69; (refine (fresh_any (cutA A c 40) D (c - 40) B _ (hA8.below (hOR.b.mono hB)) (by have := HLl.out; have := HM.out; omega)).mono ?_); rintro e w1 ⟨v1, rfl, m1⟩; obtain ⟨P, p, rfl, ga, oa, xa⟩ := made_shape m1)
          | ((with_reducible show wpList _ _ _ (Oper.mk _ (Op.store _ _ _) _ _ _ _ :: _) _ _); refine v6_store_new (cs := v6a ⟨N / 1048576 % 256, N % 1048576, byt b 6, byt b 7, nul, nul, D⟩ P p) rfl rfl rfl rfl (v6a_one _ _ _) ?_))
        have hz5 := World.alloc_heap_new w1 (.cells (v6a ⟨N / 1048576 % 256, N % 1048576, byt b 6, byt b 7, nul, nul, D⟩ P p) 44)
        have hOR5 : OwnR w 44 37 (w1.alloc (.cells (v6a ⟨N / 1048576 % 256, N % 1048576, byt b 6, byt b 7, nul, nul, D⟩ P p) 44)) := (hOR.step xa).alloc _
        have x15 : Below w1.heap.size w1 (w1.alloc (.cells (v6a ⟨N / 1048576 % 256, N % 1048576, byt b 6, byt b 7, nul, nul, D⟩ P p) 44)) := (Below.refl _ w1).alloc (Nat.le_refl _) _
        obtain ⟨Z0, hZ0⟩ : ∃ Z, Z = v6l ⟨N / 1048576 % 256, N % 1048576, byt b 6, byt b 7, nul, nul, D⟩ P p := ⟨_, rfl⟩
        have HZ0 := Lib.hid (show Z0.length = 37 by rw [hZ0]; exact v6l_len rfl rfl)
        have HG0 := Lib.hid (show (w1.alloc (.cells (v6a ⟨N / 1048576 % 256, N % 1048576, byt b 6, byt b 7, nul, nul, D⟩ P p) 44)).heap[w1.heap.size]? = some (.cells Z0.toArray 44 (0, 0)) by rw [hZ0]; exact hz5)
        have HZC := Lib.hid (show splice (splice Z0 4 (row SS)) 20 (row DD) = v6l ⟨N / 1048576 % 256, N % 1048576, byt b 6, byt b 7, SS, DD, D⟩ P p by rw [hZ0]; exact six_cells ⟨N / 1048576 % 256, N % 1048576, byt b 6, byt b 7, nul, nul, D⟩ P p SS DD HSl.out HDl.out)
        have qz := hOR5.b
        have qz1 : w.heap.size ≤ w1.heap.size := (hOR.step xa).b.size
        have qz2 : w.heap.size < w1.heap.size := (hOR.step xa).lt
        clear hz5 hZ0
        generalize w1.alloc (.cells (v6a ⟨N / 1048576 % 256, N % 1048576, byt b 6, byt b 7, nul, nul, D⟩ P p) 44) = W5 at *
        refine wp_region_held_drew (S := fun w' => Below w1.heap.size W5 w') (by kernel_rfl) (show Below w1.heap.size W5 W5.drew from ⟨rfl, rfl, rfl, Nat.le_refl _, fun _ _ => rfl⟩) (fun hS => ?_)
        refine held_pure (i := 0) (oi := ⟨some 35, _, _, _, _, _⟩) rfl (by kernel_rfl) (by kernel_rfl) (by kernel_rfl) (fun _ _ _ h => h) (by rfl) (v := ?_) (fun w hSw => ?_) hS (fun hS => ?_)
        rotate_left
        · go_simp; try with_reducible rfl
        try go_frame
        refine held_pure (i := 1) (oi := ⟨some 36, _, _, _, _, _⟩) rfl (by kernel_rfl) (by kernel_rfl) (by kernel_rfl) (fun _ _ _ h => h) (by rfl) (fun w hSw => run_slice_six rfl rfl) hS (fun hS => ?_)
        try go_frame
        refine held_pure (i := 2) (oi := ⟨some 37, _, _, _, _, _⟩) rfl (by kernel_rfl) (by kernel_rfl) (by kernel_rfl) (fun _ _ _ h => h) (by rfl) (v := ?_) (fun w hSw => ?_) hS (fun hS => ?_)
        rotate_left
        · go_simp; try with_reducible rfl
        try go_frame
        refine held_pure (i := 3) (oi := ⟨some 38, _, _, _, _, _⟩) rfl (by kernel_rfl) (by kernel_rfl) (by kernel_rfl) (fun _ _ _ h => h) (by rfl) (fun w hSw => run_cut_lh rfl rfl rfl rfl (l := 8) (h := 24) (by omega) (by omega) (by omega) (m := 16) rfl) hS (fun hS => ?_)
        try go_frame
        refine wpAnyH_ready (rs := [4]) (by kernel_rfl) (by simp) (AllReadyH.cons (o := ⟨some 39, _, _, _, _, _⟩) rfl (fun K hK => ?_) AllReadyH.nil)
        refine copy_cells rfl _ _ rfl w1.heap.size 4 16 _ SS _ B _ rfl (by rw [HSl.out]; rfl) Z0 HG0.out (by rw [HSl.out]; decide) (hS8.rd.below ((qz.trans (hS.mono qz1)).mono hB)) (by rw [HSl.out, HZ0.out]; decide) W5 w1.heap.size hS (Nat.le_refl _) ?_
        intro w7 HG7 hB7
        refine hK.out _ _ hB7 (fun hS => ?_)
        clear hK K
        try go_frame
        refine wpAnyH_done (by kernel_rfl) ?_ _
        go_wp2_with fail
        obtain ⟨Z7, hZ7⟩ : ∃ Z, Z = splice Z0 4 (row SS) := ⟨_, rfl⟩
        have HZ7 := Lib.hid (show Z7.length = 37 by rw [hZ7, length_splice _ _ _ (by rw [row_length, HSl.out, HZ0.out]; decide), HZ0.out])
        rw [← hZ7] at HG7 HZC
        clear hZ7
        refine wp_region_held_drew (S := fun w' => Below w1.heap.size W5 w') (by kernel_rfl) hB7.drew (fun hS => ?_)
        refine held_pure (i := 0) (oi := ⟨some 40, _, _, _, _, _⟩) rfl (by kernel_rfl) (by kernel_rfl) (by kernel_rfl) (fun _ _ _ h => h) (by rfl) (v := ?_) (fun w hSw => ?_) hS (fun hS => ?_)
        rotate_left
        · go_simp; try with_reducible rfl
        try go_frame
        refine held_pure (i := 1) (oi := ⟨some 41, _, _, _, _, _⟩) rfl (by kernel_rfl) (by kernel_rfl) (by kernel_rfl) (fun _ _ _ h => h) (by rfl) (fun w hSw => run_slice_six rfl rfl) hS (fun hS => ?_)
        try go_frame
        refine held_pure (i := 2) (oi := ⟨some 42, _, _, _, _, _⟩) rfl (by kernel_rfl) (by kernel_rfl) (by kernel_rfl) (fun _ _ _ h => h) (by rfl) (v := ?_) (fun w hSw => ?_) hS (fun hS => ?_)
        rotate_left
        · go_simp; try with_reducible rfl
        try go_frame
        refine held_pure (i := 3) (oi := ⟨some 43, _, _, _, _, _⟩) rfl (by kernel_rfl) (by kernel_rfl) (by kernel_rfl) (fun _ _ _ h => h) (by rfl) (fun w hSw => run_cut_lh rfl rfl rfl rfl (l := 24) (h := 40) (by omega) (by omega) (by omega) (m := 16) rfl) hS (fun hS => ?_)
        try go_frame
        refine wpAnyH_ready (rs := [4]) (by kernel_rfl) (by simp) (AllReadyH.cons (o := ⟨some 44, _, _, _, _, _⟩) rfl (fun K hK => ?_) AllReadyH.nil)
        refine copy_cells rfl _ _ rfl w1.heap.size 20 16 _ DD _ B _ rfl (by rw [HDl.out]; rfl) Z7 HG7.out (by rw [HDl.out]; decide) (hD8.rd.below ((qz.trans (hS.mono qz1)).mono hB)) (by rw [HDl.out, HZ7.out]; decide) W5 w1.heap.size hS (Nat.le_refl _) ?_
        intro w8 HG8 hB8
        refine hK.out _ _ hB8 (fun hS => ?_)
        clear hK K
        try go_frame
        refine wpAnyH_done (by kernel_rfl) ?_ _
        have hAt8 := At6.of_heap HG8.out HZC.out
        obtain ⟨old, hold, hgo⟩ := hOR5.2
        have hgo8 := (hB8.block w.heap.size qz2).trans hgo
        go_wp2_with (first
          | ((with_reducible show wpList _ _ _ (Oper.mk _ (Op.load _ _) _ _ _ _ :: _) _ _); refine wpList_val rfl (run_load_v6 rfl rfl hAt8 (v6l_len HSl.out HDl.out)) ?_)
          | ((with_reducible show wpList _ _ _ (Oper.mk _ (Op.store _ _ _) _ _ _ _ :: _) _ _); refine v6_store (g := w.heap.size) (cs := v6a ⟨N / 1048576 % 256, N % 1048576, byt b 6, byt b 7, SS, DD, D⟩ P p) rfl rfl hgo8 hold (by rw [v6a, List.size_toArray]; exact v6l_len HSl.out HDl.out) (v6a_one _ _ _) ?_))
        exact bodyPost_ret (res2 rfl rfl (run_loadVar_row _ _ _ 44 (v6a ⟨N / 1048576 % 256, N % 1048576, byt b 6, byt b 7, SS, DD, D⟩ P p) _ _ (setRow_heap _ _ _ _ _ _ hgo8) Try.underlying44 rfl (by rw [v6a, List.size_toArray, v6l_len HSl.out HDl.out]; kernel_rfl))) rfl ⟨P, p, by rw [HE1.out, HB.out, HQ.out]; rfl, by rw [HE1.out, HQ.out]; exact (m1.later (x15.trans hB8)).row hOR.b hlt⟩
    · have e28 : ¬ N / 268435456 = 6 := by have := HN.out; omega
      have d28 : (N / 268435456 != 6) = true := by simpa using e28
      have HB := Lib.hid (show bad6 b true = 4 by rw [bad6, if_neg h40, if_pos h6])
      have HE2 := HB
      have HE1 := Lib.hid (show prs6 b true = p6z by rw [prs6, if_neg (by rw [HB.out]; decide)])
      clear e28 h6
      go_wp2_with (first | ((with_reducible show wpList _ _ _ (Oper.mk _ (Op.store _ _ _) _ _ _ _ :: _) _ _); refine v6_store (g := w.heap.size) (cs := v6a p6z none 0) rfl rfl hg rfl rfl (v6a_one _ _ _) ?_))
      exact bodyPost_ret (res2 rfl rfl (run_loadVar_row _ _ _ 44 (v6a p6z none 0) _ _ (setRow_heap _ _ _ _ _ _ hg) Try.underlying44 rfl (by kernel_rfl))) rfl ⟨none, 0, by rw [HE1.out, HE2.out]; rfl, by rw [HE1.out]; exact Made.nil _ _ (below_row hOR.b (Nat.le_refl _))⟩
      
end
end Go.Proofs.Ytcfcmnhnijjehaa
