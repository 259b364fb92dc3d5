/-
  Contracts and lemmas on which the proofs of this seat stand (several texts in one). Conditions are each theorem's own.
-/
import Derived.Test.YtpoigngpdcmipaaGreatMb6
import Derived.Test.YtpoigngpdcmipaaGreatMb3
import Derived.Test.YtpoigngpdcmipaaGreatMb2
import Derived.Test.YtpoigngpdcmipaaGreatMb5
namespace Go.Proofs.YtpoigngpdcmipaaGreat
open Go.RowKit
theorem Made.later {W w1 w2 : World} {v : Value} {bs : List UInt8} (h : Made W w1 v bs) (hb : Below w1.heap.size w1 w2) : Made W w2 v bs := by
  obtain ⟨A, c, rfl, hl, hr, ho, hB⟩ := h
  exact Made.of_own (own_below ho hb) (hB.trans (hb.mono hB.size))
theorem copy_cells {ops : Array Oper} {o : Oper} {a : Act} {w : World} {K : Act → World → Prop} {Q : Exit → Act → World → Prop} {E : Prop} (hgd : o.guard = none) (d s : Operand)
    (ho : o.op = .call { callee := .builtin .copy, args := #[d, s], argTypes := #[22, 22] }) (g off dLen dCap : Nat) (bs : List UInt8) (c B : Nat) (A : Option Addr) (hd : a.eval d = .slice (some ⟨g, off, none⟩) dLen dCap) (hs : a.eval s = .slice A bs.length c)
    (cur : List Value) (hg : w.heap[g]? = some (.cells cur.toArray 38 (0, 0))) (hn : bs.length ≤ dLen) (hr : Rd w B A bs) (hfit : off + bs.length ≤ cur.length)
    (w0 : World) (B0 : Nat) (hb : Below B0 w0 w) (hBg : B0 ≤ g)
    (h : ∀ w', Hid (w'.heap[g]? = some (.cells (splice cur off (row bs)).toArray 38 (0, 0))) → Below B0 w0 w' → K (a.put o.dst (goInt (row bs).length)) w') : if Region.wanted o (yielded ops a.tmps) = true then Oper.wp Tryz.prog o a w K Q else E :=
  step_copy_splice hgd d s 22 22 ho 5 Tryz.underlying22 size_u8 (some ⟨g, off, none⟩) A dLen dCap bs.length c hd hs g off cur 38 hg (row bs) (by rw [row_length]; exact (Nat.min_eq_left hn).symm)
    (fun hp => ⟨rfl, by
      rw [row_length] at hp
      obtain ⟨b, of, rfl, hbB, hc⟩ := hr hp
      exact ⟨_, rfl, fun j v hj => by
        have hj' : j < bs.length := by have := (List.getElem?_eq_some_iff.1 hj).1; rwa [row_length] at this
        rw [row_getD bs hj' hj, add_off]; exact hc j hj'⟩⟩) (by rw [row_length]; exact hfit) (row_one bs) B0 w0 hb hBg h
theorem v6a_one (q : P6) (A : Option Addr) (c : Nat) : (v6a q A c).all (·.oneCell') = true := by
  refine Array.all_eq_true_iff_forall_mem.2 fun v hv => ?_
  have hv' : v ∈ v6l q A c := by simpa [v6a] using hv
  simp only [v6l, List.mem_append, List.mem_cons, List.not_mem_nil, or_false] at hv'
  rcases hv' with (((h | h | h | h) | h) | h) | h
  · subst h; rfl
  · subst h; rfl
  · subst h; rfl
  · subst h; rfl
  · exact row_one _ v h
  · exact row_one _ v h
  · subst h; rfl
theorem v6_store {ops : Array Oper} {rest : List Oper} {x y : Operand} {ty : TypeId} {pos : String} {af : Array Edge} {a : Act} {w : World} {Q : Exit → Act → World → Prop}
    {g : Nat} {t : TypeId} {cs old : Array Value} (hx : a.eval x = .pointer (some ⟨g, 0, none⟩)) (hy : a.eval y = .agg cs) (hg : w.heap[g]? = some (.cells old t (0, 0))) (ho : old.size = 37) (hl : cs.size = 37) (h1 : cs.all (·.oneCell') = true)
    (h : wpList Tryz.prog ops Q rest (a.put none undef) (w.setRow g cs)) : wpList Tryz.prog ops Q (⟨none, .store 38 x y, ty, pos, af, none⟩ :: rest) a w :=
  wpList_plain rfl fun _ hK => wp_store_row 38 x y rfl g cs hx hy t old hg (by rw [hl]; kernel_rfl) (by rw [ho, hl]) h1 (hK _ _ h)
theorem v6_store_new {ops : Array Oper} {rest : List Oper} {x y : Operand} {ty : TypeId} {pos : String} {af : Array Edge} {a : Act} {w : World} {Q : Exit → Act → World → Prop}
    {t : TypeId} {cs old : Array Value} (hx : a.eval x = .pointer (some ⟨w.heap.size, 0, none⟩)) (hy : a.eval y = .agg cs) (ho : old.size = 37) (hl : cs.size = 37) (h1 : cs.all (·.oneCell') = true)
    (h : wpList Tryz.prog ops Q rest (a.put none undef) (w.alloc (.cells cs t))) : wpList Tryz.prog ops Q (⟨none, .store 38 x y, ty, pos, af, none⟩ :: rest) a (w.alloc (.cells old t)) :=
  v6_store hx hy (World.alloc_heap_new w _) ho hl h1 (by rw [World.setRow_alloc_new]; exact h)
theorem At6.of_heap {w : World} {g : Nat} {q : P6} {A : Option Addr} {c : Nat} {cs : List Value} (h : w.heap[g]? = some (.cells cs.toArray 38 (0, 0))) (hc : cs = v6l q A c) : At6 w g q A c := fun j v hj => by
  subst hc
  rw [cell_of_row w g (0 + j) _ _ (0, 0) h, Nat.zero_add, List.getElem?_toArray]; exact hj
theorem six_cells (q : P6) (A : Option Addr) (c : Nat) (ss dd : List UInt8) (hs : ss.length = 16) (hd : dd.length = 16) :
    splice (splice (v6l ⟨q.traffic, q.flow, q.next, q.hop, nul, nul, q.dat⟩ A c) 4 (row ss)) 20 (row dd) = v6l ⟨q.traffic, q.flow, q.next, q.hop, ss, dd, q.dat⟩ A c := by
  have e0 : (row nul).length = 16 := by rw [row_length]; rfl
  have es : (row ss).length = 16 := by rw [row_length, hs]
  have ed : (row dd).length = 16 := by rw [row_length, hd]
  simp only [v6l]
  rw [List.append_assoc, List.append_assoc, splice_mid4 _ _ _ 4 rfl, es, List.drop_append_of_le_length (by omega), List.drop_of_length_le (by omega), List.nil_append,
    splice_mid4 _ _ _ 20 (by simp [es]), ed, List.drop_append_of_le_length (by omega), List.drop_of_length_le (by omega), List.nil_append]
section
variable (b : List UInt8) (A : Option Addr) (c : Nat) (w : World)
set_option maxRecDepth 100000 in
set_option maxHeartbeats 1000000 in
theorem c6quoted (B : Nat) (hR : Arg w B A c b) (hB : B ≤ w.heap.size) (hl : b.length ≤ 1000000) :
    Calls Tryz.prog 30 #[.slice A b.length c] w fun e w' => ∃ P p, e = .returned (.tuple #[v6v (prs6 b true) P p, .int .i64 (bad6 b true)]) ∧ Made w w' (.slice P (prs6 b true).dat.length p) (prs6 b true).dat := by
  have hOR0 := OwnR.new w (v6a p6z none 0) 38
  have hg0 := World.alloc_heap_new w (.cells (v6a p6z none 0) 38)
  have hcap := hR.cap
  go_enter Tryz.func30, Tryz.ntmps30
  go_upto_region 1 with fail
  have hOR : OwnR w 38 37 (w.alloc (.cells #[.int .i64 0, .int .i64 0, .int .i64 0, .int .i64 0, .int .u8 0, .int .u8 0, .int .u8 0, .int .u8 0, .int .u8 0, .int .u8 0, .int .u8 0, .int .u8 0, .int .u8 0, .int .u8 0, .int .u8 0, .int .u8 0, .int .u8 0, .int .u8 0, .int .u8 0, .int .u8 0, .int .u8 0, .int .u8 0, .int .u8 0, .int .u8 0, .int .u8 0, .int .u8 0, .int .u8 0, .int .u8 0, .int .u8 0, .int .u8 0, .int .u8 0, .int .u8 0, .int .u8 0, .int .u8 0, .int .u8 0, .int .u8 0, .slice none 0 0] 38)) := hOR0
  have hg : (w.alloc (.cells #[.int .i64 0, .int .i64 0, .int .i64 0, .int .i64 0, .int .u8 0, .int .u8 0, .int .u8 0, .int .u8 0, .int .u8 0, .int .u8 0, .int .u8 0, .int .u8 0, .int .u8 0, .int .u8 0, .int .u8 0, .int .u8 0, .int .u8 0, .int .u8 0, .int .u8 0, .int .u8 0, .int .u8 0, .int .u8 0, .int .u8 0, .int .u8 0, .int .u8 0, .int .u8 0, .int .u8 0, .int .u8 0, .int .u8 0, .int .u8 0, .int .u8 0, .int .u8 0, .int .u8 0, .int .u8 0, .int .u8 0, .int .u8 0, .slice none 0 0] 38)).heap[w.heap.size]? = some (.cells (v6a p6z none 0) 38 (0, 0)) := hg0
  clear hOR0 hg0
  generalize w.alloc (.cells #[.int .i64 0, .int .i64 0, .int .i64 0, .int .i64 0, .int .u8 0, .int .u8 0, .int .u8 0, .int .u8 0, .int .u8 0, .int .u8 0, .int .u8 0, .int .u8 0, .int .u8 0, .int .u8 0, .int .u8 0, .int .u8 0, .int .u8 0, .int .u8 0, .int .u8 0, .int .u8 0, .int .u8 0, .int .u8 0, .int .u8 0, .int .u8 0, .int .u8 0, .int .u8 0, .int .u8 0, .int .u8 0, .int .u8 0, .int .u8 0, .int .u8 0, .int .u8 0, .int .u8 0, .int .u8 0, .int .u8 0, .int .u8 0, .slice none 0 0] 38) = W at *
  by_cases h40 : b.length < 40
  · have hd40 : decide ((b.length : Int) < 40) = true := by simp; omega
    have HB := Lib.hid (show bad6 b true = 3 by rw [bad6, if_pos h40])
    have HE2 := HB
    have HE1 := Lib.hid (show prs6 b true = p6z by rw [prs6, if_neg (by rw [HB.out]; decide)])
    go_wp2_with (first | ((with_reducible show wpList _ _ _ (Oper.mk _ (Op.store _ _ _) _ _ _ _ :: _) _ _); refine v6_store (g := w.heap.size) (cs := v6a p6z none 0) rfl rfl hg rfl rfl (v6a_one _ _ _) ?_))
    exact bodyPost_ret (res2 rfl rfl (run_loadVar_row _ _ _ 38 (v6a p6z none 0) _ _ (setRow_heap _ _ _ _ _ _ hg) Tryz.underlying38 rfl (by kernel_rfl))) rfl ⟨none, 0, by rw [HE1.out, HE2.out]; rfl, by rw [HE1.out]; exact Made.nil _ _ (below_row hOR.b (Nat.le_refl _))⟩
    
  · have hd40 : decide ((b.length : Int) < 40) = false := by simp; omega
    have G0 := Lib.hid (get_four (b := b) (i := 0) (by omega))
    obtain ⟨N, hN⟩ : ∃ N, N = n4 b 0 := ⟨_, rfl⟩
    have hNb := n4_bd b 0
    rw [← hN] at G0 hNb
    have b0 := byt_lo b 0; have b0' := byt_hi b 0; have b1 := byt_lo b 1; have b1' := byt_hi b 1; have b2 := byt_lo b 2; have b2' := byt_hi b 2; have b3 := byt_lo b 3; have b3' := byt_hi b 3
    have HN := Lib.hid (show N = ((byt b 0 * 256 + byt b 1) * 256 + byt b 2) * 256 + byt b 3 from hN)
    clear hN
    go_upto_region 4 with (go_at_call 31; refine (get6_any A b c B _ _ _ (hR.below (hOR.b.mono hB)).rd (by omega) hR.cap).mono ?_; rintro e w' ⟨rfl, rfl⟩; rw [show getV b 0 4 = N from G0.out])
    have G6 := Lib.hid (get_one (b := b) (i := 6) (by omega))
    have G7 := Lib.hid (get_one (b := b) (i := 7) (by omega))
    have G4 := Lib.hid (get_two (b := b) (i := 4) (by omega))
    by_cases h6 : byt b 0 / 16 = 6
    · have e28 : N / 268435456 = 6 := by have := HN.out; omega
      have d28 : (N / 268435456 != 6) = false := by simp [e28]
      have n4b := n2_bd b 4
      obtain ⟨D, hD⟩ : ∃ D, D = (b.take (end6 b)).drop 40 := ⟨_, rfl⟩
      obtain ⟨SS, hSS⟩ : ∃ D, D = (b.take 24).drop 8 := ⟨_, rfl⟩
      obtain ⟨DD, hDD⟩ : ∃ D, D = (b.take 40).drop 24 := ⟨_, rfl⟩
      have HSl := Lib.hid (show SS.length = 16 by rw [hSS]; simp; omega)
      have HDl := Lib.hid (show DD.length = 16 by rw [hDD]; simp; omega)
      have he6 : end6 b ≤ b.length := by unfold end6; omega
      have HLl := Lib.hid (show D.length = end6 b - 40 by rw [hD]; simp; omega)
      have hS8 : Arg w B (cutA A c 8) (c - 8) SS := by rw [hSS]; exact hR.cut 8 24 (by omega)
      have hD8 : Arg w B (cutA A c 24) (c - 24) DD := by rw [hDD]; exact hR.cut 24 40 (by omega)
      have hA8 : Arg w B (cutA A c 40) (c - 40) D := by rw [hD]; exact hR.cut 40 (end6 b) he6
      have HQ := Lib.hid (show raw6 b = ⟨N / 1048576 % 256, N % 1048576, byt b 6, byt b 7, SS, DD, D⟩ by
        rw [raw6, ← hD, hSS, hDD, List.drop_take, List.drop_take]
        have e := HN.out
        congr 1 <;> omega)
      have HB := Lib.hid (show bad6 b true = 0 by rw [bad6, if_neg h40, if_neg (by omega), if_neg (by simp)])
      have HE1 := Lib.hid (show prs6 b true = raw6 b by rw [prs6, if_pos HB.out])
      have HE6 := Lib.hid (show end6 b = 40 + min (n2 b 4).toNat (b.length - 40) from rfl)
      clear hD hSS hDD he6
      have hlt := hOR.lt
      have hM0 : ∀ h : Int, 0 ≤ h → Hid (h = (end6 b : Int)) → D.length = h.toNat - (40 : Int).toNat := fun h h0 hh => by
        have := hh.out; have := HLl.out; rw [this]; omega
      have HMx := Lib.hid hM0
      clear hM0
      rcases Int.lt_or_le (40 + n2 b 4) (b.length : Int) with hmn | hmn
      · have HM := Lib.hid (show (40 + n2 b 4) = (end6 b : Int) by have := HE6.out; omega)
        have HML := Lib.hid (HMx.out _ (by omega) HM)
        go_upto_region 7 with (first
          | (go_at_call 31; ((with_reducible refine (get6_any A b c B 6 1 _ (hR.below (hOR.b.mono hB)).rd (by omega) hR.cap).mono ?_); rintro e w' ⟨rfl, rfl⟩; rw [show getV b 6 1 = byt b 6 from G6.out]))
          | (go_at_call 31; ((with_reducible refine (get6_any A b c B 7 1 _ (hR.below (hOR.b.mono hB)).rd (by omega) hR.cap).mono ?_); rintro e w' ⟨rfl, rfl⟩; rw [show getV b 7 1 = byt b 7 from G7.out]))
          | (go_at_call 31; ((with_reducible refine (get6_any A b c B 4 2 _ (hR.below (hOR.b.mono hB)).rd (by omega) hR.cap).mono ?_); rintro e w' ⟨rfl, rfl⟩; rw [show getV b 4 2 = n2 b 4 from G4.out]))
          | ((with_reducible show wpList _ _ _ (Oper.mk _ (Op.slice _ _ _ _ _) _ _ _ _ :: _) _ _); (refine wpList_val rfl (run_cut_lh rfl rfl rfl rfl (l := 40) (h := (40 + n2 b 4)) (by omega) (by omega) (by omega) HML.out) ?_))
          | (go_at_call 61; (refine (fresh_any (cutA A c 40) D (c - 40) B _ (hA8.below (hOR.b.mono hB)) (by have := HLl.out; have := HM.out; omega)).mono ?_); rintro e w1 ⟨v1, rfl, m1⟩; obtain ⟨P, p, rfl, ga, oa, xa⟩ := made_shape m1)
          | ((with_reducible show wpList _ _ _ (Oper.mk _ (Op.store _ _ _) _ _ _ _ :: _) _ _); refine v6_store_new (cs := v6a ⟨N / 1048576 % 256, N % 1048576, byt b 6, byt b 7, nul, nul, D⟩ P p) rfl rfl rfl rfl (v6a_one _ _ _) ?_))
        have hz5 := World.alloc_heap_new w1 (.cells (v6a ⟨N / 1048576 % 256, N % 1048576, byt b 6, byt b 7, nul, nul, D⟩ P p) 38)
        have hOR5 : OwnR w 38 37 (w1.alloc (.cells (v6a ⟨N / 1048576 % 256, N % 1048576, byt b 6, byt b 7, nul, nul, D⟩ P p) 38)) := (hOR.step xa).alloc _
        have x15 : Below w1.heap.size w1 (w1.alloc (.cells (v6a ⟨N / 1048576 % 256, N % 1048576, byt b 6, byt b 7, nul, nul, D⟩ P p) 38)) := (Below.refl _ w1).alloc (Nat.le_refl _) _
        obtain ⟨Z0, hZ0⟩ : ∃ Z, Z = v6l ⟨N / 1048576 % 256, N % 1048576, byt b 6, byt b 7, nul, nul, D⟩ P p := ⟨_, rfl⟩
        have HZ0 := Lib.hid (show Z0.length = 37 by rw [hZ0]; exact v6l_len rfl rfl)
        have HG0 := Lib.hid (show (w1.alloc (.cells (v6a ⟨N / 1048576 % 256, N % 1048576, byt b 6, byt b 7, nul, nul, D⟩ P p) 38)).heap[w1.heap.size]? = some (.cells Z0.toArray 38 (0, 0)) by rw [hZ0]; exact hz5)
        have HZC := Lib.hid (show splice (splice Z0 4 (row SS)) 20 (row DD) = v6l ⟨N / 1048576 % 256, N % 1048576, byt b 6, byt b 7, SS, DD, D⟩ P p by rw [hZ0]; exact six_cells ⟨N / 1048576 % 256, N % 1048576, byt b 6, byt b 7, nul, nul, D⟩ P p SS DD HSl.out HDl.out)
        have qz := hOR5.b
        have qz1 : w.heap.size ≤ w1.heap.size := (hOR.step xa).b.size
        have qz2 : w.heap.size < w1.heap.size := (hOR.step xa).lt
        clear hz5 hZ0
        generalize w1.alloc (.cells (v6a ⟨N / 1048576 % 256, N % 1048576, byt b 6, byt b 7, nul, nul, D⟩ P p) 38) = W5 at *
        refine wp_region_held_drew (S := fun w' => Below w1.heap.size W5 w') (by kernel_rfl) (show Below w1.heap.size W5 W5.drew from ⟨rfl, rfl, rfl, Nat.le_refl _, fun _ _ => rfl⟩) (fun hS => ?_)
        refine held_pure (i := 0) (oi := ⟨some 35, _, _, _, _, _⟩) rfl (by kernel_rfl) (by kernel_rfl) (by kernel_rfl) (fun _ _ _ h => h) (by rfl) (v := ?_) (fun w hSw => ?_) hS (fun hS => ?_)
        rotate_left
        · go_simp; try with_reducible rfl
        try go_frame
        refine held_pure (i := 1) (oi := ⟨some 36, _, _, _, _, _⟩) rfl (by kernel_rfl) (by kernel_rfl) (by kernel_rfl) (fun _ _ _ h => h) (by rfl) (fun w hSw => run_slice_six rfl rfl) hS (fun hS => ?_)
        try go_frame
        refine held_pure (i := 2) (oi := ⟨some 37, _, _, _, _, _⟩) rfl (by kernel_rfl) (by kernel_rfl) (by kernel_rfl) (fun _ _ _ h => h) (by rfl) (v := ?_) (fun w hSw => ?_) hS (fun hS => ?_)
        rotate_left
        · go_simp; try with_reducible rfl
        try go_frame
        refine held_pure (i := 3) (oi := ⟨some 38, _, _, _, _, _⟩) rfl (by kernel_rfl) (by kernel_rfl) (by kernel_rfl) (fun _ _ _ h => h) (by rfl) (fun w hSw => run_cut_lh rfl rfl rfl rfl (l := 8) (h := 24) (by omega) (by omega) (by omega) (m := 16) rfl) hS (fun hS => ?_)
        try go_frame
        refine wpAnyH_ready (rs := [4]) (by kernel_rfl) (by simp) (AllReadyH.cons (o := ⟨some 39, _, _, _, _, _⟩) rfl (fun K hK => ?_) AllReadyH.nil)
        refine copy_cells rfl _ _ rfl w1.heap.size 4 16 _ SS _ B _ rfl (by rw [HSl.out]; rfl) Z0 HG0.out (by rw [HSl.out]; decide) (hS8.rd.below ((qz.trans (hS.mono qz1)).mono hB)) (by rw [HSl.out, HZ0.out]; decide) W5 w1.heap.size hS (Nat.le_refl _) ?_
        intro w7 HG7 hB7
        refine hK.out _ _ hB7 (fun hS => ?_)
        clear hK K
        try go_frame
        refine wpAnyH_done (by kernel_rfl) ?_ _
        go_wp2_with fail
        obtain ⟨Z7, hZ7⟩ : ∃ Z, Z = splice Z0 4 (row SS) := ⟨_, rfl⟩
        have HZ7 := Lib.hid (show Z7.length = 37 by rw [hZ7, length_splice _ _ _ (by rw [row_length, HSl.out, HZ0.out]; decide), HZ0.out])
        rw [← hZ7] at HG7 HZC
        clear hZ7
        refine wp_region_held_drew (S := fun w' => Below w1.heap.size W5 w') (by kernel_rfl) hB7.drew (fun hS => ?_)
        refine held_pure (i := 0) (oi := ⟨some 40, _, _, _, _, _⟩) rfl (by kernel_rfl) (by kernel_rfl) (by kernel_rfl) (fun _ _ _ h => h) (by rfl) (v := ?_) (fun w hSw => ?_) hS (fun hS => ?_)
        rotate_left
        · go_simp; try with_reducible rfl
        try go_frame
        refine held_pure (i := 1) (oi := ⟨some 41, _, _, _, _, _⟩) rfl (by kernel_rfl) (by kernel_rfl) (by kernel_rfl) (fun _ _ _ h => h) (by rfl) (fun w hSw => run_slice_six rfl rfl) hS (fun hS => ?_)
        try go_frame
        refine held_pure (i := 2) (oi := ⟨some 42, _, _, _, _, _⟩) rfl (by kernel_rfl) (by kernel_rfl) (by kernel_rfl) (fun _ _ _ h => h) (by rfl) (v := ?_) (fun w hSw => ?_) hS (fun hS => ?_)
        rotate_left
        · go_simp; try with_reducible rfl
        try go_frame
        refine held_pure (i := 3) (oi := ⟨some 43, _, _, _, _, _⟩) rfl (by kernel_rfl) (by kernel_rfl) (by kernel_rfl) (fun _ _ _ h => h) (by rfl) (fun w hSw => run_cut_lh rfl rfl rfl rfl (l := 24) (h := 40) (by omega) (by omega) (by omega) (m := 16) rfl) hS (fun hS => ?_)
        try go_frame
        refine wpAnyH_ready (rs := [4]) (by kernel_rfl) (by simp) (AllReadyH.cons (o := ⟨some 44, _, _, _, _, _⟩) rfl (fun K hK => ?_) AllReadyH.nil)
        refine copy_cells rfl _ _ rfl w1.heap.size 20 16 _ DD _ B _ rfl (by rw [HDl.out]; rfl) Z7 HG7.out (by rw [HDl.out]; decide) (hD8.rd.below ((qz.trans (hS.mono qz1)).mono hB)) (by rw [HDl.out, HZ7.out]; decide) W5 w1.heap.size hS (Nat.le_refl _) ?_
        intro w8 HG8 hB8
        refine hK.out _ _ hB8 (fun hS => ?_)
        clear hK K
        try go_frame
        refine wpAnyH_done (by kernel_rfl) ?_ _
        have hAt8 := At6.of_heap HG8.out HZC.out
        obtain ⟨old, hold, hgo⟩ := hOR5.2
        have hgo8 := (hB8.block w.heap.size qz2).trans hgo
        go_wp2_with (first
          | ((with_reducible show wpList _ _ _ (Oper.mk _ (Op.load _ _) _ _ _ _ :: _) _ _); refine wpList_val rfl (run_load_v6 rfl rfl hAt8 (v6l_len HSl.out HDl.out)) ?_)
          | ((with_reducible show wpList _ _ _ (Oper.mk _ (Op.store _ _ _) _ _ _ _ :: _) _ _); refine v6_store (g := w.heap.size) (cs := v6a ⟨N / 1048576 % 256, N % 1048576, byt b 6, byt b 7, SS, DD, D⟩ P p) rfl rfl hgo8 hold (by rw [v6a, List.size_toArray]; exact v6l_len HSl.out HDl.out) (v6a_one _ _ _) ?_))
        exact bodyPost_ret (res2 rfl rfl (run_loadVar_row _ _ _ 38 (v6a ⟨N / 1048576 % 256, N % 1048576, byt b 6, byt b 7, SS, DD, D⟩ P p) _ _ (setRow_heap _ _ _ _ _ _ hgo8) Tryz.underlying38 rfl (by rw [v6a, List.size_toArray, v6l_len HSl.out HDl.out]; kernel_rfl))) rfl ⟨P, p, by rw [HE1.out, HB.out, HQ.out]; rfl, by rw [HE1.out, HQ.out]; exact (m1.later (x15.trans hB8)).row hOR.b hlt⟩
      · have HM := Lib.hid (show (b.length : Int) = (end6 b : Int) by have := HE6.out; omega)
        have HML := Lib.hid (HMx.out _ (by omega) HM)
        go_upto_region 7 with (first
          | (go_at_call 31; ((with_reducible refine (get6_any A b c B 6 1 _ (hR.below (hOR.b.mono hB)).rd (by omega) hR.cap).mono ?_); rintro e w' ⟨rfl, rfl⟩; rw [show getV b 6 1 = byt b 6 from G6.out]))
          | (go_at_call 31; ((with_reducible refine (get6_any A b c B 7 1 _ (hR.below (hOR.b.mono hB)).rd (by omega) hR.cap).mono ?_); rintro e w' ⟨rfl, rfl⟩; rw [show getV b 7 1 = byt b 7 from G7.out]))
          | (go_at_call 31; ((with_reducible refine (get6_any A b c B 4 2 _ (hR.below (hOR.b.mono hB)).rd (by omega) hR.cap).mono ?_); rintro e w' ⟨rfl, rfl⟩; rw [show getV b 4 2 = n2 b 4 from G4.out]))
          | ((with_reducible show wpList _ _ _ (Oper.mk _ (Op.slice _ _ _ _ _) _ _ _ _ :: _) _ _); (refine wpList_val rfl (run_cut_lh rfl rfl rfl rfl (l := 40) (h := (b.length : Int)) (by omega) (by omega) (by omega) HML.out) ?_))
          | (go_at_call 61; (refine (fresh_any (cutA A c 40) D (c - 40) B _ (hA8.below (hOR.b.mono hB)) (by have := HLl.out; have := HM.out; omega)).mono ?_); rintro e w1 ⟨v1, rfl, m1⟩; obtain ⟨P, p, rfl, ga, oa, xa⟩ := made_shape m1)
          | ((with_reducible show wpList _ _ _ (Oper.mk _ (Op.store _ _ _) _ _ _ _ :: _) _ _); refine v6_store_new (cs := v6a ⟨N / 1048576 % 256, N % 1048576, byt b 6, byt b 7, nul, nul, D⟩ P p) rfl rfl rfl rfl (v6a_one _ _ _) ?_))
        have hz5 := World.alloc_heap_new w1 (.cells (v6a ⟨N / 1048576 % 256, N % 1048576, byt b 6, byt b 7, nul, nul, D⟩ P p) 38)
        have hOR5 : OwnR w 38 37 (w1.alloc (.cells (v6a ⟨N / 1048576 % 256, N % 1048576, byt b 6, byt b 7, nul, nul, D⟩ P p) 38)) := (hOR.step xa).alloc _
        have x15 : Below w1.heap.size w1 (w1.alloc (.cells (v6a ⟨N / 1048576 % 256, N % 1048576, byt b 6, byt b 7, nul, nul, D⟩ P p) 38)) := (Below.refl _ w1).alloc (Nat.le_refl _) _
        obtain ⟨Z0, hZ0⟩ : ∃ Z, Z = v6l ⟨N / 1048576 % 256, N % 1048576, byt b 6, byt b 7, nul, nul, D⟩ P p := ⟨_, rfl⟩
        have HZ0 := Lib.hid (show Z0.length = 37 by rw [hZ0]; exact v6l_len rfl rfl)
        have HG0 := Lib.hid (show (w1.alloc (.cells (v6a ⟨N / 1048576 % 256, N % 1048576, byt b 6, byt b 7, nul, nul, D⟩ P p) 38)).heap[w1.heap.size]? = some (.cells Z0.toArray 38 (0, 0)) by rw [hZ0]; exact hz5)
        have HZC := Lib.hid (show splice (splice Z0 4 (row SS)) 20 (row DD) = v6l ⟨N / 1048576 % 256, N % 1048576, byt b 6, byt b 7, SS, DD, D⟩ P p by rw [hZ0]; exact six_cells ⟨N / 1048576 % 256, N % 1048576, byt b 6, byt b 7, nul, nul, D⟩ P p SS DD HSl.out HDl.out)
        have qz := hOR5.b
        have qz1 : w.heap.size ≤ w1.heap.size := (hOR.step xa).b.size
        have qz2 : w.heap.size < w1.heap.size := (hOR.step xa).lt
        clear hz5 hZ0
        generalize w1.alloc (.cells (v6a ⟨N / 1048576 % 256, N % 1048576, byt b 6, byt b 7, nul, nul, D⟩ P p) 38) = W5 at *
        refine wp_region_held_drew (S := fun w' => Below w1.heap.size W5 w') (by kernel_rfl) (show Below w1.heap.size W5 W5.drew from ⟨rfl, rfl, rfl, Nat.le_refl _, fun _ _ => rfl⟩) (fun hS => ?_)
        refine held_pure (i := 0) (oi := ⟨some 35, _, _, _, _, _⟩) rfl (by kernel_rfl) (by kernel_rfl) (by kernel_rfl) (fun _ _ _ h => h) (by rfl) (v := ?_) (fun w hSw => ?_) hS (fun hS => ?_)
        rotate_left
        · go_simp; try with_reducible rfl
        try go_frame
        refine held_pure (i := 1) (oi := ⟨some 36, _, _, _, _, _⟩) rfl (by kernel_rfl) (by kernel_rfl) (by kernel_rfl) (fun _ _ _ h => h) (by rfl) (fun w hSw => run_slice_six rfl rfl) hS (fun hS => ?_)
        try go_frame
        refine held_pure (i := 2) (oi := ⟨some 37, _, _, _, _, _⟩) rfl (by kernel_rfl) (by kernel_rfl) (by kernel_rfl) (fun _ _ _ h => h) (by rfl) (v := ?_) (fun w hSw => ?_) hS (fun hS => ?_)
        rotate_left
        · go_simp; try with_reducible rfl
        try go_frame
        refine held_pure (i := 3) (oi := ⟨some 38, _, _, _, _, _⟩) rfl (by kernel_rfl) (by kernel_rfl) (by kernel_rfl) (fun _ _ _ h => h) (by rfl) (fun w hSw => run_cut_lh rfl rfl rfl rfl (l := 8) (h := 24) (by omega) (by omega) (by omega) (m := 16) rfl) hS (fun hS => ?_)
        try go_frame
        refine wpAnyH_ready (rs := [4]) (by kernel_rfl) (by simp) (AllReadyH.cons (o := ⟨some 39, _, _, _, _, _⟩) rfl (fun K hK => ?_) AllReadyH.nil)
        refine copy_cells rfl _ _ rfl w1.heap.size 4 16 _ SS _ B _ rfl (by rw [HSl.out]; rfl) Z0 HG0.out (by rw [HSl.out]; decide) (hS8.rd.below ((qz.trans (hS.mono qz1)).mono hB)) (by rw [HSl.out, HZ0.out]; decide) W5 w1.heap.size hS (Nat.le_refl _) ?_
        intro w7 HG7 hB7
        refine hK.out _ _ hB7 (fun hS => ?_)
        clear hK K
        try go_frame
        refine wpAnyH_done (by kernel_rfl) ?_ _
        go_wp2_with fail
        obtain ⟨Z7, hZ7⟩ : ∃ Z, Z = splice Z0 4 (row SS) := ⟨_, rfl⟩
        have HZ7 := Lib.hid (show Z7.length = 37 by rw [hZ7, length_splice _ _ _ (by rw [row_length, HSl.out, HZ0.out]; decide), HZ0.out])
        rw [← hZ7] at HG7 HZC
        clear hZ7
        refine wp_region_held_drew (S := fun w' => Below w1.heap.size W5 w') (by kernel_rfl) hB7.drew (fun hS => ?_)
        refine held_pure (i := 0) (oi := ⟨some 40, _, _, _, _, _⟩) rfl (by kernel_rfl) (by kernel_rfl) (by kernel_rfl) (fun _ _ _ h => h) (by rfl) (v := ?_) (fun w hSw => ?_) hS (fun hS => ?_)
        rotate_left
        · go_simp; try with_reducible rfl
        try go_frame
        refine held_pure (i := 1) (oi := ⟨some 41, _, _, _, _, _⟩) rfl (by kernel_rfl) (by kernel_rfl) (by kernel_rfl) (fun _ _ _ h => h) (by rfl) (fun w hSw => run_slice_six rfl rfl) hS (fun hS => ?_)
        try go_frame
        refine held_pure (i := 2) (oi := ⟨some 42, _, _, _, _, _⟩) rfl (by kernel_rfl) (by kernel_rfl) (by kernel_rfl) (fun _ _ _ h => h) (by rfl) (v := ?_) (fun w hSw => ?_) hS (fun hS => ?_)
        rotate_left
        · go_simp; try with_reducible rfl
        try go_frame
        refine held_pure (i := 3) (oi := ⟨some 43, _, _, _, _, _⟩) rfl (by kernel_rfl) (by kernel_rfl) (by kernel_rfl) (fun _ _ _ h => h) (by rfl) (fun w hSw => run_cut_lh rfl rfl rfl rfl (l := 24) (h := 40) (by omega) (by omega) (by omega) (m := 16) rfl) hS (fun hS => ?_)
        try go_frame
        refine wpAnyH_ready (rs := [4]) (by kernel_rfl) (by simp) (AllReadyH.cons (o := ⟨some 44, _, _, _, _, _⟩) rfl (fun K hK => ?_) AllReadyH.nil)
        refine copy_cells rfl _ _ rfl w1.heap.size 20 16 _ DD _ B _ rfl (by rw [HDl.out]; rfl) Z7 HG7.out (by rw [HDl.out]; decide) (hD8.rd.below ((qz.trans (hS.mono qz1)).mono hB)) (by rw [HDl.out, HZ7.out]; decide) W5 w1.heap.size hS (Nat.le_refl _) ?_
        intro w8 HG8 hB8
        refine hK.out _ _ hB8 (fun hS => ?_)
        clear hK K
        try go_frame
        refine wpAnyH_done (by kernel_rfl) ?_ _
        have hAt8 := At6.of_heap HG8.out HZC.out
        obtain ⟨old, hold, hgo⟩ := hOR5.2
        have hgo8 := (hB8.block w.heap.size qz2).trans hgo
        go_wp2_with (first
          | ((with_reducible show wpList _ _ _ (Oper.mk _ (Op.load _ _) _ _ _ _ :: _) _ _); refine wpList_val rfl (run_load_v6 rfl rfl hAt8 (v6l_len HSl.out HDl.out)) ?_)
          | ((with_reducible show wpList _ _ _ (Oper.mk _ (Op.store _ _ _) _ _ _ _ :: _) _ _); refine v6_store (g := w.heap.size) (cs := v6a ⟨N / 1048576 % 256, N % 1048576, byt b 6, byt b 7, SS, DD, D⟩ P p) rfl rfl hgo8 hold (by rw [v6a, List.size_toArray]; exact v6l_len HSl.out HDl.out) (v6a_one _ _ _) ?_))
        exact bodyPost_ret (res2 rfl rfl (run_loadVar_row _ _ _ 38 (v6a ⟨N / 1048576 % 256, N % 1048576, byt b 6, byt b 7, SS, DD, D⟩ P p) _ _ (setRow_heap _ _ _ _ _ _ hgo8) Tryz.underlying38 rfl (by rw [v6a, List.size_toArray, v6l_len HSl.out HDl.out]; kernel_rfl))) rfl ⟨P, p, by rw [HE1.out, HB.out, HQ.out]; rfl, by rw [HE1.out, HQ.out]; exact (m1.later (x15.trans hB8)).row hOR.b hlt⟩
    · have e28 : ¬ N / 268435456 = 6 := by have := HN.out; omega
      have d28 : (N / 268435456 != 6) = true := by simpa using e28
      have HB := Lib.hid (show bad6 b true = 4 by rw [bad6, if_neg h40, if_pos h6])
      have HE2 := HB
      have HE1 := Lib.hid (show prs6 b true = p6z by rw [prs6, if_neg (by rw [HB.out]; decide)])
      clear e28 h6
      go_wp2_with (first | ((with_reducible show wpList _ _ _ (Oper.mk _ (Op.store _ _ _) _ _ _ _ :: _) _ _); refine v6_store (g := w.heap.size) (cs := v6a p6z none 0) rfl rfl hg rfl rfl (v6a_one _ _ _) ?_))
      exact bodyPost_ret (res2 rfl rfl (run_loadVar_row _ _ _ 38 (v6a p6z none 0) _ _ (setRow_heap _ _ _ _ _ _ hg) Tryz.underlying38 rfl (by kernel_rfl))) rfl ⟨none, 0, by rw [HE1.out, HE2.out]; rfl, by rw [HE1.out]; exact Made.nil _ _ (below_row hOR.b (Nat.le_refl _))⟩
      
end
end Go.Proofs.YtpoigngpdcmipaaGreat
namespace Go.Proofs.YtpoigngpdcmipaaGreat
open Go.RowKit
theorem v4a_one (q : P4) (A : Option Addr) (c : Nat) (A' : Option Addr) (c' : Nat) : (v4a q A c A' c').all (·.oneCell') = true := by simp [v4a, Value.oneCell']
theorem v4_store {ops : Array Oper} {rest : List Oper} {x y : Operand} {ty : TypeId} {pos : String} {af : Array Edge} {a : Act} {w : World} {Q : Exit → Act → World → Prop}
    {g : Nat} {t : TypeId} {cs old : Array Value} (hx : a.eval x = .pointer (some ⟨g, 0, none⟩)) (hy : a.eval y = .agg cs) (hg : w.heap[g]? = some (.cells old t (0, 0))) (ho : old.size = 11) (hl : cs.size = 11) (h1 : cs.all (·.oneCell') = true)
    (h : wpList Tryz.prog ops Q rest (a.put none undef) (w.setRow g cs)) : wpList Tryz.prog ops Q (⟨none, .store 46 x y, ty, pos, af, none⟩ :: rest) a w :=
  wpList_plain rfl fun _ hK => wp_store_row 46 x y rfl g cs hx hy t old hg (by rw [hl]; kernel_rfl) (by rw [ho, hl]) h1 (hK _ _ h)
theorem v4_store_new {ops : Array Oper} {rest : List Oper} {x y : Operand} {ty : TypeId} {pos : String} {af : Array Edge} {a : Act} {w : World} {Q : Exit → Act → World → Prop}
    {t : TypeId} {cs old : Array Value} (hx : a.eval x = .pointer (some ⟨w.heap.size, 0, none⟩)) (hy : a.eval y = .agg cs) (ho : old.size = 11) (hl : cs.size = 11) (h1 : cs.all (·.oneCell') = true)
    (h : wpList Tryz.prog ops Q rest (a.put none undef) (w.alloc (.cells cs t))) : wpList Tryz.prog ops Q (⟨none, .store 46 x y, ty, pos, af, none⟩ :: rest) a (w.alloc (.cells old t)) :=
  v4_store hx hy (World.alloc_heap_new w _) ho hl h1 (by rw [World.setRow_alloc_new]; exact h)
theorem bad4_lay (b : List UInt8) (quoted : Bool) : bad4 b quoted = if lay4 b quoted = 0 then (if quoted = false ∧ rightB [b.take (hlen b).toNat] = false then 5 else 0) else lay4 b quoted := by
  unfold bad4 lay4
  by_cases h1 : b.length < 20
  · rw [if_pos h1, if_pos h1, if_neg (by decide)]
  · rw [if_neg h1, if_neg h1]
    by_cases h2 : byt b 0 / 16 ≠ 4 ∨ hlen b < 20
    · rw [if_pos h2, if_pos h2, if_neg (by decide)]
    · rw [if_neg h2, if_neg h2]
      by_cases h3 : hlen b > (b.length : Int) ∨ (quoted = false ∧ n2 b 2 > (b.length : Int))
      · rw [if_pos h3, if_pos h3, if_neg (by decide)]
      · rw [if_neg h3, if_neg h3]
        by_cases h4 : n2 b 2 < hlen b ∨ n2 b 6 ≥ 32768
        · rw [if_pos h4, if_pos h4, if_neg (by decide)]
        · rw [if_neg h4, if_neg h4, if_pos rfl]
theorem lay4_zero {b : List UInt8} {quoted : Bool} (h : lay4 b quoted = 0) : 20 ≤ hlen b ∧ hlen b ≤ (b.length : Int) ∧ hlen b ≤ n2 b 2 ∧ (quoted = false → n2 b 2 ≤ (b.length : Int)) := by
  unfold lay4 at h
  by_cases h1 : b.length < 20
  · rw [if_pos h1] at h; omega
  · rw [if_neg h1] at h
    by_cases h2 : byt b 0 / 16 ≠ 4 ∨ hlen b < 20
    · rw [if_pos h2] at h; omega
    · rw [if_neg h2] at h
      by_cases h3 : hlen b > (b.length : Int) ∨ (quoted = false ∧ n2 b 2 > (b.length : Int))
      · rw [if_pos h3] at h; omega
      · rw [if_neg h3] at h
        by_cases h4 : n2 b 2 < hlen b ∨ n2 b 6 ≥ 32768
        · rw [if_pos h4] at h; omega
        · refine ⟨by omega, by omega, by omega, fun e => ?_⟩
          rcases Int.lt_or_le (b.length : Int) (n2 b 2) with h5 | h5
          · exact absurd (.inr ⟨e, h5⟩) h3
          · exact h5
theorem layV_no {n s k : Int} (h : k ≠ 0) : layV n s k = .tuple #[.int .i64 0, .int .i64 0, .int .i64 k] := by rw [layV, if_neg h, if_neg h]
section
variable (b : List UInt8) (A : Option Addr) (c : Nat) (w : World)
set_option maxRecDepth 100000 in
set_option maxHeartbeats 2000000 in
theorem c4parse (B : Nat) (hR : Arg w B A c b) (hB : B ≤ w.heap.size) (hl : b.length ≤ 1000000) :
    Calls Tryz.prog 54 #[.slice A b.length c] w fun e w' => ∃ P p P' p', e = .returned (.tuple #[v4v (prsV b false) P p P' p', .int .i64 (prsE b false)]) ∧ Made w w' (.slice P (prsV b false).opt.length p) (prsV b false).opt ∧ Made w w' (.slice P' (prsV b false).dat.length p') (prsV b false).dat := by
  have hBW : Below w.heap.size w (w.alloc (.cells (v4a p4z none 0 none 0) 46)) := (Below.refl w.heap.size w).alloc (Nat.le_refl _) _
  have hg := World.alloc_heap_new w (.cells (v4a p4z none 0 none 0) 46)
  have hz : w.heap.size < (w.alloc (.cells (v4a p4z none 0 none 0) 46)).heap.size := by simp
  have hcap := hR.cap
  go_enter Tryz.func54, Tryz.ntmps54
  go_upto_region 1 with fail
  rw [show #[.int .i64 0, .int .i64 0, .int .i64 0, .int .i64 0, .int .i64 0, .int .i64 0, .int .i64 0, .bool false, .bool false, .slice none 0 0, .slice none 0 0] = v4a p4z none 0 none 0 from rfl]
  generalize w.alloc (.cells (v4a p4z none 0 none 0) 46) = W at *
  have hEE := bad4_lay b false
  by_cases h0 : lay4 b false = 0
  · obtain ⟨l20, ll, ln, lq⟩ := lay4_zero h0
    have lq := lq rfl
    obtain ⟨H, hH⟩ : ∃ n : Nat, (n : Int) = hlen b := ⟨(hlen b).toNat, by omega⟩
    obtain ⟨Z, hZ⟩ : ∃ n : Nat, (n : Int) = n2 b 2 := ⟨(n2 b 2).toNat, by omega⟩
    have hLV : layV (hlen b) (min (n2 b 2) (b.length : Int)) (lay4 b false) = .tuple #[.int .i64 (H : Int), .int .i64 (Z : Int), .int .i64 0] := by
      rw [h0, layV, if_pos rfl, if_pos rfl, show min (n2 b 2) (b.length : Int) = (Z : Int) by omega, hH]
    obtain ⟨HB, hHB⟩ : ∃ l, l = b.take H := ⟨_, rfl⟩
    have HHl := Lib.hid (show H = HB.length by rw [hHB, List.length_take]; omega)
    obtain ⟨D, hD⟩ : ∃ l, l = (b.take Z).drop H := ⟨_, rfl⟩
    obtain ⟨q, hq⟩ : ∃ q, q = fl4 b D := ⟨_, rfl⟩
    have HR := Lib.hid (show raw4 b = q by rw [raw4, hq, hD, show (min (n2 b 2) (b.length : Int)).toNat = Z by omega, ← hH, Int.toNat_natCast])
    have HP := Lib.hid hEE
    have HT := Lib.hid (show b.take (hlen b).toNat = HB by rw [← hH, hHB, Int.toNat_natCast])
    have HLV := Lib.hid hLV
    have H0 := Lib.hid h0
    have HQ := Lib.hid hq
    have hO : Arg w B A c HB := by rw [hHB]; exact hR.cut_hi H (by omega)
    have hql : q.opt.length ≤ 1000000 := by rw [hq]; show ((b.take (hlen b).toNat).drop 20).length ≤ _; simp; omega
    have hdl : q.dat.length ≤ 1000000 := by rw [hq]; show D.length ≤ _; rw [hD]; simp; omega
    have h20 : 20 ≤ H := by omega
    have hHZ : H ≤ Z := by omega
    have hZb : Z ≤ b.length := by omega
    have HH := Lib.hid hH
    have HD := Lib.hid hD
    clear hEE h0 l20 ll ln lq hZ hLV hHB hD hq hH
    have hx1 := hBW.size
    by_cases hr : rightB [HB] = true
    · have hBad : bad4 b false = 0 := by rw [HP.out, if_pos H0.out, if_neg (by rw [HT.out, hr]; simp)]
      have HRT := Lib.hid hr
      have HBad := Lib.hid hBad
      clear hr hBad
      go_upto_region 4 with (go_at_call 81; refine (c4layout b A c B false _ (hR.below (hBW.mono hB)) hl).mono ?_; rintro e w1 ⟨rfl, rfl⟩; rw [HLV.out])
      go_upto_region 5 with (first
        | ((with_reducible show wpList _ _ _ (Oper.mk _ (Op.slice _ _ _ _ _) _ _ _ _ :: _) _ _); (refine wpList_val rfl (run_cut_h rfl rfl rfl (h := (H : Int)) (by omega) (by omega) (m := HB.length) (by have := HHl.out; omega)) ?_))
        | (go_at_call 82; refine (right_one (some ⟨W.heap.size, 0, none⟩) HB 1 _ _ (Rd2.one (World.alloc_heap_new W _) (Nat.lt_succ_self _) (((hO.below (hBW.mono hB)).alloc (Nat.le_trans hB hBW.size) _).more (by have := hBW.size; omega))) (by simp) (by have := HHl.out; omega)).mono ?_; rintro e w2 ⟨rfl, x2⟩; rw [HRT.out]))
      have hB2 : Below w.heap.size w w2 := (hBW.alloc hBW.size _).trans (x2.mono (by simp; omega))
      have hg2 := (x2.block w.heap.size (by simp; omega)).trans ((Below.heap_alloc W (.cells #[.slice A HB.length c] 22) w.heap.size hz).trans hg)
      have hz2 : w.heap.size < w2.heap.size := by have := x2.size; simp at this; omega
      clear x2
      go_upto_region 7 with (first
        | (go_at_call 83; refine (c4read b A c _ B H Z D (hR.below (hB2.mono hB)) (Nat.le_trans hB hB2.size) hl HH.out h20 hHZ hZb HD.out).mono ?_; rintro e w3 ⟨P, p, P', p', rfl, mo, md⟩; rw [← HQ.out] at mo md; rw [← HQ.out])
        | ((with_reducible show wpList _ _ _ (Oper.mk _ (Op.store _ _ _) _ _ _ _ :: _) _ _); refine v4_store_new (cs := v4a q P p P' p') rfl rfl rfl rfl (v4a_one _ _ _ _ _) ?_))
      obtain ⟨_, _, _, _, _, _, x23⟩ := id mo
      have hAt := At4.new (q := q) (A := P) (c := p) (A' := P') (c' := p') w3
      have x34 : Below w3.heap.size w3 (w3.alloc (.cells (v4a q P p P' p') 46)) := (Below.refl _ w3).alloc (Nat.le_refl _) _
      have hz4 : w3.heap.size < (w3.alloc (.cells (v4a q P p P' p') 46)).heap.size := by simp
      have hx23 := x23.size
      generalize w3.alloc (.cells (v4a q P p P' p') 46) = W4 at *
      by_cases hc : chk4 q = 0
      · have HC := Lib.hid hc
        have HE := Lib.hid (show prsE b false = 0 by rw [prsE, HBad.out, if_pos rfl, HR.out, if_neg (by rw [hc]; simp)])
        have HV := Lib.hid (show prsV b false = q by rw [prsV, if_pos HE.out, HR.out])
        clear hc
        go_upto_region 9 with (first
          | ((with_reducible show wpList _ _ _ (Oper.mk _ (Op.load 46 _) _ _ _ _ :: _) _ _); refine wpList_val rfl (run_load_v4 rfl rfl hAt rfl) ?_)
          | (go_at_call 84; refine (c4check q P p P' p' _ hql hdl).mono ?_; rintro e w5 ⟨rfl, x5⟩; rw [HC.out]))
        have x45 : Below w3.heap.size w3 w5 := x34.trans (x5.mono (by omega))
        have hAt5 := hAt.below x5 hz4
        have hg5 := (x45.block w.heap.size (by omega)).trans ((x23.block w.heap.size hz2).trans hg2)
        go_wp2_with (first
          | ((with_reducible show wpList _ _ _ (Oper.mk _ (Op.load 46 _) _ _ _ _ :: _) _ _); refine wpList_val rfl (run_load_v4 rfl rfl hAt5 rfl) ?_)
          | ((with_reducible show wpList _ _ _ (Oper.mk _ (Op.store _ _ _) _ _ _ _ :: _) _ _); refine v4_store (g := w.heap.size) (cs := v4a q P p P' p') rfl rfl hg5 rfl rfl (v4a_one _ _ _ _ _) ?_))
        exact bodyPost_ret (res2 rfl rfl (run_loadVar_row _ _ _ 46 (v4a q P p P' p') _ _ (setRow_heap _ _ _ _ _ _ hg5) Tryz.underlying46 rfl (by kernel_rfl))) rfl ⟨P, p, P', p', by rw [HV.out, HE.out]; rfl, by rw [HV.out]; exact (mo.later x45).row hB2 hz2, by rw [HV.out]; exact (md.later x45).row hB2 hz2⟩
      · have dC : (chk4 q != 0) = true := by simpa using hc
        have HE := Lib.hid (show prsE b false = 4 by rw [prsE, HBad.out, if_pos rfl, HR.out, if_pos ⟨rfl, hc⟩])
        have HV := Lib.hid (show prsV b false = p4z by rw [prsV, HE.out]; rfl)
        clear hc
        go_upto_region 8 with (first
          | ((with_reducible show wpList _ _ _ (Oper.mk _ (Op.load 46 _) _ _ _ _ :: _) _ _); refine wpList_val rfl (run_load_v4 rfl rfl hAt rfl) ?_)
          | (go_at_call 84; refine (c4check q P p P' p' _ hql hdl).mono ?_; rintro e w5 ⟨rfl, x5⟩; skip))
        have x45 : Below w3.heap.size w3 w5 := x34.trans (x5.mono (by omega))
        have hg5 := (x45.block w.heap.size (by omega)).trans ((x23.block w.heap.size hz2).trans hg2)
        have hB5 : Below w.heap.size w w5 := (hB2.trans (x23.mono hB2.size)).trans (x45.mono (by omega))
        go_wp2_with (first | ((with_reducible show wpList _ _ _ (Oper.mk _ (Op.store _ _ _) _ _ _ _ :: _) _ _); refine v4_store (g := w.heap.size) (cs := v4a p4z none 0 none 0) rfl rfl hg5 rfl rfl (v4a_one _ _ _ _ _) ?_) | (fail))
        exact bodyPost_ret (res2 rfl rfl (run_loadVar_row _ _ _ 46 (v4a p4z none 0 none 0) _ _ (setRow_heap _ _ _ _ _ _ hg5) Tryz.underlying46 rfl (by kernel_rfl))) rfl ⟨none, 0, none, 0, by rw [HV.out, HE.out]; rfl, by rw [HV.out]; exact Made.nil _ _ (below_row hB5 (Nat.le_refl _)), by rw [HV.out]; exact Made.nil _ _ (below_row hB5 (Nat.le_refl _))⟩
    · have hr' : rightB [HB] = false := by simpa using hr
      have HRT := Lib.hid hr'
      have hBad : bad4 b false = 5 := by rw [HP.out, if_pos H0.out, if_pos (by rw [HT.out, hr']; simp)]
      have HE := Lib.hid (show prsE b false = 5 by rw [prsE, hBad]; rfl)
      clear hBad
      have HV := Lib.hid (show prsV b false = p4z by rw [prsV, HE.out]; rfl)
      clear hr hr'
      go_upto_region 4 with (go_at_call 81; refine (c4layout b A c B false _ (hR.below (hBW.mono hB)) hl).mono ?_; rintro e w1 ⟨rfl, rfl⟩; rw [HLV.out])
      go_upto_region 5 with (first
        | ((with_reducible show wpList _ _ _ (Oper.mk _ (Op.slice _ _ _ _ _) _ _ _ _ :: _) _ _); (refine wpList_val rfl (run_cut_h rfl rfl rfl (h := (H : Int)) (by omega) (by omega) (m := HB.length) (by have := HHl.out; omega)) ?_))
        | (go_at_call 82; refine (right_one (some ⟨W.heap.size, 0, none⟩) HB 1 _ _ (Rd2.one (World.alloc_heap_new W _) (Nat.lt_succ_self _) (((hO.below (hBW.mono hB)).alloc (Nat.le_trans hB hBW.size) _).more (by have := hBW.size; omega))) (by simp) (by have := HHl.out; omega)).mono ?_; rintro e w2 ⟨rfl, x2⟩; rw [HRT.out]))
      have hB2 : Below w.heap.size w w2 := (hBW.alloc hBW.size _).trans (x2.mono (by simp; omega))
      have hg2 := (x2.block w.heap.size (by simp; omega)).trans ((Below.heap_alloc W (.cells #[.slice A HB.length c] 22) w.heap.size hz).trans hg)
      go_wp2_with (first | ((with_reducible show wpList _ _ _ (Oper.mk _ (Op.store _ _ _) _ _ _ _ :: _) _ _); refine v4_store (g := w.heap.size) (cs := v4a p4z none 0 none 0) rfl rfl hg2 rfl rfl (v4a_one _ _ _ _ _) ?_) | (fail))
      exact bodyPost_ret (res2 rfl rfl (run_loadVar_row _ _ _ 46 (v4a p4z none 0 none 0) _ _ (setRow_heap _ _ _ _ _ _ hg2) Tryz.underlying46 rfl (by kernel_rfl))) rfl ⟨none, 0, none, 0, by rw [HV.out, HE.out]; rfl, by rw [HV.out]; exact Made.nil _ _ (below_row hB2 (Nat.le_refl _)), by rw [HV.out]; exact Made.nil _ _ (below_row hB2 (Nat.le_refl _))⟩
  · have HE := Lib.hid (show prsE b false = lay4 b false by rw [prsE, hEE, if_neg h0, if_neg h0])
    have HV := Lib.hid (show prsV b false = p4z by rw [prsV, HE.out, if_neg h0])
    have hLV := Lib.hid (layV_no (n := hlen b) (s := min (n2 b 2) (b.length : Int)) h0)
    obtain ⟨E, hE⟩ : ∃ n, n = lay4 b false := ⟨_, rfl⟩
    rw [← hE] at HE h0
    have dE : (E != 0) = true := by simpa using h0
    have HEE := Lib.hid hE
    clear hE hEE
    go_wp2_with (first | ((with_reducible show wpList _ _ _ (Oper.mk _ (Op.store _ _ _) _ _ _ _ :: _) _ _); refine v4_store (g := w.heap.size) (cs := v4a p4z none 0 none 0) rfl rfl hg rfl rfl (v4a_one _ _ _ _ _) ?_) | ((go_at_call 81; refine (c4layout b A c B false _ (hR.below (hBW.mono hB)) hl).mono ?_; rintro e w1 ⟨rfl, rfl⟩; rw [hLV.out, ← HEE.out])))
    exact bodyPost_ret (res2 rfl rfl (run_loadVar_row _ _ _ 46 (v4a p4z none 0 none 0) _ _ (setRow_heap _ _ _ _ _ _ hg) Tryz.underlying46 rfl (by kernel_rfl))) rfl ⟨none, 0, none, 0, by rw [HV.out, HE.out]; rfl, by rw [HV.out]; exact Made.nil _ _ (below_row hBW (Nat.le_refl _)), by rw [HV.out]; exact Made.nil _ _ (below_row hBW (Nat.le_refl _))⟩
end
end Go.Proofs.YtpoigngpdcmipaaGreat
namespace Go.Proofs.YtpoigngpdcmipaaGreat
open Go.RowKit
end Go.Proofs.YtpoigngpdcmipaaGreat
namespace Go.Proofs.YtpoigngpdcmipaaGreat
open Go.RowKit
end Go.Proofs.YtpoigngpdcmipaaGreat
namespace Go.Proofs.YtpoigngpdcmipaaGreat
open Go.RowKit
theorem end6_len (b : List UInt8) (h : ¬ b.length < 40) : ((b.take (end6 b)).drop 40).length = end6 b - 40 := by
  have : end6 b ≤ b.length := by unfold end6; omega
  simp; omega
theorem prs6_len (b : List UInt8) (u : Bool) : (prs6 b u).src.length = 16 ∧ (prs6 b u).dst.length = 16 := by
  unfold prs6
  by_cases h : bad6 b u = 0
  · rw [if_pos h]
    have h40 : ¬ b.length < 40 := fun h' => by rw [bad6, if_pos h'] at h; omega
    simp only [raw6, List.length_take, List.length_drop]
    omega
  · rw [if_neg h]; exact ⟨rfl, rfl⟩
section
variable (b : List UInt8) (A : Option Addr) (c : Nat) (w : World)
set_option maxRecDepth 100000 in
set_option maxHeartbeats 1000000 in
theorem c6parse (B : Nat) (hR : Arg w B A c b) (hB : B ≤ w.heap.size) (hl : b.length ≤ 1000000) :
    Calls Tryz.prog 11 #[.slice A b.length c] w fun e w' => ∃ P p, e = .returned (.tuple #[v6v (prs6 b false) P p, .int .i64 (bad6 b false)]) ∧ Made w w' (.slice P (prs6 b false).dat.length p) (prs6 b false).dat := by
  have hOR0 := OwnR.new w (v6a p6z none 0) 38
  have hg0 := World.alloc_heap_new w (.cells (v6a p6z none 0) 38)
  have hcap := hR.cap
  obtain ⟨hqs, hqd⟩ := prs6_len b true
  have HQS := Lib.hid hqs; have HQD := Lib.hid hqd
  obtain ⟨q, hq⟩ : ∃ q, q = prs6 b true := ⟨_, rfl⟩
  have HQ := Lib.hid hq
  rw [← hq] at hqs hqd
  clear hq
  go_enter Tryz.func11, Tryz.ntmps11
  go_upto_region 1 with fail
  have hOR : OwnR w 38 37 (w.alloc (.cells #[.int .i64 0, .int .i64 0, .int .i64 0, .int .i64 0, .int .u8 0, .int .u8 0, .int .u8 0, .int .u8 0, .int .u8 0, .int .u8 0, .int .u8 0, .int .u8 0, .int .u8 0, .int .u8 0, .int .u8 0, .int .u8 0, .int .u8 0, .int .u8 0, .int .u8 0, .int .u8 0, .int .u8 0, .int .u8 0, .int .u8 0, .int .u8 0, .int .u8 0, .int .u8 0, .int .u8 0, .int .u8 0, .int .u8 0, .int .u8 0, .int .u8 0, .int .u8 0, .int .u8 0, .int .u8 0, .int .u8 0, .int .u8 0, .slice none 0 0] 38)) := hOR0
  have hg : (w.alloc (.cells #[.int .i64 0, .int .i64 0, .int .i64 0, .int .i64 0, .int .u8 0, .int .u8 0, .int .u8 0, .int .u8 0, .int .u8 0, .int .u8 0, .int .u8 0, .int .u8 0, .int .u8 0, .int .u8 0, .int .u8 0, .int .u8 0, .int .u8 0, .int .u8 0, .int .u8 0, .int .u8 0, .int .u8 0, .int .u8 0, .int .u8 0, .int .u8 0, .int .u8 0, .int .u8 0, .int .u8 0, .int .u8 0, .int .u8 0, .int .u8 0, .int .u8 0, .int .u8 0, .int .u8 0, .int .u8 0, .int .u8 0, .int .u8 0, .slice none 0 0] 38)).heap[w.heap.size]? = some (.cells (v6a p6z none 0) 38 (0, 0)) := hg0
  clear hOR0 hg0
  generalize w.alloc (.cells #[.int .i64 0, .int .i64 0, .int .i64 0, .int .i64 0, .int .u8 0, .int .u8 0, .int .u8 0, .int .u8 0, .int .u8 0, .int .u8 0, .int .u8 0, .int .u8 0, .int .u8 0, .int .u8 0, .int .u8 0, .int .u8 0, .int .u8 0, .int .u8 0, .int .u8 0, .int .u8 0, .int .u8 0, .int .u8 0, .int .u8 0, .int .u8 0, .int .u8 0, .int .u8 0, .int .u8 0, .int .u8 0, .int .u8 0, .int .u8 0, .int .u8 0, .int .u8 0, .int .u8 0, .int .u8 0, .int .u8 0, .int .u8 0, .slice none 0 0] 38) = W at *
  have hlt := hOR.lt
  go_upto_region 2 with (first
    | (go_at_call 30; refine (c6quoted b A c _ B (hR.below (hOR.b.mono hB)) (Nat.le_trans hB hOR.b.size) hl).mono ?_; rintro e w1 ⟨P, p, rfl, m1⟩; rw [← HQ.out] at m1 ⊢)
    | ((with_reducible show wpList _ _ _ (Oper.mk _ (Op.store _ _ _) _ _ _ _ :: _) _ _); refine v6_store_new (cs := v6a q P p) rfl rfl rfl (by rw [v6a, List.size_toArray]; exact v6l_len hqs hqd) (v6a_one _ _ _) ?_))
  have x1 := m1.below
  have hz5 := World.alloc_heap_new w1 (.cells (v6a q P p) 38)
  have hAt := At6.new (q := q) (A := P) (c := p) w1
  have hOR5 : OwnR w 38 37 (w1.alloc (.cells (v6a q P p) 38)) := (hOR.step x1).alloc _
  have x15 : Below w1.heap.size w1 (w1.alloc (.cells (v6a q P p) 38)) := (Below.refl _ w1).alloc (Nat.le_refl _) _
  have qz := hOR5.b
  have qz1 : w.heap.size ≤ (w1.alloc (.cells (v6a q P p) 38)).heap.size := qz.size
  have qz2 : w.heap.size < w1.heap.size := (hOR.step x1).lt
  have hlt5 : w1.heap.size < (w1.alloc (.cells (v6a q P p) 38)).heap.size := by simp
  obtain ⟨old, hold, hgo⟩ := hOR5.2
  clear hz5
  generalize w1.alloc (.cells (v6a q P p) 38) = W5 at *
  by_cases he : bad6 b true = 0
  · have HB := Lib.hid he
    have h40 : ¬ b.length < 40 := fun h' => by rw [bad6, if_pos h'] at he; omega
    have h6 : ¬ byt b 0 / 16 ≠ 6 := fun h' => by rw [bad6, if_neg h40, if_pos h'] at he; omega
    have hd40 : decide ((b.length : Int) < 40) = false := by simp; omega
    have n4b := n2_bd b 4
    have G4 := Lib.hid (get_two (b := b) (i := 4) (by omega))
    have HE6 := Lib.hid (show end6 b = 40 + min (n2 b 4).toNat (b.length - 40) from rfl)
    have HQr := Lib.hid (show q = raw6 b by rw [HQ.out, prs6, if_pos he])
    have HDl := Lib.hid (show q.dat.length = end6 b - 40 by rw [HQr.out]; exact end6_len b h40)
    have he' : (bad6 b true != 0) = false := by simp [he]
    clear he hd40
    go_upto_region 4 with fail
    refine wp_region_held_drew (S := fun w' => Below W5.heap.size W5 w') (by kernel_rfl) (Below.refl _ W5).drew (fun hS => ?_)
    refine held_pure (i := 0) (oi := ⟨some 15, _, _, _, _, _⟩) rfl (by kernel_rfl) (by kernel_rfl) (by kernel_rfl) (fun _ _ _ h => h) (by rfl) (v := ?_) (fun w hSw => ?_) hS (fun hS => ?_)
    rotate_left
    · go_simp; try with_reducible rfl
    try go_frame
    refine held_pure (i := 1) (oi := ⟨some 16, _, _, _, _, _⟩) rfl (by kernel_rfl) (by kernel_rfl) (by kernel_rfl) (fun _ _ _ h => h) (by rfl) (fun w hSw => run_load_sl rfl rfl ((hAt.below hSw hlt5).dat hqs hqd)) hS (fun hS => ?_)
    try go_frame
    refine held_pure (i := 2) (oi := ⟨some 17, _, _, _, _, _⟩) rfl (by kernel_rfl) (by kernel_rfl) (by kernel_rfl) (fun _ _ _ h => h) (by rfl) (v := ?_) (fun w hSw => ?_) hS (fun hS => ?_)
    rotate_left
    · go_simp; try with_reducible rfl
    try go_frame
    refine held_pure (i := 3) (oi := ⟨some 18, _, _, _, _, _⟩) rfl (by kernel_rfl) (by kernel_rfl) (by kernel_rfl) (fun _ _ _ h => h) (by rfl) (v := ?_) (fun w hSw => ?_) hS (fun hS => ?_)
    rotate_left
    · go_simp; try with_reducible rfl
    try go_frame
    refine wpAnyH_ready (rs := [4]) (by kernel_rfl) (by simp) (AllReadyH.cons (o := ⟨some 19, _, _, _, _, _⟩) rfl (fun K hK => ?_) AllReadyH.nil)
    rw [if_pos (by rfl)]
    go_simp
    refine (get6_any A b c B 4 2 _ (hR.below ((qz.trans (hS.mono qz1)).mono hB)).rd (by omega) hR.cap).mono ?_
    rintro e w4 ⟨rfl, rfl⟩
    rw [show getV b 4 2 = n2 b 4 from G4.out]
    show K _ _
    refine hK.out _ _ hS (fun hS => ?_)
    clear hK K
    try go_frame
    refine held_pure (i := 5) (oi := ⟨some 20, _, _, _, _, _⟩) rfl (by kernel_rfl) (by kernel_rfl) (by kernel_rfl) (fun _ _ _ h => h) (by rfl) (v := ?_) (fun w hSw => ?_) hS (fun hS => ?_)
    rotate_left
    · go_simp; try with_reducible rfl
    try go_frame
    refine wpAnyH_done (by kernel_rfl) ?_ _
    have hgd := (hS.block w.heap.size (by omega)).trans hgo
    by_cases hsh : (q.dat.length : Int) < n2 b 4
    · have HB2 := Lib.hid (show bad6 b false = 3 by rw [bad6, if_neg h40, if_neg h6, if_pos ⟨rfl, by have := HDl.out; have := HE6.out; omega⟩])
      have HE2 := HB2
      have HE1 := Lib.hid (show prs6 b false = p6z by rw [prs6, if_neg (by rw [HB2.out]; decide)])
      clear h6
      go_wp2_with (first | ((with_reducible show wpList _ _ _ (Oper.mk _ (Op.store _ _ _) _ _ _ _ :: _) _ _); refine v6_store (g := w.heap.size) (cs := v6a p6z none 0) rfl rfl hgd hold rfl (v6a_one _ _ _) ?_))
      exact bodyPost_ret (res2 rfl rfl (run_loadVar_row _ _ _ 38 (v6a p6z none 0) _ _ (setRow_heap _ _ _ _ _ _ hgd) Tryz.underlying38 rfl (by kernel_rfl))) rfl ⟨none, 0, by rw [HE1.out, HE2.out]; rfl, by rw [HE1.out]; exact Made.nil _ _ (below_row (qz.trans (hS.mono qz1)) (Nat.le_refl _))⟩
      
    · have HB2 := Lib.hid (show bad6 b false = 0 by rw [bad6, if_neg h40, if_neg h6, if_neg (by have := HDl.out; have := HE6.out; omega)])
      have HE1 := Lib.hid (show prs6 b false = q by rw [HQr.out, prs6, if_pos HB2.out])
      clear h6
      go_wp2_with (first
        | ((with_reducible show wpList _ _ _ (Oper.mk _ (Op.load _ _) _ _ _ _ :: _) _ _); refine wpList_val rfl (run_load_v6 rfl rfl (hAt.below hS hlt5) (v6l_len hqs hqd)) ?_)
        | ((with_reducible show wpList _ _ _ (Oper.mk _ (Op.store _ _ _) _ _ _ _ :: _) _ _); refine v6_store (g := w.heap.size) (cs := v6a q P p) rfl rfl hgd hold (by rw [v6a, List.size_toArray]; exact v6l_len hqs hqd) (v6a_one _ _ _) ?_))
      exact bodyPost_ret (res2 rfl rfl (run_loadVar_row _ _ _ 38 (v6a q P p) _ _ (setRow_heap _ _ _ _ _ _ hgd) Tryz.underlying38 rfl (by rw [v6a, List.size_toArray, v6l_len hqs hqd]; kernel_rfl))) rfl ⟨P, p, by rw [HE1.out, HB2.out]; rfl, by rw [HE1.out]; exact (m1.later (x15.trans (hS.mono (by omega)))).row hOR.b hlt⟩
  · have he' : (bad6 b true != 0) = true := by simpa using he
    have HB2 := Lib.hid (show bad6 b false = bad6 b true by
      unfold bad6 at he ⊢
      by_cases h1 : b.length < 40
      · rw [if_pos h1, if_pos h1]
      · rw [if_neg h1] at he ⊢
        rw [if_neg h1]
        by_cases h2 : byt b 0 / 16 ≠ 6
        · rw [if_pos h2, if_pos h2]
        · exfalso; rw [if_neg h2, if_neg (by simp)] at he; omega)
    have HE1 := Lib.hid (show prs6 b false = p6z by rw [prs6, if_neg (by rw [HB2.out]; exact he)])
    have HE2 := HB2
    clear he
    have hgd := hgo
    go_wp2_with (first | ((with_reducible show wpList _ _ _ (Oper.mk _ (Op.store _ _ _) _ _ _ _ :: _) _ _); refine v6_store (g := w.heap.size) (cs := v6a p6z none 0) rfl rfl hgd hold rfl (v6a_one _ _ _) ?_))
    exact bodyPost_ret (res2 rfl rfl (run_loadVar_row _ _ _ 38 (v6a p6z none 0) _ _ (setRow_heap _ _ _ _ _ _ hgd) Tryz.underlying38 rfl (by kernel_rfl))) rfl ⟨none, 0, by rw [HE1.out, HE2.out]; rfl, by rw [HE1.out]; exact Made.nil _ _ (below_row qz (Nat.le_refl _))⟩
    
end
end Go.Proofs.YtpoigngpdcmipaaGreat
namespace Go.Proofs.YtpoigngpdcmipaaGreat
open Go.RowKit
theorem set_dat (q : P6) (A P : Option Addr) (c p : Nat) (D : List UInt8) (hs : q.src.length = 16) (hd : q.dst.length = 16) : (v6a q A c).setIfInBounds 36 (.slice P D.length p) = v6a ⟨q.traffic, q.flow, q.next, q.hop, q.src, q.dst, D⟩ P p := by
  have h4 : ([Value.int .i64 q.traffic, .int .i64 q.flow, .int .i64 q.next, .int .i64 q.hop] ++ row q.src ++ row q.dst).length = 36 := by simp [row_length, hs, hd]
  rw [v6a, v6a, List.setIfInBounds_toArray, v6l, v6l]
  congr 1
  rw [List.set_append_right _ _ (by rw [h4]; omega), h4]; rfl
end Go.Proofs.YtpoigngpdcmipaaGreat
namespace Go.Proofs.YtpoigngpdcmipaaGreat
open Go.RowKit Go.ChangeShapes Go.WideShapes
structure PU where
  src : Int
  dst : Int
  nosum : Bool
  dat : List UInt8
def usa (q : PU) (A : Option Addr) (c : Nat) : Array Value := #[.int .i64 q.src, .int .i64 q.dst, .bool q.nosum, .slice A q.dat.length c]
def usv (q : PU) (A : Option Addr) (c : Nat) : Value := .agg #[.int .i64 q.src, .int .i64 q.dst, .bool q.nosum, .slice A q.dat.length c]
theorem usv_eq (q : PU) (A : Option Addr) (c : Nat) : usv q A c = .agg (usa q A c) := rfl
def Atus (W : World) (g : Nat) (q : PU) (A : Option Addr) (c : Nat) : Prop := W.rangeAt g 0 (usa q A c).toList
section
variable {W : World} {g : Nat} {q : PU} {A : Option Addr} {c : Nat}
theorem Atus.new (w : World) : Atus (w.alloc (.cells (usa q A c) 72)) w.heap.size q A c := fun j v hj => by
  rw [Nat.zero_add, World.cell?_alloc_new, ← hj, Array.getElem?_toList]
theorem Atus.below {w : World} {B : Nat} (h : Atus W g q A c) (hb : Below B W w) (hg : g < B) : Atus w g q A c := range_below h hg hb
theorem Atus.src (h : Atus W g q A c) : W.cell? ⟨g, 0, none⟩ = some (.int .i64 q.src) := h 0 _ rfl
theorem Atus.dst (h : Atus W g q A c) : W.cell? ⟨g, 1, none⟩ = some (.int .i64 q.dst) := h 1 _ rfl
theorem Atus.nosum (h : Atus W g q A c) : W.cell? ⟨g, 2, none⟩ = some (.bool q.nosum) := h 2 _ rfl
theorem Atus.dat (h : Atus W g q A c) : W.cell? ⟨g, 3, none⟩ = some (.slice A q.dat.length c) := h 3 _ rfl
end
theorem run_load_us {o : Oper} {a : Act} {w : World} {x : Operand} {g : Nat} {cs : List Value} (ho : o.op = .load 72 x) (hx : a.eval x = .pointer (some ⟨g, 0, none⟩)) (hr : w.rangeAt g 0 cs) (hl : cs.length = 4) :
    (execOp a.eval o).run Tryz.prog w = .ok (.value (.agg cs.toArray)) w := by
  have h := run_loadVar_mid (P := Tryz.prog) w g 0 72 cs _ hr Tryz.underlying72 rfl (by rw [hl]; kernel_rfl)
  unfold execOp
  simp only [ho, hx, Instr.loadAt, Instr.sureAddr, Sem.run_bind, Sem.run_pure, Result.andThen_ok, h]
end Go.Proofs.YtpoigngpdcmipaaGreat
namespace Go.Proofs.YtpoigngpdcmipaaGreat
open Go.RowKit
theorem be2_mod (n : Int) : be2 (n % 65536) = be2 n := by
  have e : ∀ a b : Int, a % 256 = b % 256 → u8 a = u8 b := fun a b h => by apply UInt8.toNat_inj.1; have h1 := u8_val a; have h2 := u8_val b; omega
  unfold be2
  rw [e (n % 65536 / 256) (n / 256) (by omega), e (n % 65536) n (by omega)]
theorem be4_mod (n : Int) : be4 (n % 4294967296) = be4 n := by
  have e : ∀ a b : Int, a % 256 = b % 256 → u8 a = u8 b := fun a b h => by apply UInt8.toNat_inj.1; have h1 := u8_val a; have h2 := u8_val b; omega
  unfold be4
  rw [e (n % 4294967296 / 16777216) (n / 16777216) (by omega), e (n % 4294967296 / 65536) (n / 65536) (by omega), e (n % 4294967296 / 256) (n / 256) (by omega), e (n % 4294967296) n (by omega)]
theorem u8_mod (n : Int) : u8 (n % 256) = u8 n := by apply UInt8.toNat_inj.1; have h1 := u8_val (n % 256); have h2 := u8_val n; omega
theorem pw1 : pw (1 : Int).toNat = 256 := rfl
theorem pw2 : pw (2 : Int).toNat = 65536 := rfl
theorem pw4 : pw (4 : Int).toNat = 4294967296 := rfl
theorem putm_one (bs : List UInt8) (n : Int) : putB bs (n % 256) 1 = bs ++ [u8 n] := by rw [put_one (by omega) (by omega), u8_mod]
theorem putm_two (bs : List UInt8) (n : Int) : putB bs (n % 65536) 2 = bs ++ be2 n := by rw [put_two (by omega) (by omega), be2_mod]
theorem putm_four (bs : List UInt8) (n : Int) : putB bs (n % 4294967296) 4 = bs ++ be4 n := by rw [put_four (by omega) (by omega), be4_mod]
def psd (src dst proto size : Int) : List UInt8 := be4 src ++ be4 dst ++ [u8 0] ++ [u8 proto] ++ be2 size
theorem psd_len (src dst proto size : Int) : (psd src dst proto size).length = 12 := by simp [psd, be4, be2]
def hdU (q : PU) (s : Int) : List UInt8 := be2 q.src ++ be2 q.dst ++ be2 (8 + (q.dat.length : Int)) ++ be2 s
theorem hdU_len (q : PU) (s : Int) : (hdU q s).length = 8 := by simp [hdU, be2]
def smU (src dst : Int) (q : PU) : Int := 65535 - fold (psum [psd src dst 17 (8 + (q.dat.length : Int)), hdU q 0, q.dat])
theorem smU_bd (src dst : Int) (q : PU) : 0 ≤ smU src dst q ∧ smU src dst q ≤ 65535 := by
  have := fold_bd (psum [psd src dst 17 (8 + (q.dat.length : Int)), hdU q 0, q.dat]); unfold smU; omega
def ckU (src dst : Int) (q : PU) : Int := if q.nosum then 0 else if smU src dst q = 0 then 65535 else smU src dst q
theorem ckU_bd (src dst : Int) (q : PU) : 0 ≤ ckU src dst q ∧ ckU src dst q ≤ 65535 := by
  have := smU_bd src dst q; unfold ckU; split
  · omega
  · split <;> omega
def bldU (src dst : Int) (q : PU) : List UInt8 := hdU q (ckU src dst q) ++ q.dat
theorem bldU_len (src dst : Int) (q : PU) : (bldU src dst q).length = 8 + q.dat.length := by rw [bldU, List.length_append, hdU_len]
def argU (q : PU) : Prop := 0 ≤ q.src ∧ q.src ≤ 65535 ∧ 0 ≤ q.dst ∧ q.dst ≤ 65535
instance (q : PU) : Decidable (argU q) := by unfold argU; infer_instance
def chkU (q : PU) : Int := if argU q then (if q.dat.length > 65527 then 6 else 0) else 1
theorem chkU_ok {q : PU} (h : chkU q = 0) : argU q ∧ q.dat.length ≤ 65527 := by
  unfold chkU at h
  split at h
  · rename_i ha
    split at h
    · cases h
    · exact ⟨ha, by omega⟩
  · cases h
theorem psum_glue (a b c : List UInt8) {m : Nat} (h : b.length = 2 * m) : psum [a, b, c] = psum [a, b ++ c] := by
  simp only [psum_cons]
  rw [wall_append h]; omega
theorem smU_two (src dst : Int) (q : PU) : 65535 - fold (psum [psd src dst 17 (8 + (q.dat.length : Int)), hdU q 0 ++ q.dat]) = smU src dst q := by
  rw [smU, psum_glue _ _ _ (m := 4) (hdU_len q 0)]
end Go.Proofs.YtpoigngpdcmipaaGreat
namespace Go.Proofs.YtpoigngpdcmipaaGreat
open Go.RowKit Go.ChangeShapes Go.WideShapes
structure PT where
  src : Int
  dst : Int
  seq : Int
  ack : Int
  res : Int
  flags : Int
  win : Int
  urg : Int
  opt : List UInt8
  dat : List UInt8
end Go.Proofs.YtpoigngpdcmipaaGreat
namespace Go.Proofs.YtpoigngpdcmipaaGreat
open Go.RowKit
def argT (q : PT) : Prop := 0 ≤ q.src ∧ q.src ≤ 65535 ∧ 0 ≤ q.dst ∧ q.dst ≤ 65535 ∧ 0 ≤ q.win ∧ q.win ≤ 65535 ∧ 0 ≤ q.urg ∧ q.urg ≤ 65535 ∧ 0 ≤ q.seq ∧ q.seq < 4294967296 ∧ 0 ≤ q.ack ∧ q.ack < 4294967296 ∧
  0 ≤ q.res ∧ q.res ≤ 15 ∧ 0 ≤ q.flags ∧ q.flags ≤ 255 ∧ q.opt.length ≤ 40 ∧ q.opt.length % 4 = 0
instance (q : PT) : Decidable (argT q) := by unfold argT; infer_instance
def optL (b : List UInt8) (at_ : Nat) : Nat :=
  if b.length ≤ at_ then 0
  else if byt b at_ ≤ 1 then 1
  else if b.length ≤ at_ + 1 ∨ byt b (at_ + 1) < 2 ∨ byt b (at_ + 1) > (b.length : Int) - at_ then 0
  else (byt b (at_ + 1)).toNat
def plc (b : List UInt8) : Nat → Nat → List Nat
  | 0, _ => []
  | f + 1, a => if optL b a = 0 then [] else a :: (if byt b a = 0 then [] else plc b f (a + optL b a))
def places (b : List UInt8) : List Nat := plc b (b.length + 1) 0
def rest (b : List UInt8) (a : Nat) : List Nat := plc b (b.length + 1) a
end Go.Proofs.YtpoigngpdcmipaaGreat
namespace Go.Proofs.YtpoigngpdcmipaaGreat
open Go.RowKit
end Go.Proofs.YtpoigngpdcmipaaGreat
namespace Go.Proofs.YtpoigngpdcmipaaGreat
open Go.RowKit
theorem mod_val (n m : Int) (h0 : 0 < m) (h1 : m ≤ 4294967296) : (wrap64 (n.tmod m + m)).tmod m = n % m := by
  have hlt := Int.tmod_lt_of_pos n h0
  have hgt : -m < n.tmod m := by
    have := Int.tmod_lt_of_pos (-n) h0
    rw [Int.neg_tmod] at this; omega
  have e1 : wrap64 (n.tmod m + m) = n.tmod m + m := by unfold wrap64; omega
  rw [e1, Int.tmod_eq_emod_of_nonneg (by omega), Int.add_emod_right]
  have h2 : n = m * (n.tdiv m) + n.tmod m := (Int.mul_tdiv_add_tmod n m).symm
  conv => rhs; rw [h2]
  rw [Int.add_comm, Int.add_mul_emod_self_left]
theorem rmod_any (n m : Int) (w : World) (hm : m = 4294967296 ∨ m = 65536 ∨ m = 256) :
    Calls Tryz.prog 78 #[.int .i64 n, .int .i64 m] w fun e w' => e = .returned (.int .i64 (n % m)) ∧ w = w' := by
  have hv := Lib.hid (fun h0 h1 => mod_val n m h0 h1)
  rcases hm with rfl | rfl | rfl
  all_goals
    go_enter Tryz.func78, Tryz.ntmps78
    go_wp2_with fail
    go_ret
    exact ⟨ret_int (hv.out (by decide) (by decide)), rfl⟩
theorem rput_nil (n s : Int) (w : World) : Calls Tryz.prog 39 #[.slice none 0 0, .int .i64 n, .int .i64 s] w fun e w' => ∃ v, e = .returned v ∧ Made w w' v (putB [] n s) :=
  rput_any none [] 0 0 n s w (Arg.nil _ 0) (by simp)
theorem rpsd_any (src dst proto size : Int) (w : World) :
    Calls Tryz.prog 50 #[.int .i64 src, .int .i64 dst, .int .i64 proto, .int .i64 size] w fun e w' => ∃ v, e = .returned v ∧ Made w w' v (psd src dst proto size) := by
  obtain ⟨L1, h1⟩ : ∃ l, l = be4 src := ⟨_, rfl⟩
  obtain ⟨L2, h2⟩ : ∃ l, l = L1 ++ be4 dst := ⟨_, rfl⟩
  obtain ⟨L3, h3⟩ : ∃ l, l = L2 ++ [u8 0] := ⟨_, rfl⟩
  obtain ⟨L4, h4⟩ : ∃ l, l = L3 ++ [u8 proto] := ⟨_, rfl⟩
  have H1 := Lib.hid (show putB [] (src % 4294967296) 4 = L1 by rw [putm_four, h1]; rfl)
  have H2 := Lib.hid (show putB L1 (dst % 4294967296) 4 = L2 by rw [putm_four, h2])
  have H3 := Lib.hid h3
  have H4 := Lib.hid (show putB L3 (proto % 256) 1 = L4 by rw [putm_one, h4])
  have H5 := Lib.hid (show putB L4 (size % 65536) 2 = psd src dst proto size by rw [putm_two, h4, h3, h2, h1]; rfl)
  have l1 : L1.length ≤ 4 := by rw [h1]; simp [be4]
  have l2 : L2.length ≤ 8 := by rw [h2, List.length_append]; simp [be4]; omega
  have l3 : L3.length ≤ 9 := by rw [h3, List.length_append]; simp; omega
  have l4 : L4.length ≤ 10 := by rw [h4, List.length_append]; simp; omega
  clear h1 h2 h3 h4
  go_enter Tryz.func50, Tryz.ntmps50
  go_upto_region 2 with (first
    | (go_at_call 78; ((with_reducible refine (rmod_any src 4294967296 _ (.inl rfl)).mono ?_); rintro e w' ⟨rfl, rfl⟩))
    | (go_at_call 39; ((with_reducible refine (rput_nil (src % 4294967296) 4 _).mono ?_); rintro e w1 ⟨v1, rfl, m1⟩; rw [H1.out] at m1; obtain ⟨A1, c1, rfl, g1, o1, x1⟩ := made_shape m1))
    | (go_at_call 78; ((with_reducible refine (rmod_any dst 4294967296 _ (.inl rfl)).mono ?_); rintro e w' ⟨rfl, rfl⟩))
    | (go_at_call 39; ((with_reducible refine (rput_any A1 L1 c1 _ (dst % 4294967296) 4 _ g1 (by omega)).mono ?_); rintro e w2 ⟨v2, rfl, m2⟩; rw [H2.out] at m2; obtain ⟨A2, c2, rfl, g2, o2, x2⟩ := made_shape m2)))
  go_wp2_with (first
    | (at_builtin; go_loud (refine append_rd rfl _ _ rfl w1.heap.size _ _ _ rfl (o2.alloc _) (w2.heap.size + 1) (some ⟨w2.heap.size, 0, none⟩) 1 [u8 0] rfl (fun e => by cases e) (Rd.one _ rfl) (by simp; omega) (by have := x2.size; simp; omega) ?_; intro v3 w3 own3 grow3; obtain ⟨A3, c3, rfl, owm3⟩ := own_made (bs := L3) own3 (by rw [H3.out]; simp) (by rw [H3.out, row_append])))
    | (go_at_call 78; ((with_reducible refine (rmod_any proto 256 _ (.inr (.inr rfl))).mono ?_); rintro e w' ⟨rfl, rfl⟩))
    | (go_at_call 39; ((with_reducible refine (rput_any A3 L3 c3 _ (proto % 256) 1 _ (arg_own owm3) (by omega)).mono ?_); rintro e w4 ⟨v4, rfl, m4⟩; rw [H4.out] at m4; obtain ⟨A4, c4, rfl, g4, o4, x4⟩ := made_shape m4))
    | (go_at_call 78; ((with_reducible refine (rmod_any size 65536 _ (.inr (.inl rfl))).mono ?_); rintro e w' ⟨rfl, rfl⟩))
    | (go_at_call 39; ((with_reducible refine (rput_any A4 L4 c4 _ (size % 65536) 2 _ g4 (by omega)).mono ?_); rintro e w5 ⟨v5, rfl, m5⟩; rw [H5.out] at m5)))
  go_ret
  have z1 := x1.size; have z2 := x2.size
  have x03 : Below w.heap.size w w3 := (((x1.trans (x2.mono z1)).alloc (by omega) _)).grown grow3 (by simp; omega) (fun k hk => by have := own_block_ge o2 k hk; omega)
  have z3 := x03.size
  exact ⟨v5, rfl, m5.after (x03.trans (x4.mono z3))⟩
section
variable (q : PU) (A : Option Addr) (c : Nat) (w : World)
theorem argU_iff (q : PU) : argU q ↔ (fitsB q.src 2 = true ∧ fitsB q.dst 2 = true) := by
  rw [fitsB_iff, fitsB_iff, pw2, argU]; omega
set_option maxHeartbeats 1000000 in
theorem rUcheck (hl : q.dat.length ≤ 1000000) : Calls Tryz.prog 47 #[usv q A c] w fun e w' => e = .returned (.int .i64 (chkU q)) ∧ Below w.heap.size w w' := by
  have hB : Below w.heap.size w (w.alloc (.cells (usa q A c) 72)) := (Below.refl w.heap.size w).alloc (Nat.le_refl _) _
  have hAt := Atus.new (q := q) (A := A) (c := c) w
  have hz : w.heap.size < (w.alloc (.cells (usa q A c) 72)).heap.size := by simp
  rw [usv_eq]
  have HO := Lib.hid (argU_iff q)
  have k0 := hAt.src; have k1 := hAt.dst; have k3 := hAt.dat
  go_enter Tryz.func47, Tryz.ntmps47
  go_upto_region 1 with fail
  generalize w.alloc (.cells (usa q A c) 72) = W at *
  by_cases ho : argU q
  · have H0 := Lib.hid (HO.out.1 ho).1
    have H1 := Lib.hid (HO.out.1 ho).2
    by_cases s : 65527 < q.dat.length
    · have HE := Lib.hid (show chkU q = 6 by rw [chkU, if_pos ho, if_pos (by omega)])
      clear ho HO hAt
      go_wp2_with (go_at_call 70; refine (rfits_any _ _ _).mono ?_; rintro e w' ⟨rfl, rfl⟩; (first | rw [H0.out] | rw [H1.out] | skip))
      go_ret
      exact ⟨ret_int (by rw [HE.out]), hB⟩
    · have HE := Lib.hid (show chkU q = 0 by rw [chkU, if_pos ho, if_neg (by omega)])
      clear ho HO hAt
      go_wp2_with (go_at_call 70; refine (rfits_any _ _ _).mono ?_; rintro e w' ⟨rfl, rfl⟩; (first | rw [H0.out] | rw [H1.out] | skip))
      go_ret
      exact ⟨ret_int (by rw [HE.out]), hB⟩
  · have HE := Lib.hid (show chkU q = 1 by rw [chkU, if_neg ho])
    have hno : ¬ (fitsB q.src 2 = true ∧ fitsB q.dst 2 = true) := fun h => ho (HO.out.2 h)
    clear ho HO hAt
    cases h0 : fitsB q.src 2
    · have H0 := Lib.hid h0; have H1 := H0
      clear hno h0
      go_wp2_with (go_at_call 70; refine (rfits_any _ _ _).mono ?_; rintro e w' ⟨rfl, rfl⟩; (first | rw [H0.out] | rw [H1.out] | skip))
      go_ret
      exact ⟨ret_int (by rw [HE.out]), hB⟩
    · have H0 := Lib.hid h0
      rw [h0] at hno; clear h0
      have h1 : fitsB q.dst 2 = false := by cases h1 : fitsB q.dst 2; rfl; exact absurd ⟨rfl, h1⟩ hno
      have H1 := Lib.hid h1
      clear hno h1
      go_wp2_with (go_at_call 70; refine (rfits_any _ _ _).mono ?_; rintro e w' ⟨rfl, rfl⟩; (first | rw [H0.out] | rw [H1.out] | skip))
      go_ret
      exact ⟨ret_int (by rw [HE.out]), hB⟩
end
end Go.Proofs.YtpoigngpdcmipaaGreat
namespace Go.Proofs.YtpoigngpdcmipaaGreat
open Go.RowKit
theorem Rd2.two {w : World} {B g t n0 n1 : Nat} {A0 A1 : Option Addr} {c0 c1 : Nat} {b0 b1 : List UInt8} (h0 : n0 = b0.length) (h1 : n1 = b1.length)
    (hg : w.heap[g]? = some (.cells #[.slice A0 n0 c0, .slice A1 n1 c1] t (0, 0))) (hB : g < B) (a0 : Arg w B A0 c0 b0) (a1 : Arg w B A1 c1 b1) : Rd2 w B (some ⟨g, 0, none⟩) [b0, b1] := by
  subst h0; subst h1
  refine Rd2.of_cells hg hB fun j b hj => ?_
  match j, hj with
  | 0, hj => simp at hj; subst hj; exact ⟨A0, c0, rfl, a0⟩
  | 1, hj => simp at hj; subst hj; exact ⟨A1, c1, rfl, a1⟩
  | j + 2, hj => simp at hj
theorem bulk2 (a b : List UInt8) : bulk [a, b] = a.length + b.length := by simp [bulk]
theorem rof_two (A : Option Addr) (a b : List UInt8) (c B : Nat) (N : Int) (hN : Hid (N = 65535 - fold (psum [a, b]))) (w : World) (h : Rd2 w B A [a, b]) (hl : a.length + b.length ≤ 1099511627000) :
    Calls Tryz.prog 49 #[.slice A 2 c] w fun e w' => e = .returned (.int .i64 N) ∧ ∃ n, w' = w.drewN n := by
  have h1 := rof_any A [a, b] c B w h (by rw [bulk2]; omega) (by simp)
  rw [← hN.out] at h1
  exact h1
section
variable (q : PU) (A : Option Addr) (c : Nat) (src dst : Int) (w : World)
set_option maxRecDepth 100000 in
set_option maxHeartbeats 1000000 in
theorem rUbytes (B : Nat) (s : Int) (bs : List UInt8) (hbs : Hid (bs = hdU q s ++ q.dat)) (ha : argU q) (hd : q.dat.length ≤ 65527) (s0 : 0 ≤ s) (s1 : s ≤ 65535) (hD : Arg w B A c q.dat) (hB0 : B ≤ w.heap.size) :
    Calls Tryz.prog 48 #[usv q A c, .int .i64 s] w fun e w' => ∃ v, e = .returned v ∧ Made w w' v bs := by
  have hB : Below w.heap.size w (w.alloc (.cells (usa q A c) 72)) := (Below.refl w.heap.size w).alloc (Nat.le_refl _) _
  have hAt := Atus.new (q := q) (A := A) (c := c) w
  have hz : w.heap.size < (w.alloc (.cells (usa q A c) 72)).heap.size := by simp
  rw [usv_eq]
  obtain ⟨a1, a2, a3, a4⟩ := ha
  obtain ⟨L1, h1⟩ : ∃ l, l = be2 q.src := ⟨_, rfl⟩
  obtain ⟨L2, h2⟩ : ∃ l, l = L1 ++ be2 q.dst := ⟨_, rfl⟩
  obtain ⟨L3, h3⟩ : ∃ l, l = L2 ++ be2 (8 + (q.dat.length : Int)) := ⟨_, rfl⟩
  obtain ⟨L4, h4⟩ : ∃ l, l = L3 ++ be2 s := ⟨_, rfl⟩
  have H1 := Lib.hid (show putB [] q.src 2 = L1 by rw [put_two a1 a2, h1]; rfl)
  have H2 := Lib.hid (show putB L1 q.dst 2 = L2 by rw [put_two a3 a4, h2])
  have H3 := Lib.hid (show putB L2 (8 + (q.dat.length : Int)) 2 = L3 by rw [put_two (by omega) (by omega), h3])
  have H4 := Lib.hid (show putB L3 s 2 = L4 by rw [put_two s0 s1, h4])
  have H5 := Lib.hid (show bs = L4 ++ q.dat by rw [hbs.out, h4, h3, h2, h1]; rfl)
  have l1 : L1.length ≤ 2 := by rw [h1]; simp [be2]
  have l2 : L2.length ≤ 4 := by rw [h2, List.length_append]; simp [be2]; omega
  have l3 : L3.length ≤ 6 := by rw [h3, List.length_append]; simp [be2]; omega
  have l4 : L4.length ≤ 8 := by rw [h4, List.length_append]; simp [be2]; omega
  clear h1 h2 h3 h4 hbs
  go_enter Tryz.func48, Tryz.ntmps48
  go_wp2_with fail
  generalize w.alloc (.cells (usa q A c) 72) = W at *
  refine wp_region_held_drew (S := fun w' => Below W.heap.size W w') (by kernel_rfl) (Below.refl _ W).drew (fun hS => ?_)
  refine held_pure (i := 0) (oi := ⟨some 6, _, _, _, _, _⟩) rfl (by kernel_rfl) (by kernel_rfl) (by kernel_rfl) (fun _ _ _ h => h) (by rfl) (v := ?_) (fun w hSw => ?_) hS (fun hS => ?_)
  rotate_left
  · go_simp; try with_reducible rfl
  try go_frame
  refine held_pure (i := 1) (oi := ⟨some 7, _, _, _, _, _⟩) rfl (by kernel_rfl) (by kernel_rfl) (by kernel_rfl) (fun _ _ _ h => h) (by rfl) (fun w hSw => run_load_int rfl rfl ((hAt.below hSw (by omega)).src)) hS (fun hS => ?_)
  try go_frame
  refine held_pure (i := 3) (oi := ⟨some 9, _, _, _, _, _⟩) rfl (by kernel_rfl) (by kernel_rfl) (by kernel_rfl) (fun _ _ _ h => h) (by rfl) (v := ?_) (fun w hSw => ?_) hS (fun hS => ?_)
  rotate_left
  · go_simp; try with_reducible rfl
  try go_frame
  refine held_pure (i := 4) (oi := ⟨some 10, _, _, _, _, _⟩) rfl (by kernel_rfl) (by kernel_rfl) (by kernel_rfl) (fun _ _ _ h => h) (by rfl) (fun w hSw => run_load_int rfl rfl ((hAt.below hSw (by omega)).dst)) hS (fun hS => ?_)
  try go_frame
  refine wpAnyH_ready (rs := [2]) (by kernel_rfl) (by simp) (AllReadyH.cons (o := ⟨some 8, _, _, _, _, _⟩) rfl (fun K hK => ?_) AllReadyH.nil)
  rw [if_pos (by rfl)]
  go_simp
  refine (rput_nil q.src 2 _).mono ?_
  rintro e w2 ⟨v2, rfl, m2⟩
  rw [H1.out] at m2
  obtain ⟨A2, c2, rfl, g2, o2, x2⟩ := made_shape m2
  show K _ _
  refine hK.out _ _ (below_step hS x2) (fun hS => ?_)
  clear hK K
  try go_frame
  refine wpAnyH_ready (rs := [5]) (by kernel_rfl) (by simp) (AllReadyH.cons (o := ⟨some 11, _, _, _, _, _⟩) rfl (fun K hK => ?_) AllReadyH.nil)
  rw [if_pos (by rfl)]
  go_simp
  refine (rput_any A2 L1 c2 _ q.dst 2 _ g2 (by omega)).mono ?_
  rintro e w5 ⟨v5, rfl, m5⟩
  rw [H2.out] at m5
  obtain ⟨A5, c5, rfl, g5, o5, x5⟩ := made_shape m5
  show K _ _
  refine hK.out _ _ (below_step hS x5) (fun hS => ?_)
  clear hK K
  try go_frame
  refine held_pure (i := 6) (oi := ⟨some 5, _, _, _, _, _⟩) rfl (by kernel_rfl) (by kernel_rfl) (by kernel_rfl) (fun _ _ _ h => h) (by rfl) (v := ?_) (fun w hSw => ?_) hS (fun hS => ?_)
  rotate_left
  · go_simp; try with_reducible rfl
  try go_frame
  refine wpAnyH_done (by kernel_rfl) ?_ _
  have k3 := (hAt.below hS (by omega)).dat
  go_upto_region 3 with (first
    | (go_at_call 39; ((with_reducible refine (rput_any A5 L2 c5 _ (8 + (q.dat.length : Int)) 2 _ g5 (by omega)).mono ?_); rintro e w6 ⟨v6, rfl, m6⟩; rw [H3.out] at m6; obtain ⟨A6, c6, rfl, g6, o6, x6⟩ := made_shape m6))
    | (go_at_call 39; ((with_reducible refine (rput_any A6 L3 c6 _ s 2 _ g6 (by omega)).mono ?_); rintro e w7 ⟨v7, rfl, m7⟩; rw [H4.out] at m7; obtain ⟨A7, c7, rfl, g7, o7, x7⟩ := made_shape m7)))
  have x57 : Below W.heap.size W w7 := hS.trans ((x6.trans (x7.mono x6.size)).mono hS.size)
  have k4 := (hAt.below x57 (by omega)).dat
  have hD7 := hD.below ((hB.trans (x57.mono (by omega))).mono hB0)
  clear k3
  go_wp2_with (at_builtin; refine append_rd rfl _ _ rfl w6.heap.size _ _ _ rfl o7 B A c q.dat rfl hD.none_ hD7.rd (by omega) x7.size ?_; intro v8 w8 own8 grow8)
  go_ret
  have own9 := own_base own8 (show w.heap.size ≤ w6.heap.size by have := x6.size; have := hS.size; omega)
  have x8 := (hB.trans (x57.mono (by omega))).grown grow8 (by have := x57.size; omega) (fun k hk => by have := own_block_ge o7 k hk; have := x6.size; have := hS.size; omega)
  obtain ⟨A8, c8, rfl, owm8⟩ := own_made (bs := bs) own9 (by rw [H5.out]; simp) (by rw [H5.out, row_append])
  exact ⟨_, rfl, Made.of_own owm8 x8⟩
end
end Go.Proofs.YtpoigngpdcmipaaGreat
namespace Go.Proofs.YtpoigngpdcmipaaGreat
open Go.RowKit
section
variable (q : PU) (A : Option Addr) (c : Nat) (src dst : Int) (w : World)
set_option maxRecDepth 100000 in
set_option maxHeartbeats 1000000 in
theorem rUbuild (B : Nat) (hD : Arg w B A c q.dat) (hB0 : B ≤ w.heap.size) (hl : q.dat.length ≤ 1000000) :
    Calls Tryz.prog 25 #[.int .i64 src, .int .i64 dst, usv q A c] w fun e w' => ∃ v, e = .returned (.tuple #[v, .int .i64 (chkU q)]) ∧ (chkU q ≠ 0 → v = .slice none 0 0 ∧ Below w.heap.size w w') ∧ (chkU q = 0 → Made w w' v (bldU src dst q)) := by
  have hB : Below w.heap.size w (w.alloc (.cells (usa q A c) 72)) := (Below.refl w.heap.size w).alloc (Nat.le_refl _) _
  have hAt := Atus.new (q := q) (A := A) (c := c) w
  have hz : w.heap.size < (w.alloc (.cells (usa q A c) 72)).heap.size := by simp
  rw [usv_eq]
  go_enter Tryz.func25, Tryz.ntmps25
  go_upto_region 1 with fail
  generalize w.alloc (.cells (usa q A c) 72) = W at *
  by_cases hc : chkU q = 0
  · obtain ⟨ha, hd⟩ := chkU_ok hc
    have HC := Lib.hid hc
    clear hc
    obtain ⟨B0, hb0⟩ : ∃ l, l = hdU q 0 ++ q.dat := ⟨_, rfl⟩
    have HB0 := Lib.hid hb0
    have lB : Hid (B0.length = 8 + q.dat.length) := Lib.hid (by rw [hb0, List.length_append, hdU_len])
    have HSM := Lib.hid (show smU src dst q = 65535 - fold (psum [psd src dst 17 (B0.length : Int), B0]) by rw [lB.out, hb0]; exact (smU_two src dst q).symm)
    clear hb0
    have bd := smU_bd src dst q
    have bk := ckU_bd src dst q
    have hD1 : ∀ X : World, Below W.heap.size W X → Arg X B A c q.dat := fun X hX => hD.below ((hB.trans (hX.mono (by omega))).mono hB0)
    go_upto_region 4 with (first
      | ((with_reducible show wpList _ _ _ (Oper.mk _ (Op.load 72 _) _ _ _ _ :: _) _ _); refine wpList_val rfl (run_load_us rfl rfl hAt rfl) ?_)
      | (go_at_call 47; refine (rUcheck q A c _ hl).mono ?_; rintro e w1 ⟨rfl, x1⟩; rw [HC.out]))
    have hAt1 := hAt.below x1 hz
    go_upto_region 5 with (first
      | ((with_reducible show wpList _ _ _ (Oper.mk _ (Op.load 72 _) _ _ _ _ :: _) _ _); refine wpList_val rfl (run_load_us rfl rfl hAt1 rfl) ?_)
      | (go_at_call 48; refine (rUbytes q A c _ B 0 B0 HB0 ha hd (by omega) (by omega) (hD1 _ x1) (by have := x1.size; omega)).mono ?_; rintro e w2 ⟨v2, rfl, m2⟩; obtain ⟨A2, c2, rfl, g2, o2, x2⟩ := made_shape m2))
    have x12 := x1.trans (x2.mono x1.size)
    have hAt2 := hAt.below x12 hz
    have k2 := hAt2.nosum
    cases hn : q.nosum
    · rw [hn] at k2
      have HN := Lib.hid hn
      clear hn
      go_upto_region 8 with (first
        | (go_at_call 50; refine (rpsd_any src dst 17 (B0.length : Int) _).mono ?_; rintro e w3 ⟨v3, rfl, m3⟩; obtain ⟨A3, c3, rfl, g3, o3, x3⟩ := made_shape m3)
        | (go_at_call 49; refine (rof_two (some ⟨w3.heap.size, 0, none⟩) (psd src dst 17 (B0.length : Int)) B0 2 (w3.heap.size + 1) (smU src dst q) HSM _ (Rd2.two rfl rfl (World.alloc_heap_new w3 _) (Nat.lt_succ_self _) ((g3.alloc (Nat.le_refl _) _).more (Nat.le_succ _)) (((g2.below x3).alloc x3.size _).more (by have := x3.size; omega))) (by rw [psd_len]; have := lB.out; omega)).mono ?_; rintro e w4 ⟨rfl, n4, rfl⟩))
      have x3a : Below W.heap.size W ((w3.alloc (.cells #[.slice A3 (psd src dst 17 (B0.length : Int)).length c3, .slice A2 B0.length c2] 22)).drewN n4) := below_drewN ((x12.trans (x3.mono x12.size)).alloc (by have := x12.size; have := x3.size; omega) _) _
      have hzz := x3a.size
      generalize (w3.alloc (.cells #[.slice A3 (psd src dst 17 (B0.length : Int)).length c3, .slice A2 B0.length c2] 22)).drewN n4 = W4 at *
      have hAt4 := hAt.below x3a hz
      obtain ⟨N, hN⟩ : ∃ n, n = smU src dst q := ⟨_, rfl⟩
      have HBL := Lib.hid (show bldU src dst q = hdU q (ckU src dst q) ++ q.dat from rfl)
      rw [← hN]
      have HNN := Lib.hid hN
      clear hN
      by_cases h0 : N = 0
      · have e0 : (N == 0) = true := by simpa using h0
        have HE := Lib.hid (show ckU src dst q = 65535 by rw [ckU, HN.out, ← HNN.out, if_pos h0]; rfl)
        rw [HE.out] at HBL
        clear h0
        go_wp2_with (first
          | ((with_reducible show wpList _ _ _ (Oper.mk _ (Op.load 72 _) _ _ _ _ :: _) _ _); refine wpList_val rfl (run_load_us rfl rfl hAt4 rfl) ?_)
          | (go_at_call 48; refine (rUbytes q A c _ B 65535 (bldU src dst q) HBL ha hd (by omega) (by omega) (hD1 _ x3a) (by omega)).mono ?_; rintro e w5 ⟨v5, rfl, m5⟩))
        go_ret2
        exact ⟨v5, by rw [HC.out]; rfl, fun h => absurd HC.out h, fun _ => m5.after (hB.trans (x3a.mono (by omega)))⟩
      · have e0 : (N == 0) = false := by simpa using h0
        have HE := Lib.hid (show ckU src dst q = N by rw [ckU, HN.out, ← HNN.out, if_neg h0]; rfl)
        rw [HE.out] at HBL bk
        clear h0
        go_wp2_with (first
          | ((with_reducible show wpList _ _ _ (Oper.mk _ (Op.load 72 _) _ _ _ _ :: _) _ _); refine wpList_val rfl (run_load_us rfl rfl hAt4 rfl) ?_)
          | (go_at_call 48; refine (rUbytes q A c _ B N (bldU src dst q) HBL ha hd bk.1 bk.2 (hD1 _ x3a) (by omega)).mono ?_; rintro e w5 ⟨v5, rfl, m5⟩))
        go_ret2
        exact ⟨v5, by rw [HC.out]; rfl, fun h => absurd HC.out h, fun _ => m5.after (hB.trans (x3a.mono (by omega)))⟩
    · rw [hn] at k2
      have HE := Lib.hid (show bldU src dst q = B0 by rw [bldU, ckU, hn, HB0.out]; rfl)
      clear hn
      go_wp2_with fail
      go_ret2
      exact ⟨.slice A2 B0.length c2, by rw [HC.out]; rfl, fun h => absurd HC.out h, fun _ => by rw [HE.out]; exact m2.after (hB.trans (x1.mono (by omega)))⟩
  · have hne : (chkU q != 0) = true := by simpa using hc
    have HN := Lib.hid hc
    clear hc
    go_wp2_with (first
      | ((with_reducible show wpList _ _ _ (Oper.mk _ (Op.load 72 _) _ _ _ _ :: _) _ _); refine wpList_val rfl (run_load_us rfl rfl hAt rfl) ?_)
      | (go_at_call 47; refine (rUcheck q A c _ hl).mono ?_; rintro e w1 ⟨rfl, x1⟩; skip))
    go_ret2
    exact ⟨.slice none 0 0, rfl, fun _ => ⟨rfl, hB.trans (x1.mono (by omega))⟩, fun h => absurd h HN.out⟩
end
end Go.Proofs.YtpoigngpdcmipaaGreat
namespace Go.Proofs.YtpoigngpdcmipaaGreat
open Go.RowKit
end Go.Proofs.YtpoigngpdcmipaaGreat
namespace Go.Proofs.YtpoigngpdcmipaaGreat
open Go.RowKit
end Go.Proofs.YtpoigngpdcmipaaGreat
namespace Go.Proofs.YtpoigngpdcmipaaGreat
open Go.RowKit
end Go.Proofs.YtpoigngpdcmipaaGreat
namespace Go.Proofs.YtpoigngpdcmipaaGreat
open Go.RowKit
end Go.Proofs.YtpoigngpdcmipaaGreat
namespace Go.Proofs.YtpoigngpdcmipaaGreat
open Go.RowKit
end Go.Proofs.YtpoigngpdcmipaaGreat
