/-
  Contracts and lemmas on which the proofs of this seat stand (several texts in one). Conditions are each theorem's own.
-/
import Derived.Test.YtkgbjohadkbjaaaQa7
import Derived.Test.YtkgbjohadkbjaaaQa8
import Derived.Test.YtkgbjohadkbjaaaQa9
import Derived.Great.FillDense

/-
  Blocks of a function's own, one behind the other; where both sides of a packet that is quoted stand. Conditions are each theorem's own.
-/
namespace Go.Proofs.Ytkgbjohadkbjaaa
open Go.RowKit
/-- What was there below is as it was; the blocks that came first lie there, each of its type and size. -/
def OwnL (w0 : World) (l : List (Nat × Nat)) (w : World) : Prop := Below w0.heap.size w0 w ∧ ∀ i t n, l[i]? = some (t, n) → ∃ cs : Array Value, cs.size = n ∧ w.heap[w0.heap.size + i]? = some (.cells cs t (0, 0))
section
variable {w0 w w' : World} {l : List (Nat × Nat)} {i t n : Nat}
theorem OwnL.nil (w : World) : OwnL w [] w := ⟨Below.refl _ w, fun i t n h => by simp at h⟩
theorem OwnL.b (h : OwnL w0 l w) : Below w0.heap.size w0 w := h.1
theorem OwnL.push (h : OwnL w0 l w) (hz : w.heap.size = w0.heap.size + l.length) (cs : Array Value) (t : Nat) : OwnL w0 (l ++ [(t, cs.size)]) (w.alloc (.cells cs t)) := by
  refine ⟨h.1.alloc h.1.size _, fun i t' n' hi => ?_⟩
  rcases Nat.lt_or_ge i l.length with e | e
  · rw [List.getElem?_append_left e] at hi
    obtain ⟨cs', h1, h2⟩ := h.2 i t' n' hi
    exact ⟨cs', h1, (Below.heap_alloc w _ _ (heap_lt h2)).trans h2⟩
  · rw [List.getElem?_append_right e] at hi
    have hi0 : i - l.length = 0 := by have := (List.getElem?_eq_some_iff.1 hi).1; simpa using this
    rw [hi0] at hi
    simp at hi
    obtain ⟨rfl, rfl⟩ := hi
    refine ⟨cs, rfl, ?_⟩
    rw [show w0.heap.size + i = w.heap.size by omega]
    exact World.alloc_heap_new w _
theorem OwnL.at_ (h : OwnL w0 l w) (hi : l[i]? = some (t, n)) : ∃ cs : Array Value, cs.size = n ∧ w.heap[w0.heap.size + i]? = some (.cells cs t (0, 0)) := h.2 i t n hi
theorem OwnL.lt (h : OwnL w0 l w) (hi : l[i]? = some (t, n)) : w0.heap.size + i < w.heap.size := by
  obtain ⟨cs, _, hh⟩ := h.at_ hi
  exact heap_lt hh
theorem OwnL.drew (h : OwnL w0 l w) : OwnL w0 l w.drew := ⟨h.1.drew, h.2⟩
theorem OwnL.drewN (h : OwnL w0 l w) (k : Nat) : OwnL w0 l (w.drewN k) := ⟨below_drewN h.1 k, h.2⟩
theorem OwnL.step (h : OwnL w0 l w) (hb : Below w.heap.size w w') : OwnL w0 l w' :=
  ⟨h.1.trans (hb.mono h.1.size), fun i t n hi => by
    obtain ⟨cs, h1, h2⟩ := h.2 i t n hi
    exact ⟨cs, h1, (hb.block _ (heap_lt h2)).trans h2⟩⟩
theorem OwnL.row (h : OwnL w0 l w) (hi : l[i]? = some (t, n)) (cs : Array Value) (hc : cs.size = n) : OwnL w0 l (w.setRow (w0.heap.size + i) cs) := by
  refine ⟨below_row h.1 (Nat.le_add_right _ _), fun j t' n' hj => ?_⟩
  by_cases e : j = i
  · subst e
    obtain ⟨cs', _, h2⟩ := h.2 j t n hi
    rw [hi] at hj
    cases hj
    exact ⟨cs, hc, setRow_heap _ _ _ _ _ _ h2⟩
  · obtain ⟨cs', h1, h2⟩ := h.2 j t' n' hj
    exact ⟨cs', h1, (setRow_other w (w0.heap.size + i) (w0.heap.size + j) cs (by omega)).trans h2⟩
theorem OwnL.front {m : List (Nat × Nat)} (h : OwnL w0 (l ++ m) w) : OwnL w0 l w := ⟨h.1, fun i t n hi => h.2 i t n (by rw [List.getElem?_append_left (List.getElem?_eq_some_iff.1 hi).1]; exact hi)⟩
end
/-- Results: two structs in blocks, and a slot. -/
theorem resCC {fn : Func} {p q r : Tmp} {T U : TypeId} {tmps : Array Value} {w : World} {g k : Nat} {cs ds : Array Value} (h : fn.results = #[.cell p T, .cell q U, .tmp r])
    (hp : tmps.getD p undef = .pointer (some ⟨g, 0, none⟩)) (hq : tmps.getD q undef = .pointer (some ⟨k, 0, none⟩)) (hr : (loadVar T ⟨g, 0, none⟩).run Try.prog w = .ok (.agg cs) w) (hs : (loadVar U ⟨k, 0, none⟩).run Try.prog w = .ok (.agg ds) w) :
    (results fn tmps).run Try.prog w = .ok (.tuple #[.agg cs, .agg ds, tmps.getD r undef]) w := by
  have hp' : tmps[p]?.getD undef = .pointer (some ⟨g, 0, none⟩) := by simpa using hp
  have hq' : tmps[q]?.getD undef = .pointer (some ⟨k, 0, none⟩) := by simpa using hq
  simp [results, h, hp', hq', asAddr, hr, hs]
/-- Where a side stands, if there are ports. -/
def siV (ok : Bool) (pr : Int) (fr : Bool) : Sid := if ok then ⟨(whQ fr : Int), (ppQ pr fr : Int)⟩ else sdz
def okS (q : P4) : Bool := decide (q.proto = 17 ∨ q.proto = 6) || (decide (q.proto = 1) && qryI (byt q.dat 0))
theorem At4.ofh {W : World} {g : Nat} {q : P4} {A : Option Addr} {c : Nat} {A' : Option Addr} {c' t : Nat} {fr : Nat × Nat} (h : W.heap[g]? = some (.cells (v4a q A c A' c') t fr)) : At4 W g q A c A' c' := fun j v hj => by
  rw [cell_of_row W g (0 + j) _ _ _ h, Nat.zero_add, ← Array.getElem?_toList]; exact hj
set_option maxRecDepth 100000 in
set_option maxHeartbeats 2000000 in
theorem csides (q : P4) (A : Option Addr) (c : Nat) (A' : Option Addr) (c' B : Nat) (w : World) (hD : Arg w B A' c' q.dat) (hB : B ≤ w.heap.size) (h8 : 8 ≤ q.dat.length) :
    Calls Try.prog 53 #[v4v q A c A' c'] w fun e w' => e = .returned (.tuple #[sdv (siV (okS q) q.proto true), sdv (siV (okS q) q.proto false), .bool (okS q)]) ∧ Below w.heap.size w w' := by
  have hL0 : OwnL w ([(48, 11)] ++ [(99, 2)] ++ [(99, 2)]) (((w.alloc (.cells (v4a q A c A' c') 48)).alloc (.cells #[.int .i64 0, .int .i64 0] 99)).alloc (.cells #[.int .i64 0, .int .i64 0] 99)) :=
    (((OwnL.nil w).push rfl (v4a q A c A' c') 48).push (by simp) #[.int .i64 0, .int .i64 0] 99).push (by simp) #[.int .i64 0, .int .i64 0] 99
  have hg : (((w.alloc (.cells (v4a q A c A' c') 48)).alloc (.cells #[.int .i64 0, .int .i64 0] 99)).alloc (.cells #[.int .i64 0, .int .i64 0] 99)).heap[w.heap.size]? = some (.cells (v4a q A c A' c') 48 (0, 0)) := by
    rw [Below.heap_alloc _ _ _ (by simp; omega), Below.heap_alloc _ _ _ (by simp)]; exact World.alloc_heap_new w _
  obtain ⟨b0, off, rfl, hb0, hc0⟩ := hD.rd (by omega)
  have kd0 := hc0 0 (by omega)
  obtain ⟨QR, hQR⟩ : ∃ r, r = qryI (byt q.dat 0) := ⟨_, rfl⟩
  have hok : okS q = (decide (q.proto = 17 ∨ q.proto = 6) || (decide (q.proto = 1) && QR)) := by rw [hQR]; rfl
  obtain ⟨OK, hO⟩ : ∃ r, r = okS q := ⟨_, rfl⟩
  obtain ⟨V1, hV1⟩ : ∃ v, v = sdv (siV OK q.proto true) := ⟨_, rfl⟩
  obtain ⟨V2, hV2⟩ : ∃ v, v = sdv (siV OK q.proto false) := ⟨_, rfl⟩
  rw [← hO, ← hV1, ← hV2]
  rw [← hO] at hok
  rw [v4v]
  clear hO
  go_enter Try.func53, Try.ntmps53
  go_upto_region 1 with fail
  rw [show #[.int .i64 q.tos, .int .i64 q.id, .int .i64 q.off, .int .i64 q.ttl, .int .i64 q.proto, .int .i64 q.src, .int .i64 q.dst, .bool q.df, .bool q.mf, .slice A q.opt.length c, .slice (some ⟨b0, off, none⟩) q.dat.length c'] = v4a q A c (some ⟨b0, off, none⟩) c' from rfl]
  generalize ((w.alloc (.cells (v4a q A c (some ⟨b0, off, none⟩) c') 48)).alloc (.cells #[.int .i64 0, .int .i64 0] 99)).alloc (.cells #[.int .i64 0, .int .i64 0] 99) = W at *
  have hL : OwnL w [(48, 11), (99, 2), (99, 2)] W := hL0
  have at0 := At4.ofh hg
  have kpr := at0.proto
  have kdat := at0.dat
  have kd0 := (hL.b.cell (p := ⟨b0, off + 0, none⟩) (Nat.lt_of_lt_of_le hb0 hB)).trans kd0
  rw [Nat.add_zero] at kd0
  obtain ⟨X0, hX0⟩ : ∃ x, x = byt q.dat 0 := ⟨_, rfl⟩
  have HX0 : IntKind.i64.wrap X0 = X0 := IntWalk.i64_in X0 (by have := byt_lo q.dat 0; have := byt_hi q.dat 0; omega)
  rw [← hX0] at kd0
  have HQ := Lib.hid (show qryI X0 = QR by rw [hQR, hX0])
  have hgR : ∀ V : World, OwnL w [(48, 11), (99, 2), (99, 2)] V → (∃ cs : Array Value, cs.size = 2 ∧ V.heap[w.heap.size + 1]? = some (.cells cs 99 (0, 0))) ∧ (∃ cs : Array Value, cs.size = 2 ∧ V.heap[w.heap.size + 2]? = some (.cells cs 99 (0, 0))) := fun V h => ⟨h.at_ (i := 1) rfl, h.at_ (i := 2) rfl⟩
  clear hg at0 hL0 hX0 hQR hc0
  clear hD hb0
  obtain ⟨pr, hp⟩ : ∃ x, x = q.proto := ⟨_, rfl⟩
  rw [← hp] at kpr hok hV1 hV2
  clear hp
  have hpr : pr = 17 ∨ pr = 6 ∨ pr = 1 ∨ (pr ≠ 17 ∧ pr ≠ 6 ∧ pr ≠ 1) := by omega
  rcases hpr with rfl | rfl | rfl | ⟨h17, h6, h1⟩
  · skip
    have HOK := Lib.hid (show OK = true by rw [hok]; rfl)
    have HV1 := Lib.hid (show V1 = sdv ⟨12, 0⟩ by rw [hV1, HOK.out]; rfl)
    have HV2 := Lib.hid (show V2 = sdv ⟨16, 2⟩ by rw [hV2, HOK.out]; rfl)
    clear hok hV1 hV2
    obtain ⟨⟨c1, n1, g1⟩, _⟩ := hgR _ hL
    go_wp2_with (first
      | ((with_reducible show wpList _ _ _ (Oper.mk _ (Op.store 99 _ _) _ _ _ _ :: _) _ _); refine sd_store (g := w.heap.size + 1) (cs := sda ⟨12, 0⟩) rfl rfl g1 n1 rfl (sd_one _) ?_; have hL1 := hL.row (i := 1) rfl (sda ⟨12, 0⟩) rfl; obtain ⟨_, c2, n2, g2⟩ := hgR _ hL1)
      | ((with_reducible show wpList _ _ _ (Oper.mk _ (Op.store 99 _ _) _ _ _ _ :: _) _ _); refine sd_store (g := w.heap.size + 2) (cs := sda ⟨16, 2⟩) rfl rfl g2 n2 rfl (sd_one _) ?_; have hL2 := hL1.row (i := 2) rfl (sda ⟨16, 2⟩) rfl)
      | (go_at_call 73; refine (cIquery _ _).mono ?_; rintro e w1 ⟨rfl, x1⟩; rw [HQ.out]; have hL := hL.step x1; obtain ⟨⟨c1, n1, g1⟩, _⟩ := hgR _ hL))
    exact bodyPost_ret (resCC rfl rfl rfl (sd_load_run ((setRow_other _ _ _ _ (by omega)).trans (setRow_heap _ _ _ _ _ _ g1)) rfl) (sd_load_run (setRow_heap _ _ _ _ _ _ g2) rfl)) rfl ⟨by rw [HV1.out, HV2.out, HOK.out]; rfl, hL2.b⟩
  · skip
    have HOK := Lib.hid (show OK = true by rw [hok]; rfl)
    have HV1 := Lib.hid (show V1 = sdv ⟨12, 0⟩ by rw [hV1, HOK.out]; rfl)
    have HV2 := Lib.hid (show V2 = sdv ⟨16, 2⟩ by rw [hV2, HOK.out]; rfl)
    clear hok hV1 hV2
    obtain ⟨⟨c1, n1, g1⟩, _⟩ := hgR _ hL
    go_wp2_with (first
      | ((with_reducible show wpList _ _ _ (Oper.mk _ (Op.store 99 _ _) _ _ _ _ :: _) _ _); refine sd_store (g := w.heap.size + 1) (cs := sda ⟨12, 0⟩) rfl rfl g1 n1 rfl (sd_one _) ?_; have hL1 := hL.row (i := 1) rfl (sda ⟨12, 0⟩) rfl; obtain ⟨_, c2, n2, g2⟩ := hgR _ hL1)
      | ((with_reducible show wpList _ _ _ (Oper.mk _ (Op.store 99 _ _) _ _ _ _ :: _) _ _); refine sd_store (g := w.heap.size + 2) (cs := sda ⟨16, 2⟩) rfl rfl g2 n2 rfl (sd_one _) ?_; have hL2 := hL1.row (i := 2) rfl (sda ⟨16, 2⟩) rfl)
      | (go_at_call 73; refine (cIquery _ _).mono ?_; rintro e w1 ⟨rfl, x1⟩; rw [HQ.out]; have hL := hL.step x1; obtain ⟨⟨c1, n1, g1⟩, _⟩ := hgR _ hL))
    exact bodyPost_ret (resCC rfl rfl rfl (sd_load_run ((setRow_other _ _ _ _ (by omega)).trans (setRow_heap _ _ _ _ _ _ g1)) rfl) (sd_load_run (setRow_heap _ _ _ _ _ _ g2) rfl)) rfl ⟨by rw [HV1.out, HV2.out, HOK.out]; rfl, hL2.b⟩
  · cases QR
    · skip
      have HOK := Lib.hid (show OK = false by rw [hok]; rfl)
      have HV1 := Lib.hid (show V1 = sdv sdz by rw [hV1, HOK.out]; rfl)
      have HV2 := Lib.hid (show V2 = sdv sdz by rw [hV2, HOK.out]; rfl)
      clear hok hV1 hV2
      obtain ⟨⟨c1, n1, g1⟩, _⟩ := hgR _ hL
      go_wp2_with (first
        | ((with_reducible show wpList _ _ _ (Oper.mk _ (Op.store 99 _ _) _ _ _ _ :: _) _ _); refine sd_store (g := w.heap.size + 1) (cs := sda sdz) rfl rfl g1 n1 rfl (sd_one _) ?_; have hL1 := hL.row (i := 1) rfl (sda sdz) rfl; obtain ⟨_, c2, n2, g2⟩ := hgR _ hL1)
        | ((with_reducible show wpList _ _ _ (Oper.mk _ (Op.store 99 _ _) _ _ _ _ :: _) _ _); refine sd_store (g := w.heap.size + 2) (cs := sda sdz) rfl rfl g2 n2 rfl (sd_one _) ?_; have hL2 := hL1.row (i := 2) rfl (sda sdz) rfl)
        | (go_at_call 73; refine (cIquery _ _).mono ?_; rintro e w1 ⟨rfl, x1⟩; rw [HQ.out]; have hL := hL.step x1; obtain ⟨⟨c1, n1, g1⟩, _⟩ := hgR _ hL))
      exact bodyPost_ret (resCC rfl rfl rfl (sd_load_run ((setRow_other _ _ _ _ (by omega)).trans (setRow_heap _ _ _ _ _ _ g1)) rfl) (sd_load_run (setRow_heap _ _ _ _ _ _ g2) rfl)) rfl ⟨by rw [HV1.out, HV2.out, HOK.out]; rfl, hL2.b⟩
    · skip
      have HOK := Lib.hid (show OK = true by rw [hok]; rfl)
      have HV1 := Lib.hid (show V1 = sdv ⟨12, 4⟩ by rw [hV1, HOK.out]; rfl)
      have HV2 := Lib.hid (show V2 = sdv ⟨16, 4⟩ by rw [hV2, HOK.out]; rfl)
      clear hok hV1 hV2
      obtain ⟨⟨c1, n1, g1⟩, _⟩ := hgR _ hL
      go_wp2_with (first
        | ((with_reducible show wpList _ _ _ (Oper.mk _ (Op.store 99 _ _) _ _ _ _ :: _) _ _); refine sd_store (g := w.heap.size + 1) (cs := sda ⟨12, 4⟩) rfl rfl g1 n1 rfl (sd_one _) ?_; have hL1 := hL.row (i := 1) rfl (sda ⟨12, 4⟩) rfl; obtain ⟨_, c2, n2, g2⟩ := hgR _ hL1)
        | ((with_reducible show wpList _ _ _ (Oper.mk _ (Op.store 99 _ _) _ _ _ _ :: _) _ _); refine sd_store (g := w.heap.size + 2) (cs := sda ⟨16, 4⟩) rfl rfl g2 n2 rfl (sd_one _) ?_; have hL2 := hL1.row (i := 2) rfl (sda ⟨16, 4⟩) rfl)
        | (go_at_call 73; refine (cIquery _ _).mono ?_; rintro e w1 ⟨rfl, x1⟩; rw [HQ.out]; have hL := hL.step x1; obtain ⟨⟨c1, n1, g1⟩, _⟩ := hgR _ hL))
      exact bodyPost_ret (resCC rfl rfl rfl (sd_load_run ((setRow_other _ _ _ _ (by omega)).trans (setRow_heap _ _ _ _ _ _ g1)) rfl) (sd_load_run (setRow_heap _ _ _ _ _ _ g2) rfl)) rfl ⟨by rw [HV1.out, HV2.out, HOK.out]; rfl, hL2.b⟩
  · have d17 : (pr == 17) = false := by simpa using h17
    have d6 : (pr == 6) = false := by simpa using h6
    have d1 : (pr == 1) = false := by simpa using h1
    have HOK := Lib.hid (show OK = false by rw [hok]; simp [h17, h6, h1])
    have HV1 := Lib.hid (show V1 = sdv sdz by rw [hV1, HOK.out]; rfl)
    have HV2 := Lib.hid (show V2 = sdv sdz by rw [hV2, HOK.out]; rfl)
    clear hok hV1 hV2
    obtain ⟨⟨c1, n1, g1⟩, _⟩ := hgR _ hL
    go_wp2_with (first
      | ((with_reducible show wpList _ _ _ (Oper.mk _ (Op.store 99 _ _) _ _ _ _ :: _) _ _); refine sd_store (g := w.heap.size + 1) (cs := sda sdz) rfl rfl g1 n1 rfl (sd_one _) ?_; have hL1 := hL.row (i := 1) rfl (sda sdz) rfl; obtain ⟨_, c2, n2, g2⟩ := hgR _ hL1)
      | ((with_reducible show wpList _ _ _ (Oper.mk _ (Op.store 99 _ _) _ _ _ _ :: _) _ _); refine sd_store (g := w.heap.size + 2) (cs := sda sdz) rfl rfl g2 n2 rfl (sd_one _) ?_; have hL2 := hL1.row (i := 2) rfl (sda sdz) rfl)
      | (go_at_call 73; refine (cIquery _ _).mono ?_; rintro e w1 ⟨rfl, x1⟩; rw [HQ.out]; have hL := hL.step x1; obtain ⟨⟨c1, n1, g1⟩, _⟩ := hgR _ hL))
    exact bodyPost_ret (resCC rfl rfl rfl (sd_load_run ((setRow_other _ _ _ _ (by omega)).trans (setRow_heap _ _ _ _ _ _ g1)) rfl) (sd_load_run (setRow_heap _ _ _ _ _ _ g2) rfl)) rfl ⟨by rw [HV1.out, HV2.out, HOK.out]; rfl, hL2.b⟩
end Go.Proofs.Ytkgbjohadkbjaaa

/-
  Contracts of layer 26's Ports, of the code and of the document. Conditions are each theorem's own.
-/
namespace Go.Proofs.Ytkgbjohadkbjaaa
open Go.RowKit
theorem range_blkQ {w V : World} {g o : Nat} {cs : List Value} (h : V.rangeAt g o cs) (hb : w.heap[g]? = V.heap[g]?) : w.rangeAt g o cs := fun j v hj => (World.cell?_of_block (a := ⟨g, o + j, none⟩) hb).trans (h j v hj)
/-- Its own blocks lie there; what came behind them lies as it lay. -/
def HiL (w : World) (l : List (Nat × Nat)) (V w' : World) : Prop := OwnL w l w' ∧ V.heap.size ≤ w'.heap.size ∧ ∀ k, w.heap.size + l.length ≤ k → k < V.heap.size → w'.heap[k]? = V.heap[k]?
section
variable {w V w' w2 : World} {l : List (Nat × Nat)} {i t n : Nat}
theorem HiL.start (h : OwnL w l V) : HiL w l V V.drew := ⟨h.drew, Nat.le_refl _, fun _ _ _ => rfl⟩
theorem HiL.row (h : HiL w l V w') (hi : l[i]? = some (t, n)) (cs : Array Value) (hc : cs.size = n) : HiL w l V (w'.setRow (w.heap.size + i) cs) :=
  ⟨h.1.row hi cs hc, by rw [size_setRow]; exact h.2.1, fun k h1 h2 => (setRow_other w' _ k cs (by have := (List.getElem?_eq_some_iff.1 hi).1; omega)).trans (h.2.2 k h1 h2)⟩
theorem HiL.step (h : HiL w l V w') (hb : Below w'.heap.size w' w2) : HiL w l V w2 :=
  ⟨h.1.step hb, Nat.le_trans h.2.1 hb.size, fun k h1 h2 => (hb.block k (Nat.lt_of_lt_of_le h2 h.2.1)).trans (h.2.2 k h1 h2)⟩
theorem HiL.range (h : HiL w l V w') {g o : Nat} {cs : List Value} (hr : V.rangeAt g o cs) (h1 : w.heap.size + l.length ≤ g) (h2 : g < V.heap.size) : w'.rangeAt g o cs := range_blkQ hr (h.2.2 g h1 h2)
end
theorem two_boxes (w2 : World) (c c' d d' : Array Value) (t : Nat) : Below w2.heap.size w2 ((((w2.alloc (.cells c t)).alloc (.cells c' t)).setRow w2.heap.size d).setRow (w2.heap.size + 1) d') ∧ ((((w2.alloc (.cells c t)).alloc (.cells c' t)).setRow w2.heap.size d).setRow (w2.heap.size + 1) d').heap[w2.heap.size]? = some (.cells d t (0, 0)) ∧ ((((w2.alloc (.cells c t)).alloc (.cells c' t)).setRow w2.heap.size d).setRow (w2.heap.size + 1) d').heap[w2.heap.size + 1]? = some (.cells d' t (0, 0)) := by
  have h0 : ((w2.alloc (.cells c t)).alloc (.cells c' t)).heap[w2.heap.size]? = some (.cells c t (0, 0)) := (Below.heap_alloc _ _ _ (by simp)).trans (World.alloc_heap_new w2 _)
  have h1 : ((w2.alloc (.cells c t)).alloc (.cells c' t)).heap[w2.heap.size + 1]? = some (.cells c' t (0, 0)) := two_heap w2 _ _
  have g1 := (setRow_other ((w2.alloc (.cells c t)).alloc (.cells c' t)) w2.heap.size (w2.heap.size + 1) d (by omega)).trans h1
  exact ⟨below_row (below_row (((Below.refl _ w2).alloc (Nat.le_refl _) _).alloc (by simp) _) (Nat.le_refl _)) (by omega), (setRow_other _ (w2.heap.size + 1) w2.heap.size d' (by omega)).trans (setRow_heap _ _ _ _ _ _ h0), setRow_heap _ _ _ _ _ _ g1⟩
theorem two_firstQ (w2 : World) (o1 o2 : Obj) : ((w2.alloc o1).alloc o2).heap[w2.heap.size]? = some o1 := (Below.heap_alloc _ _ _ (by simp)).trans (World.alloc_heap_new w2 _)
theorem qE_ne {b : List UInt8} (h : qE b ≠ 0) : qV b = p4z ∧ poV b = pqv pqz := by
  refine ⟨by rw [qV, if_neg h], ?_⟩
  rw [poV, poP, poN, poN, if_neg h, if_neg h, if_neg h]; rfl
set_option maxRecDepth 100000 in
set_option maxHeartbeats 4000000 in
theorem cqports (b : List UInt8) (A : Option Addr) (c B : Nat) (w : World) (hA : Arg w B A c b) (hB : B ≤ w.heap.size) (hl : b.length ≤ 1000000) :
    Calls Try.prog 24 #[.slice A b.length c] w fun e w' => ∃ P p P' p', e = .returned (.tuple #[v4v (qV b) P p P' p', poV b, .int .i64 (qE b)]) ∧ Made w w' (.slice P (qV b).opt.length p) (qV b).opt ∧ Made w w' (.slice P' (qV b).dat.length p') (qV b).dat := by
  have hL0 : OwnL w ([(48, 11)] ++ [(50, 3)]) ((w.alloc (.cells #[.int .i64 0, .int .i64 0, .int .i64 0, .int .i64 0, .int .i64 0, .int .i64 0, .int .i64 0, .bool false, .bool false, .slice none 0 0, .slice none 0 0] 48)).alloc (.cells #[.int .i64 0, .int .i64 0, .int .i64 0] 50)) :=
    ((OwnL.nil w).push rfl #[.int .i64 0, .int .i64 0, .int .i64 0, .int .i64 0, .int .i64 0, .int .i64 0, .int .i64 0, .bool false, .bool false, .slice none 0 0, .slice none 0 0] 48).push (by simp) #[.int .i64 0, .int .i64 0, .int .i64 0] 50
  obtain ⟨q, hq⟩ : ∃ q, q = prsV b true := ⟨_, rfl⟩
  obtain ⟨E, hEe⟩ : ∃ E, E = prsE b true := ⟨_, rfl⟩
  have HE := Lib.hid hEe
  have HQ := Lib.hid hq
  have hqE : qE b = if E ≠ 0 then E else if 0 < q.off then 4 else if q.dat.length < 8 then 3 else if q.proto = 17 ∨ q.proto = 6 then 0 else if q.proto = 1 ∧ qryI (byt q.dat 0) = true then 0 else 8 := by rw [hEe, hq]; rfl
  have hql : q.dat.length ≤ 1000000 := by
    rw [hq, prsV]
    split
    · show (((b.take _).drop _).length ≤ _)
      simp; omega
    · exact Nat.zero_le _
  obtain ⟨QE, hQE⟩ : ∃ x, x = qE b := ⟨_, rfl⟩
  obtain ⟨QV, hQV⟩ : ∃ x, x = qV b := ⟨_, rfl⟩
  obtain ⟨PV, hPV⟩ : ∃ x, x = poV b := ⟨_, rfl⟩
  clear hq hEe
  go_enter Try.func24, Try.ntmps24
  go_upto_region 1 with fail
  generalize (w.alloc (.cells #[.int .i64 0, .int .i64 0, .int .i64 0, .int .i64 0, .int .i64 0, .int .i64 0, .int .i64 0, .bool false, .bool false, .slice none 0 0, .slice none 0 0] 48)).alloc (.cells #[.int .i64 0, .int .i64 0, .int .i64 0] 50) = W at *
  have hL : OwnL w [(48, 11), (50, 3)] W := hL0
  have hL0s := hL.lt (i := 1) rfl
  clear hL0
  go_upto_region 2 with (first
    | (go_at_call 52; refine (c4quoted b A c W B (hA.below (hL.b.mono hB)) (Nat.le_trans hB hL.b.size) hl).mono ?_; rintro e w1 ⟨P, p, P', p', rfl, mo, md⟩; rw [← HQ.out] at mo md; rw [← HQ.out, ← HE.out])
    | ((with_reducible show wpList _ _ _ (Oper.mk _ (Op.store _ _ _) _ _ _ _ :: _) _ _); refine v4_store_new (cs := v4a q P p P' p') rfl rfl rfl rfl (v4a_one _ _ _ _ _) ?_))
  have hLw := hL.step mo.below
  have x1V : Below w1.heap.size w1 (w1.alloc (.cells (v4a q P p P' p') 48)) := (Below.refl _ _).alloc (Nat.le_refl _) _
  have hL := hLw.step x1V
  have at5 := At4.new (q := q) (A := P) (c := p) (A' := P') (c' := p') w1
  have hz5 : w1.heap.size < (w1.alloc (.cells (v4a q P p P' p') 48)).heap.size := by simp
  have hzW : w.heap.size + 2 ≤ W.heap.size := by have := hL0s; omega
  generalize w1.alloc (.cells (v4a q P p P' p') 48) = V at *
  have kof := at5.off
  have kdt := at5.dat
  have kpr := at5.proto
  have hz1 := mo.below.size
  by_cases hE : E = 0
  · subst hE
    rw [if_neg (by simp)] at hqE
    by_cases ho : 0 < q.off
    · have dO : decide (0 < q.off) = true := by simpa using ho
      rw [if_pos ho] at hqE
      have EQ := Lib.hid (show qE b = 4 by exact hqE)
      have VQ := Lib.hid (show qV b = p4z from (qE_ne (by rw [EQ.out]; decide)).1)
      have VP := Lib.hid (show poV b = pqv pqz from (qE_ne (by rw [EQ.out]; decide)).2)
      clear hqE
      obtain ⟨c1, n1, g1⟩ := hL.at_ (i := 0) rfl
      go_wp2_with (first
        | ((with_reducible show wpList _ _ _ (Oper.mk _ (Op.store 48 (Operand.tmp 2) _) _ _ _ _ :: _) _ _); refine v4_store (g := w.heap.size) (cs := v4a p4z none 0 none 0) rfl rfl g1 n1 rfl (v4a_one _ _ _ _ _) ?_; have hL1 := hL.row (i := 0) rfl (v4a p4z none 0 none 0) rfl; obtain ⟨c2, n2, g2⟩ := hL1.at_ (i := 1) rfl)
        | ((with_reducible show wpList _ _ _ (Oper.mk _ (Op.store 50 (Operand.tmp 3) _) _ _ _ _ :: _) _ _); refine pq_store (g := w.heap.size + 1) (cs := pqa pqz) rfl rfl g2 n2 rfl (pq_one _) ?_; have hL2 := hL1.row (i := 1) rfl (pqa pqz) rfl))
      exact bodyPost_ret (resCC rfl rfl rfl (run_loadVar_row _ _ _ 48 (v4a p4z none 0 none 0) _ _ ((setRow_other _ _ _ _ (by omega)).trans (setRow_heap _ _ _ _ _ _ g1)) Try.underlying48 rfl (by kernel_rfl)) (pq_load_run (setRow_heap _ _ _ _ _ _ g2) rfl)) rfl ⟨none, 0, none, 0, by rw [VQ.out, VP.out, EQ.out]; rfl, by rw [VQ.out]; exact Made.nil _ _ hL2.b, by rw [VQ.out]; exact Made.nil _ _ hL2.b⟩
    · have dO : decide (0 < q.off) = false := by simpa using ho
      rw [if_neg ho] at hqE
      by_cases h8 : q.dat.length < 8
      · have d8 : decide ((q.dat.length : Int) < 8) = true := by simp; omega
        rw [if_pos h8] at hqE
        have EQ := Lib.hid (show qE b = 3 by exact hqE)
        have VQ := Lib.hid (show qV b = p4z from (qE_ne (by rw [EQ.out]; decide)).1)
        have VP := Lib.hid (show poV b = pqv pqz from (qE_ne (by rw [EQ.out]; decide)).2)
        clear hqE
        obtain ⟨c1, n1, g1⟩ := hL.at_ (i := 0) rfl
        go_wp2_with (first
          | ((with_reducible show wpList _ _ _ (Oper.mk _ (Op.store 48 (Operand.tmp 2) _) _ _ _ _ :: _) _ _); refine v4_store (g := w.heap.size) (cs := v4a p4z none 0 none 0) rfl rfl g1 n1 rfl (v4a_one _ _ _ _ _) ?_; have hL1 := hL.row (i := 0) rfl (v4a p4z none 0 none 0) rfl; obtain ⟨c2, n2, g2⟩ := hL1.at_ (i := 1) rfl)
          | ((with_reducible show wpList _ _ _ (Oper.mk _ (Op.store 50 (Operand.tmp 3) _) _ _ _ _ :: _) _ _); refine pq_store (g := w.heap.size + 1) (cs := pqa pqz) rfl rfl g2 n2 rfl (pq_one _) ?_; have hL2 := hL1.row (i := 1) rfl (pqa pqz) rfl))
        exact bodyPost_ret (resCC rfl rfl rfl (run_loadVar_row _ _ _ 48 (v4a p4z none 0 none 0) _ _ ((setRow_other _ _ _ _ (by omega)).trans (setRow_heap _ _ _ _ _ _ g1)) Try.underlying48 rfl (by kernel_rfl)) (pq_load_run (setRow_heap _ _ _ _ _ _ g2) rfl)) rfl ⟨none, 0, none, 0, by rw [VQ.out, VP.out, EQ.out]; rfl, by rw [VQ.out]; exact Made.nil _ _ hL2.b, by rw [VQ.out]; exact Made.nil _ _ hL2.b⟩
      · have d8 : decide ((q.dat.length : Int) < 8) = false := by simp; omega
        rw [if_neg h8] at hqE
        have hzq : W.heap.size ≤ V.heap.size := Nat.le_trans hz1 (Nat.le_of_lt hz5)
        obtain ⟨_, _, eo, go, oo, _⟩ := made_shape mo
        cases eo
        obtain ⟨_, _, ed, gd, od, _⟩ := made_shape md
        cases ed
        have gdV := gd.below x1V
        obtain ⟨OK, hok⟩ : ∃ r, r = okS q := ⟨_, rfl⟩
        have HOK := Lib.hid hok.symm
        have hqE2 : qE b = if OK = true then 0 else 8 := by
          rw [hqE, hok, okS]
          by_cases h1 : q.proto = 17 ∨ q.proto = 6
          · simp [h1]
          · by_cases h2 : q.proto = 1 ∧ qryI (byt q.dat 0) = true
            · simp [h2]
            · rw [if_neg h1, if_neg h2]
              simp only [h1, decide_false, Bool.false_or, Bool.and_eq_true, decide_eq_true_eq]
              rw [if_neg h2]
        have hvq : OK = true → qV b = q ∧ poV b = pqv ⟨q.proto, n2 q.dat (ppQ q.proto true), n2 q.dat (ppQ q.proto false)⟩ := fun h => by
          have h0 : qE b = 0 := by rw [hqE2, if_pos h]
          refine ⟨by rw [qV, if_pos h0, ← HQ.out], ?_⟩
          rw [poV, poP, poN, poN, if_pos h0, if_pos h0, if_pos h0, ← HQ.out]; rfl
        clear hqE hok
        have hp1 := ppQ_le q.proto true
        have hp2 := ppQ_le q.proto false
        go_upto_region 9 with (first
          | ((with_reducible show wpList _ _ _ (Oper.mk _ (Op.load 48 _) _ _ _ _ :: _) _ _); refine wpList_val rfl (run_load_v4 rfl rfl at5 rfl) ?_)
          | (go_at_call 53; refine (csides q P p P' p' w1.heap.size V gdV (Nat.le_of_lt hz5) (by omega)).mono ?_; rintro e w2 ⟨rfl, x2⟩; rw [HOK.out, sdv_eq, sdv_eq])
          | ((with_reducible show wpList _ _ _ (Oper.mk _ (Op.store 99 (Operand.tmp 7) _) _ _ _ _ :: _) _ _); refine sd_store (g := w2.heap.size) (cs := sda (siV OK q.proto true)) rfl rfl (two_firstQ w2 _ _) rfl rfl (sd_one _) ?_)
          | ((with_reducible show wpList _ _ _ (Oper.mk _ (Op.store 99 (Operand.tmp 8) _) _ _ _ _ :: _) _ _); refine sd_store (g := w2.heap.size + 1) (cs := sda (siV OK q.proto false)) rfl rfl ((setRow_other _ _ _ _ (by omega)).trans (two_heap w2 _ _)) rfl rfl (sd_one _) ?_))
        obtain ⟨x2V, g7, g8⟩ := two_boxes w2 #[.int .i64 0, .int .i64 0] #[.int .i64 0, .int .i64 0] (sda (siV OK q.proto true)) (sda (siV OK q.proto false)) 99
        generalize (((w2.alloc (.cells #[.int .i64 0, .int .i64 0] 99)).alloc (.cells #[.int .i64 0, .int .i64 0] 99)).setRow w2.heap.size (sda (siV OK q.proto true))).setRow (w2.heap.size + 1) (sda (siV OK q.proto false)) = V2 at *
        have xV : Below V.heap.size V V2 := x2.trans (x2V.mono x2.size)
        have hL := hL.step xV
        have hz2 := x2.size
        have at5 := at5.below xV hz5
        have gdV2 := gdV.below (xV.mono (Nat.le_of_lt hz5))
        have ooV := own_below oo (x1V.trans (xV.mono (Nat.le_of_lt hz5)))
        have odV := own_below od (x1V.trans (xV.mono (Nat.le_of_lt hz5)))
        have hz7 := heap_lt g8
        cases OK
        · rw [if_neg (by decide)] at hqE2
          clear hvq
          have EQ := Lib.hid (show qE b = 8 by exact hqE2)
          have VQ := Lib.hid (show qV b = p4z from (qE_ne (by rw [EQ.out]; decide)).1)
          have VP := Lib.hid (show poV b = pqv pqz from (qE_ne (by rw [EQ.out]; decide)).2)
          clear hqE2
          obtain ⟨c1, n1, g1⟩ := hL.at_ (i := 0) rfl
          go_wp2_with (first
            | ((with_reducible show wpList _ _ _ (Oper.mk _ (Op.store 48 (Operand.tmp 2) _) _ _ _ _ :: _) _ _); refine v4_store (g := w.heap.size) (cs := v4a p4z none 0 none 0) rfl rfl g1 n1 rfl (v4a_one _ _ _ _ _) ?_; have hL1 := hL.row (i := 0) rfl (v4a p4z none 0 none 0) rfl; obtain ⟨c2, n2, g2⟩ := hL1.at_ (i := 1) rfl)
            | ((with_reducible show wpList _ _ _ (Oper.mk _ (Op.store 50 (Operand.tmp 3) _) _ _ _ _ :: _) _ _); refine pq_store (g := w.heap.size + 1) (cs := pqa pqz) rfl rfl g2 n2 rfl (pq_one _) ?_; have hL2 := hL1.row (i := 1) rfl (pqa pqz) rfl))
          exact bodyPost_ret (resCC rfl rfl rfl (run_loadVar_row _ _ _ 48 (v4a p4z none 0 none 0) _ _ ((setRow_other _ _ _ _ (by omega)).trans (setRow_heap _ _ _ _ _ _ g1)) Try.underlying48 rfl (by kernel_rfl)) (pq_load_run (setRow_heap _ _ _ _ _ _ g2) rfl)) rfl ⟨none, 0, none, 0, by rw [VQ.out, VP.out, EQ.out]; rfl, by rw [VQ.out]; exact Made.nil _ _ hL2.b, by rw [VQ.out]; exact Made.nil _ _ hL2.b⟩
        · obtain ⟨hv1, hv2⟩ := hvq rfl
          have EQ := Lib.hid (hqE2.trans (if_pos rfl))
          have VQ := Lib.hid hv1
          have VP := Lib.hid hv2
          clear hvq hqE2 hv1 hv2
          have A5 : ∀ V', HiL w [(48, 11), (50, 3)] V2 V' → At4 V' w1.heap.size q P p P' p' := fun V' h => h.range at5 (by show w.heap.size + 2 ≤ _; omega) (by omega)
          have S7 : ∀ V', HiL w [(48, 11), (50, 3)] V2 V' → Atsd V' w2.heap.size (siV true q.proto true) := fun V' h => h.range (Atsd.of_heap g7) (by show w.heap.size + 2 ≤ _; omega) (by omega)
          have S8 : ∀ V', HiL w [(48, 11), (50, 3)] V2 V' → Atsd V' (w2.heap.size + 1) (siV true q.proto false) := fun V' h => h.range (Atsd.of_heap g8) (by show w.heap.size + 2 ≤ _; omega) (by omega)
          have gdD : Arg V2.drew w1.heap.size P' p' q.dat := ⟨gdV2.rd, gdV2.cap, gdV2.none_⟩
          go_upto_region 11 with fail
          refine wp_region_held_drew (S := HiL w [(48, 11), (50, 3)] V2) (by kernel_rfl) (HiL.start hL) (fun hS => ?_)
          refine held_pure (i := 0) (oi := ⟨some 44, _, _, _, _, _⟩) rfl (by kernel_rfl) (by kernel_rfl) (by kernel_rfl) (fun _ _ _ h => h) (by rfl) (fun w hSw => run_load_v4 rfl rfl (A5 _ hSw) rfl) hS (fun hS => ?_)
          try go_frame
          refine held_pure (i := 1) (oi := ⟨some 45, _, _, _, _, _⟩) rfl (by kernel_rfl) (by kernel_rfl) (by kernel_rfl) (fun _ _ _ h => h) (by rfl) (v := ?_) (fun w hSw => ?_) hS (fun hS => ?_)
          rotate_left
          · go_simp; try with_reducible rfl
          try go_frame
          refine held_pure (i := 2) (oi := ⟨some 46, _, _, _, _, _⟩) rfl (by kernel_rfl) (by kernel_rfl) (by kernel_rfl) (fun _ _ _ h => h) (by rfl) (fun w hSw => run_load_int rfl rfl (A5 _ hSw).proto) hS (fun hS => ?_)
          try go_frame
          refine held_pure (i := 3) (oi := ⟨some 47, _, _, _, _, _⟩) rfl (by kernel_rfl) (by kernel_rfl) (by kernel_rfl) (fun _ _ _ h => h) (by rfl) (v := ?_) (fun w hSw => ?_) hS (fun hS => ?_)
          rotate_left
          · go_simp; try with_reducible rfl
          try go_frame
          refine held_pure (i := 4) (oi := ⟨some 48, _, _, _, _, _⟩) rfl (by kernel_rfl) (by kernel_rfl) (by kernel_rfl) (fun _ _ _ h => h) (by rfl) (fun w hSw => run_load_sl rfl rfl (A5 _ hSw).dat) hS (fun hS => ?_)
          try go_frame
          refine held_pure (i := 5) (oi := ⟨some 49, _, _, _, _, _⟩) rfl (by kernel_rfl) (by kernel_rfl) (by kernel_rfl) (fun _ _ _ h => h) (by rfl) (v := ?_) (fun w hSw => ?_) hS (fun hS => ?_)
          rotate_left
          · go_simp; try with_reducible rfl
          try go_frame
          refine held_pure (i := 6) (oi := ⟨some 50, _, _, _, _, _⟩) rfl (by kernel_rfl) (by kernel_rfl) (by kernel_rfl) (fun _ _ _ h => h) (by rfl) (fun w hSw => run_load_int rfl rfl (S7 _ hSw).po) hS (fun hS => ?_)
          try go_frame
          refine held_pure (i := 8) (oi := ⟨some 52, _, _, _, _, _⟩) rfl (by kernel_rfl) (by kernel_rfl) (by kernel_rfl) (fun _ _ _ h => h) (by rfl) (v := ?_) (fun w hSw => ?_) hS (fun hS => ?_)
          rotate_left
          · go_simp; try with_reducible rfl
          try go_frame
          refine held_pure (i := 9) (oi := ⟨some 53, _, _, _, _, _⟩) rfl (by kernel_rfl) (by kernel_rfl) (by kernel_rfl) (fun _ _ _ h => h) (by rfl) (fun w hSw => run_load_sl rfl rfl (A5 _ hSw).dat) hS (fun hS => ?_)
          try go_frame
          refine held_pure (i := 10) (oi := ⟨some 54, _, _, _, _, _⟩) rfl (by kernel_rfl) (by kernel_rfl) (by kernel_rfl) (fun _ _ _ h => h) (by rfl) (v := ?_) (fun w hSw => ?_) hS (fun hS => ?_)
          rotate_left
          · go_simp; try with_reducible rfl
          try go_frame
          refine held_pure (i := 11) (oi := ⟨some 55, _, _, _, _, _⟩) rfl (by kernel_rfl) (by kernel_rfl) (by kernel_rfl) (fun _ _ _ h => h) (by rfl) (fun w hSw => run_load_int rfl rfl (S8 _ hSw).po) hS (fun hS => ?_)
          try go_frame
          refine wpAnyH_ready (rs := [7]) (by kernel_rfl) (by simp) (AllReadyH.cons (o := ⟨some 51, _, _, _, _, _⟩) rfl (fun K hK => ?_) AllReadyH.nil)
          rw [if_pos (by rfl)]
          go_simp
          refine (cqget q.dat P' p' w1.heap.size (ppQ q.proto true) _ gdD hql (by omega)).mono ?_
          rintro e w7 ⟨rfl, rfl⟩
          show K _ _
          refine hK.out _ _ hS (fun hS => ?_)
          clear hK K
          try go_frame
          refine wpAnyH_ready (rs := [12]) (by kernel_rfl) (by simp) (AllReadyH.cons (o := ⟨some 56, _, _, _, _, _⟩) rfl (fun K hK => ?_) AllReadyH.nil)
          rw [if_pos (by rfl)]
          go_simp
          refine (cqget q.dat P' p' w1.heap.size (ppQ q.proto false) _ gdD hql (by omega)).mono ?_
          rintro e w12 ⟨rfl, rfl⟩
          show K _ _
          refine hK.out _ _ hS (fun hS => ?_)
          clear hK K
          try go_frame
          refine held_pure (i := 13) (oi := ⟨some 57, _, _, _, _, _⟩) rfl (by kernel_rfl) (by kernel_rfl) (by kernel_rfl) (fun _ _ _ h => h) (by rfl) (v := ?_) (fun w hSw => ?_) hS (fun hS => ?_)
          rotate_left
          · go_simp; try with_reducible rfl
          try go_frame
          refine wpAnyH_ready (rs := [14]) (by kernel_rfl) (by simp) (AllReadyH.cons (o := ⟨none, _, _, _, _, _⟩) rfl (fun K hK => ?_) AllReadyH.nil)
          rw [if_pos (by rfl)]
          obtain ⟨old14, hold14, hgo14⟩ := hS.1.at_ (i := 0) rfl
          have hrow14 := hS.row (i := 0) rfl (v4a q P p P' p') rfl
          refine wp_store_row 48 _ _ rfl (w.heap.size + 0) (v4a q P p P' p') rfl rfl 48 old14 hgo14 (by kernel_rfl) hold14 (v4a_one _ _ _ _ _) ?_
          refine hK.out _ _ hrow14 (fun hS => ?_)
          clear hK K hrow14
          try go_frame
          refine wpAnyH_ready (rs := [15]) (by kernel_rfl) (by simp) (AllReadyH.cons (o := ⟨none, _, _, _, _, _⟩) rfl (fun K hK => ?_) AllReadyH.nil)
          rw [if_pos (by rfl)]
          obtain ⟨old15, hold15, hgo15⟩ := hS.1.at_ (i := 1) rfl
          have hrow15 := hS.row (i := 1) rfl (pqa ⟨q.proto, n2 q.dat (ppQ q.proto true), n2 q.dat (ppQ q.proto false)⟩) rfl
          refine wp_store_row 50 _ _ rfl (w.heap.size + 1) (pqa ⟨q.proto, n2 q.dat (ppQ q.proto true), n2 q.dat (ppQ q.proto false)⟩) rfl rfl 50 old15 hgo15 (by kernel_rfl) hold15 (pq_one _) ?_
          refine hK.out _ _ hrow15 (fun hS => ?_)
          clear hK K hrow15
          try go_frame
          refine held_pure (i := 16) (oi := ⟨some 4, _, _, _, _, _⟩) rfl (by kernel_rfl) (by kernel_rfl) (by kernel_rfl) (fun _ _ _ h => h) (by rfl) (v := ?_) (fun w hSw => ?_) hS (fun hS => ?_)
          rotate_left
          · go_simp; try with_reducible rfl
          try go_frame
          refine wpAnyH_done (by kernel_rfl) ?_ _
          go_wp2_with fail
          have oo9 := own_setRow (own_setRow (World.ownsRow.drew ooV) (g := w.heap.size + 0) (cs := v4a q P p P' p') (by omega)) (g := w.heap.size + 1) (cs := pqa ⟨q.proto, n2 q.dat (ppQ q.proto true), n2 q.dat (ppQ q.proto false)⟩) (by omega)
          have od9 := own_setRow (own_setRow (World.ownsRow.drew odV) (g := w.heap.size + 0) (cs := v4a q P p P' p') (by omega)) (g := w.heap.size + 1) (cs := pqa ⟨q.proto, n2 q.dat (ppQ q.proto true), n2 q.dat (ppQ q.proto false)⟩) (by omega)
          exact bodyPost_ret (resCC rfl rfl rfl (run_loadVar_row _ _ _ 48 (v4a q P p P' p') _ _ ((setRow_other _ _ _ _ (by omega)).trans (setRow_heap _ _ _ _ _ _ hgo14)) Try.underlying48 rfl (by kernel_rfl)) (pq_load_run (setRow_heap _ _ _ _ _ _ hgo15) rfl)) rfl ⟨P, p, P', p', by rw [VQ.out, VP.out, EQ.out]; rfl, by rw [VQ.out]; exact Made.of_own (own_base oo9 (by omega)) hS.1.b, by rw [VQ.out]; exact Made.of_own (own_base od9 (by omega)) hS.1.b⟩
  · have dE : (E != 0) = true := by simpa using hE
    rw [if_pos hE] at hqE
    have EQ := Lib.hid (show qE b = E by exact hqE)
    have VQ := Lib.hid (show qV b = p4z from (qE_ne (by rw [EQ.out]; exact hE)).1)
    have VP := Lib.hid (show poV b = pqv pqz from (qE_ne (by rw [EQ.out]; exact hE)).2)
    clear hqE
    obtain ⟨c1, n1, g1⟩ := hL.at_ (i := 0) rfl
    go_wp2_with (first
      | ((with_reducible show wpList _ _ _ (Oper.mk _ (Op.store 48 (Operand.tmp 2) _) _ _ _ _ :: _) _ _); refine v4_store (g := w.heap.size) (cs := v4a p4z none 0 none 0) rfl rfl g1 n1 rfl (v4a_one _ _ _ _ _) ?_; have hL1 := hL.row (i := 0) rfl (v4a p4z none 0 none 0) rfl; obtain ⟨c2, n2, g2⟩ := hL1.at_ (i := 1) rfl)
      | ((with_reducible show wpList _ _ _ (Oper.mk _ (Op.store 50 (Operand.tmp 3) _) _ _ _ _ :: _) _ _); refine pq_store (g := w.heap.size + 1) (cs := pqa pqz) rfl rfl g2 n2 rfl (pq_one _) ?_; have hL2 := hL1.row (i := 1) rfl (pqa pqz) rfl))
    exact bodyPost_ret (resCC rfl rfl rfl (run_loadVar_row _ _ _ 48 (v4a p4z none 0 none 0) _ _ ((setRow_other _ _ _ _ (by omega)).trans (setRow_heap _ _ _ _ _ _ g1)) Try.underlying48 rfl (by kernel_rfl)) (pq_load_run (setRow_heap _ _ _ _ _ _ g2) rfl)) rfl ⟨none, 0, none, 0, by rw [VQ.out, VP.out, EQ.out]; rfl, by rw [VQ.out]; exact Made.nil _ _ hL2.b, by rw [VQ.out]; exact Made.nil _ _ hL2.b⟩
set_option maxRecDepth 100000 in
set_option maxHeartbeats 4000000 in
theorem rqports (b : List UInt8) (A : Option Addr) (c B : Nat) (w : World) (hA : Arg w B A c b) (hB : B ≤ w.heap.size) (hl : b.length ≤ 1000000) :
    Calls Try.prog 25 #[.slice A b.length c] w fun e w' => ∃ P p P' p', e = .returned (.tuple #[v4v (qV b) P p P' p', poV b, .int .i64 (qE b)]) ∧ Made w w' (.slice P (qV b).opt.length p) (qV b).opt ∧ Made w w' (.slice P' (qV b).dat.length p') (qV b).dat := by
  have hL0 : OwnL w ([(48, 11)] ++ [(50, 3)]) ((w.alloc (.cells #[.int .i64 0, .int .i64 0, .int .i64 0, .int .i64 0, .int .i64 0, .int .i64 0, .int .i64 0, .bool false, .bool false, .slice none 0 0, .slice none 0 0] 48)).alloc (.cells #[.int .i64 0, .int .i64 0, .int .i64 0] 50)) :=
    ((OwnL.nil w).push rfl #[.int .i64 0, .int .i64 0, .int .i64 0, .int .i64 0, .int .i64 0, .int .i64 0, .int .i64 0, .bool false, .bool false, .slice none 0 0, .slice none 0 0] 48).push (by simp) #[.int .i64 0, .int .i64 0, .int .i64 0] 50
  obtain ⟨q, hq⟩ : ∃ q, q = prsV b true := ⟨_, rfl⟩
  obtain ⟨E, hEe⟩ : ∃ E, E = prsE b true := ⟨_, rfl⟩
  have HE := Lib.hid hEe
  have HQ := Lib.hid hq
  have hqE : qE b = if E ≠ 0 then E else if 0 < q.off then 4 else if q.dat.length < 8 then 3 else if q.proto = 17 ∨ q.proto = 6 then 0 else if q.proto = 1 ∧ qryI (byt q.dat 0) = true then 0 else 8 := by rw [hEe, hq]; rfl
  have hql : q.dat.length ≤ 1000000 := by
    rw [hq, prsV]
    split
    · show (((b.take _).drop _).length ≤ _)
      simp; omega
    · exact Nat.zero_le _
  obtain ⟨QE, hQE⟩ : ∃ x, x = qE b := ⟨_, rfl⟩
  obtain ⟨QV, hQV⟩ : ∃ x, x = qV b := ⟨_, rfl⟩
  obtain ⟨PV, hPV⟩ : ∃ x, x = poV b := ⟨_, rfl⟩
  clear hq hEe
  go_enter Try.func25, Try.ntmps25
  go_upto_region 1 with fail
  generalize (w.alloc (.cells #[.int .i64 0, .int .i64 0, .int .i64 0, .int .i64 0, .int .i64 0, .int .i64 0, .int .i64 0, .bool false, .bool false, .slice none 0 0, .slice none 0 0] 48)).alloc (.cells #[.int .i64 0, .int .i64 0, .int .i64 0] 50) = W at *
  have hL : OwnL w [(48, 11), (50, 3)] W := hL0
  have hL0s := hL.lt (i := 1) rfl
  clear hL0
  go_upto_region 2 with (first
    | (go_at_call 55; refine (r5quoted b A c W B (hA.below (hL.b.mono hB)) (Nat.le_trans hB hL.b.size) hl).mono ?_; rintro e w1 ⟨P, p, P', p', rfl, mo, md⟩; rw [← HQ.out] at mo md; rw [← HQ.out, ← HE.out])
    | ((with_reducible show wpList _ _ _ (Oper.mk _ (Op.store _ _ _) _ _ _ _ :: _) _ _); refine v4_store_new (cs := v4a q P p P' p') rfl rfl rfl rfl (v4a_one _ _ _ _ _) ?_))
  have hLw := hL.step mo.below
  have x1V : Below w1.heap.size w1 (w1.alloc (.cells (v4a q P p P' p') 48)) := (Below.refl _ _).alloc (Nat.le_refl _) _
  have hL := hLw.step x1V
  have at5 := At4.new (q := q) (A := P) (c := p) (A' := P') (c' := p') w1
  have hz5 : w1.heap.size < (w1.alloc (.cells (v4a q P p P' p') 48)).heap.size := by simp
  have hzW : w.heap.size + 2 ≤ W.heap.size := by have := hL0s; omega
  generalize w1.alloc (.cells (v4a q P p P' p') 48) = V at *
  have kof := at5.off
  have kdt := at5.dat
  have kpr := at5.proto
  have hz1 := mo.below.size
  by_cases hE : E = 0
  · subst hE
    rw [if_neg (by simp)] at hqE
    by_cases ho : 0 < q.off
    · have dO : decide (0 < q.off) = true := by simpa using ho
      rw [if_pos ho] at hqE
      have EQ := Lib.hid (show qE b = 4 by exact hqE)
      have VQ := Lib.hid (show qV b = p4z from (qE_ne (by rw [EQ.out]; decide)).1)
      have VP := Lib.hid (show poV b = pqv pqz from (qE_ne (by rw [EQ.out]; decide)).2)
      clear hqE
      obtain ⟨c1, n1, g1⟩ := hL.at_ (i := 0) rfl
      go_wp2_with (first
        | ((with_reducible show wpList _ _ _ (Oper.mk _ (Op.store 48 (Operand.tmp 2) _) _ _ _ _ :: _) _ _); refine v4_store (g := w.heap.size) (cs := v4a p4z none 0 none 0) rfl rfl g1 n1 rfl (v4a_one _ _ _ _ _) ?_; have hL1 := hL.row (i := 0) rfl (v4a p4z none 0 none 0) rfl; obtain ⟨c2, n2, g2⟩ := hL1.at_ (i := 1) rfl)
        | ((with_reducible show wpList _ _ _ (Oper.mk _ (Op.store 50 (Operand.tmp 3) _) _ _ _ _ :: _) _ _); refine pq_store (g := w.heap.size + 1) (cs := pqa pqz) rfl rfl g2 n2 rfl (pq_one _) ?_; have hL2 := hL1.row (i := 1) rfl (pqa pqz) rfl))
      exact bodyPost_ret (resCC rfl rfl rfl (run_loadVar_row _ _ _ 48 (v4a p4z none 0 none 0) _ _ ((setRow_other _ _ _ _ (by omega)).trans (setRow_heap _ _ _ _ _ _ g1)) Try.underlying48 rfl (by kernel_rfl)) (pq_load_run (setRow_heap _ _ _ _ _ _ g2) rfl)) rfl ⟨none, 0, none, 0, by rw [VQ.out, VP.out, EQ.out]; rfl, by rw [VQ.out]; exact Made.nil _ _ hL2.b, by rw [VQ.out]; exact Made.nil _ _ hL2.b⟩
    · have dO : decide (0 < q.off) = false := by simpa using ho
      rw [if_neg ho] at hqE
      by_cases h8 : q.dat.length < 8
      · have d8 : decide ((q.dat.length : Int) < 8) = true := by simp; omega
        rw [if_pos h8] at hqE
        have EQ := Lib.hid (show qE b = 3 by exact hqE)
        have VQ := Lib.hid (show qV b = p4z from (qE_ne (by rw [EQ.out]; decide)).1)
        have VP := Lib.hid (show poV b = pqv pqz from (qE_ne (by rw [EQ.out]; decide)).2)
        clear hqE
        obtain ⟨c1, n1, g1⟩ := hL.at_ (i := 0) rfl
        go_wp2_with (first
          | ((with_reducible show wpList _ _ _ (Oper.mk _ (Op.store 48 (Operand.tmp 2) _) _ _ _ _ :: _) _ _); refine v4_store (g := w.heap.size) (cs := v4a p4z none 0 none 0) rfl rfl g1 n1 rfl (v4a_one _ _ _ _ _) ?_; have hL1 := hL.row (i := 0) rfl (v4a p4z none 0 none 0) rfl; obtain ⟨c2, n2, g2⟩ := hL1.at_ (i := 1) rfl)
          | ((with_reducible show wpList _ _ _ (Oper.mk _ (Op.store 50 (Operand.tmp 3) _) _ _ _ _ :: _) _ _); refine pq_store (g := w.heap.size + 1) (cs := pqa pqz) rfl rfl g2 n2 rfl (pq_one _) ?_; have hL2 := hL1.row (i := 1) rfl (pqa pqz) rfl))
        exact bodyPost_ret (resCC rfl rfl rfl (run_loadVar_row _ _ _ 48 (v4a p4z none 0 none 0) _ _ ((setRow_other _ _ _ _ (by omega)).trans (setRow_heap _ _ _ _ _ _ g1)) Try.underlying48 rfl (by kernel_rfl)) (pq_load_run (setRow_heap _ _ _ _ _ _ g2) rfl)) rfl ⟨none, 0, none, 0, by rw [VQ.out, VP.out, EQ.out]; rfl, by rw [VQ.out]; exact Made.nil _ _ hL2.b, by rw [VQ.out]; exact Made.nil _ _ hL2.b⟩
      · have d8 : decide ((q.dat.length : Int) < 8) = false := by simp; omega
        rw [if_neg h8] at hqE
        have hzq : W.heap.size ≤ V.heap.size := Nat.le_trans hz1 (Nat.le_of_lt hz5)
        obtain ⟨_, _, eo, go, oo, _⟩ := made_shape mo
        cases eo
        obtain ⟨_, _, ed, gd, od, _⟩ := made_shape md
        cases ed
        have gdV := gd.below x1V
        have ooV := own_below oo x1V
        have odV := own_below od x1V
        have A5 : ∀ V', HiL w [(48, 11), (50, 3)] V V' → At4 V' w1.heap.size q P p P' p' := fun V' h => h.range at5 (by show w.heap.size + 2 ≤ _; omega) (by omega)
        have gdD : Arg V.drew w1.heap.size P' p' q.dat := ⟨gdV.rd, gdV.cap, gdV.none_⟩
        have hvq : qE b = 0 → qV b = q ∧ poV b = pqv ⟨q.proto, n2 q.dat (ppQ q.proto true), n2 q.dat (ppQ q.proto false)⟩ := fun h0 => by
          refine ⟨by rw [qV, if_pos h0, ← HQ.out], ?_⟩
          rw [poV, poP, poN, poN, if_pos h0, if_pos h0, if_pos h0, ← HQ.out]; rfl
        by_cases h67 : q.proto = 17 ∨ q.proto = 6
        · rw [if_pos h67] at hqE
          obtain ⟨hv1, hv2⟩ := hvq hqE
          have hpp : ppQ q.proto true = 0 ∧ ppQ q.proto false = 2 := by
            have h1 : ¬ q.proto = 1 := by omega
            exact ⟨by rw [ppQ, if_neg h1]; rfl, by rw [ppQ, if_neg h1]; rfl⟩
          rw [hpp.1, hpp.2] at hv2
          have EQ := Lib.hid hqE
          have VQ := Lib.hid hv1
          have VP := Lib.hid hv2
          clear hvq hqE hv1 hv2 hpp
          have hcs : ((q.proto == 6) = true) ∨ ((q.proto == 6) = false ∧ (q.proto == 17) = true) := by
            rcases h67 with h | h
            · exact .inr ⟨by simp [h], by simp [h]⟩
            · exact .inl (by simp [h])
          rcases hcs with d6 | ⟨d6, d17⟩
          · go_upto_region 9 with fail
            refine wp_region_held_drew (S := HiL w [(48, 11), (50, 3)] V) (by kernel_rfl) (HiL.start hL) (fun hS => ?_)
            refine held_pure (i := 0) (oi := ⟨some 40, _, _, _, _, _⟩) rfl (by kernel_rfl) (by kernel_rfl) (by kernel_rfl) (fun _ _ _ h => h) (by rfl) (fun w hSw => run_load_v4 rfl rfl (A5 _ hSw) rfl) hS (fun hS => ?_)
            try go_frame
            refine held_pure (i := 1) (oi := ⟨some 41, _, _, _, _, _⟩) rfl (by kernel_rfl) (by kernel_rfl) (by kernel_rfl) (fun _ _ _ h => h) (by rfl) (v := ?_) (fun w hSw => ?_) hS (fun hS => ?_)
            rotate_left
            · go_simp; try with_reducible rfl
            try go_frame
            refine held_pure (i := 2) (oi := ⟨some 42, _, _, _, _, _⟩) rfl (by kernel_rfl) (by kernel_rfl) (by kernel_rfl) (fun _ _ _ h => h) (by rfl) (fun w hSw => run_load_int rfl rfl (A5 _ hSw).proto) hS (fun hS => ?_)
            try go_frame
            refine held_pure (i := 3) (oi := ⟨some 43, _, _, _, _, _⟩) rfl (by kernel_rfl) (by kernel_rfl) (by kernel_rfl) (fun _ _ _ h => h) (by rfl) (v := ?_) (fun w hSw => ?_) hS (fun hS => ?_)
            rotate_left
            · go_simp; try with_reducible rfl
            try go_frame
            refine held_pure (i := 4) (oi := ⟨some 44, _, _, _, _, _⟩) rfl (by kernel_rfl) (by kernel_rfl) (by kernel_rfl) (fun _ _ _ h => h) (by rfl) (fun w hSw => run_load_sl rfl rfl (A5 _ hSw).dat) hS (fun hS => ?_)
            try go_frame
            refine held_pure (i := 6) (oi := ⟨some 46, _, _, _, _, _⟩) rfl (by kernel_rfl) (by kernel_rfl) (by kernel_rfl) (fun _ _ _ h => h) (by rfl) (v := ?_) (fun w hSw => ?_) hS (fun hS => ?_)
            rotate_left
            · go_simp; try with_reducible rfl
            try go_frame
            refine held_pure (i := 7) (oi := ⟨some 47, _, _, _, _, _⟩) rfl (by kernel_rfl) (by kernel_rfl) (by kernel_rfl) (fun _ _ _ h => h) (by rfl) (fun w hSw => run_load_sl rfl rfl (A5 _ hSw).dat) hS (fun hS => ?_)
            try go_frame
            refine wpAnyH_ready (rs := [5]) (by kernel_rfl) (by simp) (AllReadyH.cons (o := ⟨some 45, _, _, _, _, _⟩) rfl (fun K hK => ?_) AllReadyH.nil)
            rw [if_pos (by rfl)]
            go_simp
            refine (rqnum q.dat P' p' w1.heap.size 0 _ gdD hql (by omega)).mono ?_
            rintro e w5 ⟨rfl, rfl⟩
            show K _ _
            refine hK.out _ _ hS (fun hS => ?_)
            clear hK K
            try go_frame
            refine wpAnyH_ready (rs := [8]) (by kernel_rfl) (by simp) (AllReadyH.cons (o := ⟨some 48, _, _, _, _, _⟩) rfl (fun K hK => ?_) AllReadyH.nil)
            rw [if_pos (by rfl)]
            go_simp
            refine (rqnum q.dat P' p' w1.heap.size 2 _ gdD hql (by omega)).mono ?_
            rintro e w8 ⟨rfl, rfl⟩
            show K _ _
            refine hK.out _ _ hS (fun hS => ?_)
            clear hK K
            try go_frame
            refine held_pure (i := 9) (oi := ⟨some 49, _, _, _, _, _⟩) rfl (by kernel_rfl) (by kernel_rfl) (by kernel_rfl) (fun _ _ _ h => h) (by rfl) (v := ?_) (fun w hSw => ?_) hS (fun hS => ?_)
            rotate_left
            · go_simp; try with_reducible rfl
            try go_frame
            refine wpAnyH_ready (rs := [10]) (by kernel_rfl) (by simp) (AllReadyH.cons (o := ⟨none, _, _, _, _, _⟩) rfl (fun K hK => ?_) AllReadyH.nil)
            rw [if_pos (by rfl)]
            obtain ⟨old10, hold10, hgo10⟩ := hS.1.at_ (i := 0) rfl
            have hrow10 := hS.row (i := 0) rfl (v4a q P p P' p') rfl
            refine wp_store_row 48 _ _ rfl (w.heap.size + 0) (v4a q P p P' p') rfl rfl 48 old10 hgo10 (by kernel_rfl) hold10 (v4a_one _ _ _ _ _) ?_
            refine hK.out _ _ hrow10 (fun hS => ?_)
            clear hK K hrow10
            try go_frame
            refine wpAnyH_ready (rs := [11]) (by kernel_rfl) (by simp) (AllReadyH.cons (o := ⟨none, _, _, _, _, _⟩) rfl (fun K hK => ?_) AllReadyH.nil)
            rw [if_pos (by rfl)]
            obtain ⟨old11, hold11, hgo11⟩ := hS.1.at_ (i := 1) rfl
            have hrow11 := hS.row (i := 1) rfl (pqa ⟨q.proto, n2 q.dat 0, n2 q.dat 2⟩) rfl
            refine wp_store_row 50 _ _ rfl (w.heap.size + 1) (pqa ⟨q.proto, n2 q.dat 0, n2 q.dat 2⟩) rfl rfl 50 old11 hgo11 (by kernel_rfl) hold11 (pq_one _) ?_
            refine hK.out _ _ hrow11 (fun hS => ?_)
            clear hK K hrow11
            try go_frame
            refine held_pure (i := 12) (oi := ⟨some 4, _, _, _, _, _⟩) rfl (by kernel_rfl) (by kernel_rfl) (by kernel_rfl) (fun _ _ _ h => h) (by rfl) (v := ?_) (fun w hSw => ?_) hS (fun hS => ?_)
            rotate_left
            · go_simp; try with_reducible rfl
            try go_frame
            refine wpAnyH_done (by kernel_rfl) ?_ _
            go_wp2_with fail
            have oo9 := own_setRow (own_setRow (World.ownsRow.drew ooV) (g := w.heap.size + 0) (cs := v4a q P p P' p') (by omega)) (g := w.heap.size + 1) (cs := pqa ⟨q.proto, n2 q.dat 0, n2 q.dat 2⟩) (by omega)
            have od9 := own_setRow (own_setRow (World.ownsRow.drew odV) (g := w.heap.size + 0) (cs := v4a q P p P' p') (by omega)) (g := w.heap.size + 1) (cs := pqa ⟨q.proto, n2 q.dat 0, n2 q.dat 2⟩) (by omega)
            exact bodyPost_ret (resCC rfl rfl rfl (run_loadVar_row _ _ _ 48 (v4a q P p P' p') _ _ ((setRow_other _ _ _ _ (by omega)).trans (setRow_heap _ _ _ _ _ _ hgo10)) Try.underlying48 rfl (by kernel_rfl)) (pq_load_run (setRow_heap _ _ _ _ _ _ hgo11) rfl)) rfl ⟨P, p, P', p', by rw [VQ.out, VP.out, EQ.out]; rfl, by rw [VQ.out]; exact Made.of_own (own_base oo9 (by omega)) hS.1.b, by rw [VQ.out]; exact Made.of_own (own_base od9 (by omega)) hS.1.b⟩
          · go_upto_region 9 with fail
            refine wp_region_held_drew (S := HiL w [(48, 11), (50, 3)] V) (by kernel_rfl) (HiL.start hL) (fun hS => ?_)
            refine held_pure (i := 0) (oi := ⟨some 40, _, _, _, _, _⟩) rfl (by kernel_rfl) (by kernel_rfl) (by kernel_rfl) (fun _ _ _ h => h) (by rfl) (fun w hSw => run_load_v4 rfl rfl (A5 _ hSw) rfl) hS (fun hS => ?_)
            try go_frame
            refine held_pure (i := 1) (oi := ⟨some 41, _, _, _, _, _⟩) rfl (by kernel_rfl) (by kernel_rfl) (by kernel_rfl) (fun _ _ _ h => h) (by rfl) (v := ?_) (fun w hSw => ?_) hS (fun hS => ?_)
            rotate_left
            · go_simp; try with_reducible rfl
            try go_frame
            refine held_pure (i := 2) (oi := ⟨some 42, _, _, _, _, _⟩) rfl (by kernel_rfl) (by kernel_rfl) (by kernel_rfl) (fun _ _ _ h => h) (by rfl) (fun w hSw => run_load_int rfl rfl (A5 _ hSw).proto) hS (fun hS => ?_)
            try go_frame
            refine held_pure (i := 3) (oi := ⟨some 43, _, _, _, _, _⟩) rfl (by kernel_rfl) (by kernel_rfl) (by kernel_rfl) (fun _ _ _ h => h) (by rfl) (v := ?_) (fun w hSw => ?_) hS (fun hS => ?_)
            rotate_left
            · go_simp; try with_reducible rfl
            try go_frame
            refine held_pure (i := 4) (oi := ⟨some 44, _, _, _, _, _⟩) rfl (by kernel_rfl) (by kernel_rfl) (by kernel_rfl) (fun _ _ _ h => h) (by rfl) (fun w hSw => run_load_sl rfl rfl (A5 _ hSw).dat) hS (fun hS => ?_)
            try go_frame
            refine held_pure (i := 6) (oi := ⟨some 46, _, _, _, _, _⟩) rfl (by kernel_rfl) (by kernel_rfl) (by kernel_rfl) (fun _ _ _ h => h) (by rfl) (v := ?_) (fun w hSw => ?_) hS (fun hS => ?_)
            rotate_left
            · go_simp; try with_reducible rfl
            try go_frame
            refine held_pure (i := 7) (oi := ⟨some 47, _, _, _, _, _⟩) rfl (by kernel_rfl) (by kernel_rfl) (by kernel_rfl) (fun _ _ _ h => h) (by rfl) (fun w hSw => run_load_sl rfl rfl (A5 _ hSw).dat) hS (fun hS => ?_)
            try go_frame
            refine wpAnyH_ready (rs := [5]) (by kernel_rfl) (by simp) (AllReadyH.cons (o := ⟨some 45, _, _, _, _, _⟩) rfl (fun K hK => ?_) AllReadyH.nil)
            rw [if_pos (by rfl)]
            go_simp
            refine (rqnum q.dat P' p' w1.heap.size 0 _ gdD hql (by omega)).mono ?_
            rintro e w5 ⟨rfl, rfl⟩
            show K _ _
            refine hK.out _ _ hS (fun hS => ?_)
            clear hK K
            try go_frame
            refine wpAnyH_ready (rs := [8]) (by kernel_rfl) (by simp) (AllReadyH.cons (o := ⟨some 48, _, _, _, _, _⟩) rfl (fun K hK => ?_) AllReadyH.nil)
            rw [if_pos (by rfl)]
            go_simp
            refine (rqnum q.dat P' p' w1.heap.size 2 _ gdD hql (by omega)).mono ?_
            rintro e w8 ⟨rfl, rfl⟩
            show K _ _
            refine hK.out _ _ hS (fun hS => ?_)
            clear hK K
            try go_frame
            refine held_pure (i := 9) (oi := ⟨some 49, _, _, _, _, _⟩) rfl (by kernel_rfl) (by kernel_rfl) (by kernel_rfl) (fun _ _ _ h => h) (by rfl) (v := ?_) (fun w hSw => ?_) hS (fun hS => ?_)
            rotate_left
            · go_simp; try with_reducible rfl
            try go_frame
            refine wpAnyH_ready (rs := [10]) (by kernel_rfl) (by simp) (AllReadyH.cons (o := ⟨none, _, _, _, _, _⟩) rfl (fun K hK => ?_) AllReadyH.nil)
            rw [if_pos (by rfl)]
            obtain ⟨old10, hold10, hgo10⟩ := hS.1.at_ (i := 0) rfl
            have hrow10 := hS.row (i := 0) rfl (v4a q P p P' p') rfl
            refine wp_store_row 48 _ _ rfl (w.heap.size + 0) (v4a q P p P' p') rfl rfl 48 old10 hgo10 (by kernel_rfl) hold10 (v4a_one _ _ _ _ _) ?_
            refine hK.out _ _ hrow10 (fun hS => ?_)
            clear hK K hrow10
            try go_frame
            refine wpAnyH_ready (rs := [11]) (by kernel_rfl) (by simp) (AllReadyH.cons (o := ⟨none, _, _, _, _, _⟩) rfl (fun K hK => ?_) AllReadyH.nil)
            rw [if_pos (by rfl)]
            obtain ⟨old11, hold11, hgo11⟩ := hS.1.at_ (i := 1) rfl
            have hrow11 := hS.row (i := 1) rfl (pqa ⟨q.proto, n2 q.dat 0, n2 q.dat 2⟩) rfl
            refine wp_store_row 50 _ _ rfl (w.heap.size + 1) (pqa ⟨q.proto, n2 q.dat 0, n2 q.dat 2⟩) rfl rfl 50 old11 hgo11 (by kernel_rfl) hold11 (pq_one _) ?_
            refine hK.out _ _ hrow11 (fun hS => ?_)
            clear hK K hrow11
            try go_frame
            refine held_pure (i := 12) (oi := ⟨some 4, _, _, _, _, _⟩) rfl (by kernel_rfl) (by kernel_rfl) (by kernel_rfl) (fun _ _ _ h => h) (by rfl) (v := ?_) (fun w hSw => ?_) hS (fun hS => ?_)
            rotate_left
            · go_simp; try with_reducible rfl
            try go_frame
            refine wpAnyH_done (by kernel_rfl) ?_ _
            go_wp2_with fail
            have oo9 := own_setRow (own_setRow (World.ownsRow.drew ooV) (g := w.heap.size + 0) (cs := v4a q P p P' p') (by omega)) (g := w.heap.size + 1) (cs := pqa ⟨q.proto, n2 q.dat 0, n2 q.dat 2⟩) (by omega)
            have od9 := own_setRow (own_setRow (World.ownsRow.drew odV) (g := w.heap.size + 0) (cs := v4a q P p P' p') (by omega)) (g := w.heap.size + 1) (cs := pqa ⟨q.proto, n2 q.dat 0, n2 q.dat 2⟩) (by omega)
            exact bodyPost_ret (resCC rfl rfl rfl (run_loadVar_row _ _ _ 48 (v4a q P p P' p') _ _ ((setRow_other _ _ _ _ (by omega)).trans (setRow_heap _ _ _ _ _ _ hgo10)) Try.underlying48 rfl (by kernel_rfl)) (pq_load_run (setRow_heap _ _ _ _ _ _ hgo11) rfl)) rfl ⟨P, p, P', p', by rw [VQ.out, VP.out, EQ.out]; rfl, by rw [VQ.out]; exact Made.of_own (own_base oo9 (by omega)) hS.1.b, by rw [VQ.out]; exact Made.of_own (own_base od9 (by omega)) hS.1.b⟩
        · rw [if_neg h67] at hqE
          have d6 : (q.proto == 6) = false := by simp only [beq_eq_false_iff_ne]; exact fun h => h67 (.inr h)
          have d17 : (q.proto == 17) = false := by simp only [beq_eq_false_iff_ne]; exact fun h => h67 (.inl h)
          by_cases h1 : q.proto = 1
          · have d1 : (q.proto == 1) = true := by simpa using h1
            obtain ⟨b0, off, hP', hb0, hc0⟩ := gdV.rd (by omega)
            rw [hP'] at kdt
            clear hP'
            have kd0 := hc0 0 (by omega)
            rw [Nat.add_zero] at kd0
            obtain ⟨X0, hX0⟩ : ∃ x, x = byt q.dat 0 := ⟨_, rfl⟩
            have HX0 : IntKind.i64.wrap X0 = X0 := IntWalk.i64_in X0 (by have := byt_lo q.dat 0; have := byt_hi q.dat 0; omega)
            rw [← hX0] at kd0 hqE
            obtain ⟨QR, hQR⟩ : ∃ r, qryI X0 = r := ⟨_, rfl⟩
            have HQR := Lib.hid hQR
            rw [hQR] at hqE
            clear hc0 hX0 hQR
            cases QR
            · rw [if_neg (by simp)] at hqE
              clear hvq
              have EQ := Lib.hid (show qE b = 8 by exact hqE)
              have VQ := Lib.hid (show qV b = p4z from (qE_ne (by rw [EQ.out]; decide)).1)
              have VP := Lib.hid (show poV b = pqv pqz from (qE_ne (by rw [EQ.out]; decide)).2)
              clear hqE
              obtain ⟨c1, n1, g1⟩ := hL.at_ (i := 0) rfl
              go_wp2_with (first
                | ((with_reducible show wpList _ _ _ (Oper.mk _ (Op.store 48 (Operand.tmp 2) _) _ _ _ _ :: _) _ _); refine v4_store (g := w.heap.size) (cs := v4a p4z none 0 none 0) rfl rfl g1 n1 rfl (v4a_one _ _ _ _ _) ?_; have hL1 := hL.row (i := 0) rfl (v4a p4z none 0 none 0) rfl; obtain ⟨c2, n2, g2⟩ := hL1.at_ (i := 1) rfl)
                | ((with_reducible show wpList _ _ _ (Oper.mk _ (Op.store 50 (Operand.tmp 3) _) _ _ _ _ :: _) _ _); refine pq_store (g := w.heap.size + 1) (cs := pqa pqz) rfl rfl g2 n2 rfl (pq_one _) ?_; have hL2 := hL1.row (i := 1) rfl (pqa pqz) rfl)
                | (go_at_call 57; refine (rIquery _ _).mono ?_; rintro e w2 ⟨rfl, rfl⟩; rw [HQR.out]))
              exact bodyPost_ret (resCC rfl rfl rfl (run_loadVar_row _ _ _ 48 (v4a p4z none 0 none 0) _ _ ((setRow_other _ _ _ _ (by omega)).trans (setRow_heap _ _ _ _ _ _ g1)) Try.underlying48 rfl (by kernel_rfl)) (pq_load_run (setRow_heap _ _ _ _ _ _ g2) rfl)) rfl ⟨none, 0, none, 0, by rw [VQ.out, VP.out, EQ.out]; rfl, by rw [VQ.out]; exact Made.nil _ _ hL2.b, by rw [VQ.out]; exact Made.nil _ _ hL2.b⟩
            · rw [if_pos ⟨h1, rfl⟩] at hqE
              obtain ⟨hv1, hv2⟩ := hvq hqE
              rw [h1] at hv2
              have EQ := Lib.hid hqE
              have VQ := Lib.hid hv1
              have VP := Lib.hid (show poV b = pqv ⟨1, n2 q.dat 4, n2 q.dat 4⟩ from hv2)
              clear hvq hqE hv1 hv2
              go_upto_region 11 with (go_at_call 57; refine (rIquery _ _).mono ?_; rintro e w2 ⟨rfl, rfl⟩; rw [HQR.out])
              refine wp_region_held_drew (S := HiL w [(48, 11), (50, 3)] V) (by kernel_rfl) (HiL.start hL) (fun hS => ?_)
              refine held_pure (i := 0) (oi := ⟨some 62, _, _, _, _, _⟩) rfl (by kernel_rfl) (by kernel_rfl) (by kernel_rfl) (fun _ _ _ h => h) (by rfl) (fun w hSw => run_load_v4 rfl rfl (A5 _ hSw) rfl) hS (fun hS => ?_)
              try go_frame
              refine held_pure (i := 1) (oi := ⟨some 63, _, _, _, _, _⟩) rfl (by kernel_rfl) (by kernel_rfl) (by kernel_rfl) (fun _ _ _ h => h) (by rfl) (v := ?_) (fun w hSw => ?_) hS (fun hS => ?_)
              rotate_left
              · go_simp; try with_reducible rfl
              try go_frame
              refine held_pure (i := 2) (oi := ⟨some 64, _, _, _, _, _⟩) rfl (by kernel_rfl) (by kernel_rfl) (by kernel_rfl) (fun _ _ _ h => h) (by rfl) (fun w hSw => run_load_sl rfl rfl (A5 _ hSw).dat) hS (fun hS => ?_)
              try go_frame
              refine held_pure (i := 4) (oi := ⟨some 66, _, _, _, _, _⟩) rfl (by kernel_rfl) (by kernel_rfl) (by kernel_rfl) (fun _ _ _ h => h) (by rfl) (v := ?_) (fun w hSw => ?_) hS (fun hS => ?_)
              rotate_left
              · go_simp; try with_reducible rfl
              try go_frame
              refine held_pure (i := 5) (oi := ⟨some 67, _, _, _, _, _⟩) rfl (by kernel_rfl) (by kernel_rfl) (by kernel_rfl) (fun _ _ _ h => h) (by rfl) (fun w hSw => run_load_sl rfl rfl (A5 _ hSw).dat) hS (fun hS => ?_)
              try go_frame
              refine wpAnyH_ready (rs := [3]) (by kernel_rfl) (by simp) (AllReadyH.cons (o := ⟨some 65, _, _, _, _, _⟩) rfl (fun K hK => ?_) AllReadyH.nil)
              rw [if_pos (by rfl)]
              go_simp
              refine (rqnum q.dat P' p' w1.heap.size 4 _ gdD hql (by omega)).mono ?_
              rintro e w3 ⟨rfl, rfl⟩
              show K _ _
              refine hK.out _ _ hS (fun hS => ?_)
              clear hK K
              try go_frame
              refine wpAnyH_ready (rs := [6]) (by kernel_rfl) (by simp) (AllReadyH.cons (o := ⟨some 68, _, _, _, _, _⟩) rfl (fun K hK => ?_) AllReadyH.nil)
              rw [if_pos (by rfl)]
              go_simp
              refine (rqnum q.dat P' p' w1.heap.size 4 _ gdD hql (by omega)).mono ?_
              rintro e w6 ⟨rfl, rfl⟩
              show K _ _
              refine hK.out _ _ hS (fun hS => ?_)
              clear hK K
              try go_frame
              refine held_pure (i := 7) (oi := ⟨some 69, _, _, _, _, _⟩) rfl (by kernel_rfl) (by kernel_rfl) (by kernel_rfl) (fun _ _ _ h => h) (by rfl) (v := ?_) (fun w hSw => ?_) hS (fun hS => ?_)
              rotate_left
              · go_simp; try with_reducible rfl
              try go_frame
              refine wpAnyH_ready (rs := [8]) (by kernel_rfl) (by simp) (AllReadyH.cons (o := ⟨none, _, _, _, _, _⟩) rfl (fun K hK => ?_) AllReadyH.nil)
              rw [if_pos (by rfl)]
              obtain ⟨old8, hold8, hgo8⟩ := hS.1.at_ (i := 0) rfl
              have hrow8 := hS.row (i := 0) rfl (v4a q P p P' p') rfl
              refine wp_store_row 48 _ _ rfl (w.heap.size + 0) (v4a q P p P' p') rfl rfl 48 old8 hgo8 (by kernel_rfl) hold8 (v4a_one _ _ _ _ _) ?_
              refine hK.out _ _ hrow8 (fun hS => ?_)
              clear hK K hrow8
              try go_frame
              refine wpAnyH_ready (rs := [9]) (by kernel_rfl) (by simp) (AllReadyH.cons (o := ⟨none, _, _, _, _, _⟩) rfl (fun K hK => ?_) AllReadyH.nil)
              rw [if_pos (by rfl)]
              obtain ⟨old9, hold9, hgo9⟩ := hS.1.at_ (i := 1) rfl
              have hrow9 := hS.row (i := 1) rfl (pqa ⟨1, n2 q.dat 4, n2 q.dat 4⟩) rfl
              refine wp_store_row 50 _ _ rfl (w.heap.size + 1) (pqa ⟨1, n2 q.dat 4, n2 q.dat 4⟩) rfl rfl 50 old9 hgo9 (by kernel_rfl) hold9 (pq_one _) ?_
              refine hK.out _ _ hrow9 (fun hS => ?_)
              clear hK K hrow9
              try go_frame
              refine held_pure (i := 10) (oi := ⟨some 4, _, _, _, _, _⟩) rfl (by kernel_rfl) (by kernel_rfl) (by kernel_rfl) (fun _ _ _ h => h) (by rfl) (v := ?_) (fun w hSw => ?_) hS (fun hS => ?_)
              rotate_left
              · go_simp; try with_reducible rfl
              try go_frame
              refine wpAnyH_done (by kernel_rfl) ?_ _
              go_wp2_with fail
              have oo9 := own_setRow (own_setRow (World.ownsRow.drew ooV) (g := w.heap.size + 0) (cs := v4a q P p P' p') (by omega)) (g := w.heap.size + 1) (cs := pqa ⟨1, n2 q.dat 4, n2 q.dat 4⟩) (by omega)
              have od9 := own_setRow (own_setRow (World.ownsRow.drew odV) (g := w.heap.size + 0) (cs := v4a q P p P' p') (by omega)) (g := w.heap.size + 1) (cs := pqa ⟨1, n2 q.dat 4, n2 q.dat 4⟩) (by omega)
              exact bodyPost_ret (resCC rfl rfl rfl (run_loadVar_row _ _ _ 48 (v4a q P p P' p') _ _ ((setRow_other _ _ _ _ (by omega)).trans (setRow_heap _ _ _ _ _ _ hgo8)) Try.underlying48 rfl (by kernel_rfl)) (pq_load_run (setRow_heap _ _ _ _ _ _ hgo9) rfl)) rfl ⟨P, p, P', p', by rw [VQ.out, VP.out, EQ.out]; rfl, by rw [VQ.out]; exact Made.of_own (own_base oo9 (by omega)) hS.1.b, by rw [VQ.out]; exact Made.of_own (own_base od9 (by omega)) hS.1.b⟩
          · have d1 : (q.proto == 1) = false := by simpa using h1
            rw [if_neg (fun h => h1 h.1)] at hqE
            clear hvq
            have EQ := Lib.hid (show qE b = 8 by exact hqE)
            have VQ := Lib.hid (show qV b = p4z from (qE_ne (by rw [EQ.out]; decide)).1)
            have VP := Lib.hid (show poV b = pqv pqz from (qE_ne (by rw [EQ.out]; decide)).2)
            clear hqE
            obtain ⟨c1, n1, g1⟩ := hL.at_ (i := 0) rfl
            go_wp2_with (first
              | ((with_reducible show wpList _ _ _ (Oper.mk _ (Op.store 48 (Operand.tmp 2) _) _ _ _ _ :: _) _ _); refine v4_store (g := w.heap.size) (cs := v4a p4z none 0 none 0) rfl rfl g1 n1 rfl (v4a_one _ _ _ _ _) ?_; have hL1 := hL.row (i := 0) rfl (v4a p4z none 0 none 0) rfl; obtain ⟨c2, n2, g2⟩ := hL1.at_ (i := 1) rfl)
              | ((with_reducible show wpList _ _ _ (Oper.mk _ (Op.store 50 (Operand.tmp 3) _) _ _ _ _ :: _) _ _); refine pq_store (g := w.heap.size + 1) (cs := pqa pqz) rfl rfl g2 n2 rfl (pq_one _) ?_; have hL2 := hL1.row (i := 1) rfl (pqa pqz) rfl))
            exact bodyPost_ret (resCC rfl rfl rfl (run_loadVar_row _ _ _ 48 (v4a p4z none 0 none 0) _ _ ((setRow_other _ _ _ _ (by omega)).trans (setRow_heap _ _ _ _ _ _ g1)) Try.underlying48 rfl (by kernel_rfl)) (pq_load_run (setRow_heap _ _ _ _ _ _ g2) rfl)) rfl ⟨none, 0, none, 0, by rw [VQ.out, VP.out, EQ.out]; rfl, by rw [VQ.out]; exact Made.nil _ _ hL2.b, by rw [VQ.out]; exact Made.nil _ _ hL2.b⟩
  · have dE : (E != 0) = true := by simpa using hE
    rw [if_pos hE] at hqE
    have EQ := Lib.hid (show qE b = E by exact hqE)
    have VQ := Lib.hid (show qV b = p4z from (qE_ne (by rw [EQ.out]; exact hE)).1)
    have VP := Lib.hid (show poV b = pqv pqz from (qE_ne (by rw [EQ.out]; exact hE)).2)
    clear hqE
    obtain ⟨c1, n1, g1⟩ := hL.at_ (i := 0) rfl
    go_wp2_with (first
      | ((with_reducible show wpList _ _ _ (Oper.mk _ (Op.store 48 (Operand.tmp 2) _) _ _ _ _ :: _) _ _); refine v4_store (g := w.heap.size) (cs := v4a p4z none 0 none 0) rfl rfl g1 n1 rfl (v4a_one _ _ _ _ _) ?_; have hL1 := hL.row (i := 0) rfl (v4a p4z none 0 none 0) rfl; obtain ⟨c2, n2, g2⟩ := hL1.at_ (i := 1) rfl)
      | ((with_reducible show wpList _ _ _ (Oper.mk _ (Op.store 50 (Operand.tmp 3) _) _ _ _ _ :: _) _ _); refine pq_store (g := w.heap.size + 1) (cs := pqa pqz) rfl rfl g2 n2 rfl (pq_one _) ?_; have hL2 := hL1.row (i := 1) rfl (pqa pqz) rfl))
    exact bodyPost_ret (resCC rfl rfl rfl (run_loadVar_row _ _ _ 48 (v4a p4z none 0 none 0) _ _ ((setRow_other _ _ _ _ (by omega)).trans (setRow_heap _ _ _ _ _ _ g1)) Try.underlying48 rfl (by kernel_rfl)) (pq_load_run (setRow_heap _ _ _ _ _ _ g2) rfl)) rfl ⟨none, 0, none, 0, by rw [VQ.out, VP.out, EQ.out]; rfl, by rw [VQ.out]; exact Made.nil _ _ hL2.b, by rw [VQ.out]; exact Made.nil _ _ hL2.b⟩
end Go.Proofs.Ytkgbjohadkbjaaa

/-
  Slices of changes; how the sum of what is within changes. Conditions are each theorem's own.
-/
namespace Go.Proofs.Ytkgbjohadkbjaaa
open Go.RowKit
theorem wp_valQ {o : Oper} {a : Act} {w : World} {K : Act → World → Prop} {Q : Exit → Act → World → Prop} {v : Value} (hrun : (execOp a.eval o).run Try.prog w = .ok (.value v) w) (h : K (a.put o.dst v) w) : o.wp Try.prog a w K Q := by
  unfold Oper.wp; rw [hrun]; exact h
theorem wp_growQ {o : Oper} {a : Act} {w w' : World} {K : Act → World → Prop} {Q : Exit → Act → World → Prop} {v : Value} (hrun : (execOp a.eval o).run Try.prog w = .ok (.value v) w') (h : K (a.put o.dst v) w') : o.wp Try.prog a w K Q := by
  unfold Oper.wp; rw [hrun]; exact h
theorem run_lookQ {o : Oper} {a : Act} {w : World} {T : TypeId} {m x : Operand} {b : Nat} {key c : Value} (ho : o.op = .lookup T m x false) (hm : a.eval m = .map (some b)) (hx : a.eval x = key)
    (h : (Instr.lookup T (.map (some b)) key false).run Try.prog w = .ok c w) : (execOp a.eval o).run Try.prog w = .ok (.value c) w := by
  unfold execOp
  simp only [ho, hm, hx, Sem.run_bind, Sem.run_pure, h, Result.andThen_ok]
def vX (x : Xc) : Value := .agg (cha x.q x.A x.c x.A' x.c')
theorem info_ch : (Try.prog.info? 126).map (fun i => (i.zero, i.size, i.bytes)) = some (some (.agg #[.int .i64 0, .slice none 0 0, .slice none 0 0]), 3, 56) := by kernel_rfl
theorem run_litX (w : World) (l : List Xc) (n : Nat) (parts : Array (Nat × Value)) (hn : n = l.length) (h0 : 0 < n) (h10 : n ≤ 10) (hp : parts.toList = (((l.map vX).zipIdx 0).map fun x => (x.2, x.1))) :
    (Instr.buildSlice 148 n parts).run Try.prog w = .ok (.slice (some ⟨w.heap.size, 0, none⟩) n n) (w.alloc (.cells (l.flatMap clX).toArray 126)) := by
  obtain ⟨i0, hi, hz0, hz1, hz2⟩ := info_parts info_ch
  refine run_buildSlice w 148 126 n parts _ i0 _ Try.underlying148 hi hz0 (by rw [hz1]; omega) (by rw [hz1]; omega) ?_
  rw [hp, hz1]
  have h := Great.fill_whole (s := 3) (by decide) (l.map vX) ((Array.range (n * 3)).map ((Value.agg #[.int .i64 0, .slice none 0 0, .slice none 0 0]).cells[· % (Value.agg #[.int .i64 0, .slice none 0 0, .slice none 0 0]).cells.size]!)) (fun v hv => by
    obtain ⟨x, _, rfl⟩ := List.mem_map.1 hv; rfl) (by simp [hn])
  rw [h, List.flatMap_map]
  rfl
theorem rds_litX (w : World) (l : List Xc) : RdS clX 3 (w.alloc (.cells (l.flatMap clX).toArray 126)) (w.heap.size + 1) (some ⟨w.heap.size, 0, none⟩) l := fun _ =>
  ⟨w.heap.size, 0, rfl, Nat.lt_succ_self _, fun j x hx i v hv => by
    rw [Nat.zero_add, World.cell?_alloc_new, List.getElem?_toArray]
    exact flat_at (cl := clX) (sz := 3) l (fun _ _ => rfl) j x hx i v hv⟩
theorem run_bsX1 {o : Oper} {a : Act} {w : World} {o0 : Operand} {x0 : Xc} (ho : o.op = .buildSlice 148 1 #[(0, o0)]) (h0 : a.eval o0 = vX x0) :
    (execOp a.eval o).run Try.prog w = .ok (.value (.slice (some ⟨w.heap.size, 0, none⟩) 1 1)) (w.alloc (.cells ([x0].flatMap clX).toArray 126)) := by
  have h := run_litX w [x0] 1 #[(0, vX x0)] rfl (by decide) (by decide) rfl
  unfold execOp
  simp only [ho, List.map_toArray, List.map_cons, List.map_nil, h0, Sem.run_bind, h, Result.andThen_ok]
  rfl
theorem run_bsX2 {o : Oper} {a : Act} {w : World} {o0 o1 : Operand} {x0 x1 : Xc} (ho : o.op = .buildSlice 148 2 #[(0, o0), (1, o1)]) (h0 : a.eval o0 = vX x0) (h1 : a.eval o1 = vX x1) :
    (execOp a.eval o).run Try.prog w = .ok (.value (.slice (some ⟨w.heap.size, 0, none⟩) 2 2)) (w.alloc (.cells ([x0, x1].flatMap clX).toArray 126)) := by
  have h := run_litX w [x0, x1] 2 #[(0, vX x0), (1, vX x1)] rfl (by decide) (by decide) rfl
  unfold execOp
  simp only [ho, List.map_toArray, List.map_cons, List.map_nil, h0, h1, Sem.run_bind, h, Result.andThen_ok]
  rfl
theorem run_bsX4 {o : Oper} {a : Act} {w : World} {o0 o1 o2 o3 : Operand} {x0 x1 x2 x3 : Xc} (ho : o.op = .buildSlice 148 4 #[(0, o0), (1, o1), (2, o2), (3, o3)]) (h0 : a.eval o0 = vX x0) (h1 : a.eval o1 = vX x1) (h2 : a.eval o2 = vX x2) (h3 : a.eval o3 = vX x3) :
    (execOp a.eval o).run Try.prog w = .ok (.value (.slice (some ⟨w.heap.size, 0, none⟩) 4 4)) (w.alloc (.cells ([x0, x1, x2, x3].flatMap clX).toArray 126)) := by
  have h := run_litX w [x0, x1, x2, x3] 4 #[(0, vX x0), (1, vX x1), (2, vX x2), (3, vX x3)] rfl (by decide) (by decide) rfl
  unfold execOp
  simp only [ho, List.map_toArray, List.map_cons, List.map_nil, h0, h1, h2, h3, Sem.run_bind, h, Result.andThen_ok]
  rfl
/-- How what is within changes. -/
def wiQ (b : List UInt8) (q : P4) (H : Nat) (fr : Bool) (a n : Int) : Ch := if sisQ q = true then ⟨((satQ q + H : Nat) : Int), (b.drop (satQ q + H)).take 2, be2 (wtQ b q H fr a n)⟩ else chz
theorem xc_nil (w : World) (B : Nat) : XcOk w B ⟨chz, none, 0, none, 0⟩ := ⟨Arg.nil _ _, Arg.nil _ _⟩
theorem v4eQ (q : P4) (A : Option Addr) (c : Nat) (A' : Option Addr) (c' : Nat) : v4v q A c A' c' = .agg (v4a q A c A' c') := rfl
theorem four_boxes (w : World) (o0 o1 o2 o3 : Obj) : ((((w.alloc o0).alloc o1).alloc o2).alloc o3).heap[w.heap.size]? = some o0 ∧ ((((w.alloc o0).alloc o1).alloc o2).alloc o3).heap[w.heap.size + 1]? = some o1 ∧ ((((w.alloc o0).alloc o1).alloc o2).alloc o3).heap[w.heap.size + 2]? = some o2 := by
  have e1 := two_heap w o0 o1
  have e2 : (((w.alloc o0).alloc o1).alloc o2).heap[w.heap.size + 2]? = some o2 := by
    have := World.alloc_heap_new ((w.alloc o0).alloc o1) o2
    rwa [show ((w.alloc o0).alloc o1).heap.size = w.heap.size + 2 by simp] at this
  exact ⟨((Below.heap_alloc _ _ _ (by simp; omega)).trans (Below.heap_alloc _ _ _ (by simp; omega))).trans (two_firstQ w o0 o1), ((Below.heap_alloc _ _ _ (by simp)).trans (Below.heap_alloc _ _ _ (by simp))).trans e1, (Below.heap_alloc _ _ _ (by simp)).trans e2⟩
theorem run_load_cxL {o : Oper} {a : Act} {w : World} {x : Operand} {g i : Nat} {y : Xc} (ho : o.op = .load 126 x) (hx : a.eval x = .pointer (some ⟨g, i, none⟩)) (hr : w.rangeAt g i (clX y)) :
    (execOp a.eval o).run Try.prog w = .ok (.value (.agg #[.int .i64 y.q.pl, .slice y.A y.q.old.length y.c, .slice y.A' y.q.now.length y.c'])) w := run_load_cx ho hx hr
theorem be2_n2 {n : Int} (h0 : 0 ≤ n) (h1 : n ≤ 65535) : n2 (be2 n) 0 = n := by
  have := n2_be2 (a := []) (b := []) (k := 0) h0 h1 rfl
  simpa using this
theorem n2_mid (b : List UInt8) (i : Nat) : n2 ((b.drop i).take 2) 0 = n2 b i := by
  unfold n2
  rw [byt_cut b i 2 (by omega), byt_cut b i 2 (by omega)]
  rfl
set_option maxRecDepth 100000 in
set_option maxHeartbeats 4000000 in
theorem cqwithin (b : List UInt8) (A : Option Addr) (c B : Nat) (q : P4) (H : Nat) (P : Option Addr) (p : Nat) (P' : Option Addr) (p' : Nat) (fr : Bool) (a n : Int) (xa xn : Xc) (w : World) (hA : Arg w B A c b) (hB : B ≤ w.heap.size) (hl : b.length ≤ 1000000) (hq : Quo b q H)
    (hxa : XcOk w w.heap.size xa) (hxn : XcOk w w.heap.size xn) (ea1 : xa.q.old = oaQ b fr) (ea2 : xa.q.now = be4 a) (en1 : xn.q.old = opQ b q H fr) (en2 : xn.q.now = be2 n) :
    Calls Try.prog 80 #[.slice A b.length c, v4v q P p P' p', vX xa, vX xn] w fun e w' => ∃ r : Xc, e = .returned (vX r) ∧ r.q = wiQ b q H fr a n ∧ XcOk w' w'.heap.size r ∧ Below w.heap.size w w' := by
  have hwf : (Lit.int .i64 q.proto).wf = true := by rcases hq.pr with (h | h) | ⟨h, _⟩ <;> rw [h] <;> decide
  have hsat : satI q.proto = (satQ q : Int) := by rcases hq.pr with (h | h) | ⟨h, _⟩ <;> simp [satI, satQ, h]
  have hsl : satQ q ≤ 16 := by unfold satQ; split; omega; split <;> omega
  have hH : head4 q = (H : Int) := by have := hq.hH; unfold head4; omega
  have ho : q.opt.length ≤ 1000000 := by have := hq.hH; have := hq.le; omega
  have hqle := hq.le
  have hcap := hA.cap
  obtain ⟨wi, hwi⟩ : ∃ x, x = wiQ b q H fr a n := ⟨_, rfl⟩
  rw [← hwi]
  obtain ⟨M, hM⟩ : ∃ x, x = wsQ b q H fr a n := ⟨_, rfl⟩
  have hMb := wsQ_bd b q H fr a n
  have hwi2 : wi = if sisQ q = true then ⟨((satQ q + H : Nat) : Int), (b.drop (satQ q + H)).take 2, be2 (if q.proto = 17 ∧ M = 0 then 65535 else M)⟩ else chz := by rw [hwi, wiQ, wtQ, hM]
  rw [← hM] at hMb
  have hn2 : satQ q + 2 ≤ q.dat.length → n2 b (satQ q + H) = n2 q.dat (satQ q) := fun h => by rw [hq.n2 (by omega), Nat.add_comm]
  have hM1 : q.proto = 1 → M = chg (n2 q.dat (satQ q)) (oldsX [xn]) (nowsX [xn]) := fun h => by rw [hM, wsQ, if_pos h]; simp [oldsX, nowsX, en1, en2]
  have hM2 : q.proto ≠ 1 → M = chg (n2 q.dat (satQ q)) (oldsX [xa, xn]) (nowsX [xa, xn]) := fun h => by rw [hM, wsQ, if_neg h]; simp [oldsX, nowsX, ea1, ea2, en1, en2]
  have lens : xa.q.old.length ≤ 10 ∧ xa.q.now.length ≤ 10 ∧ xn.q.old.length ≤ 10 ∧ xn.q.now.length ≤ 10 := by
    rw [ea1, ea2, en1, en2]
    exact ⟨by simp [oaQ]; omega, by rw [be4_len]; omega, by simp [opQ]; omega, by rw [be2_len]; omega⟩
  clear hwi hM ea1 ea2 en1 en2
  have hL0 : OwnL w ([(48, 11)] ++ [(126, 3)] ++ [(126, 3)] ++ [(126, 3)]) ((((w.alloc (.cells (v4a q P p P' p') 48)).alloc (.cells (cha xa.q xa.A xa.c xa.A' xa.c') 126)).alloc (.cells (cha xn.q xn.A xn.c xn.A' xn.c') 126)).alloc (.cells #[.int .i64 0, .slice none 0 0, .slice none 0 0] 126)) :=
    ((((OwnL.nil w).push rfl (v4a q P p P' p') 48).push (by simp) (cha xa.q xa.A xa.c xa.A' xa.c') 126).push (by simp) (cha xn.q xn.A xn.c xn.A' xn.c') 126).push (by simp) #[.int .i64 0, .slice none 0 0, .slice none 0 0] 126
  obtain ⟨g0, g1, g2⟩ := four_boxes w (.cells (v4a q P p P' p') 48) (.cells (cha xa.q xa.A xa.c xa.A' xa.c') 126) (.cells (cha xn.q xn.A xn.c xn.A' xn.c') 126) (.cells #[.int .i64 0, .slice none 0 0, .slice none 0 0] 126)
  rw [v4eQ, vX, vX]
  go_enter Try.func80, Try.ntmps80
  go_upto_region 1 with fail
  generalize (((w.alloc (.cells (v4a q P p P' p') 48)).alloc (.cells (cha xa.q xa.A xa.c xa.A' xa.c') 126)).alloc (.cells (cha xn.q xn.A xn.c xn.A' xn.c') 126)).alloc (.cells #[.int .i64 0, .slice none 0 0, .slice none 0 0] 126) = W at *
  have hL : OwnL w [(48, 11), (126, 3), (126, 3), (126, 3)] W := hL0
  clear hL0
  have hzW := hL.lt (i := 3) rfl
  have at0 := At4.ofh g0
  have atA : W.rangeAt (w.heap.size + 1) 0 (clX xa) := Atch.of_heap g1
  have atN : W.rangeAt (w.heap.size + 2) 0 (clX xn) := Atch.of_heap g2
  have kpr := at0.proto
  have KP : ∀ V : World, Below W.heap.size W V → V.cell? ⟨w.heap.size, 4, none⟩ = some (.int .i64 q.proto) := fun V h => (h.cell (p := ⟨w.heap.size, 4, none⟩) (by show w.heap.size < _; omega)).trans kpr
  clear g0 g1 g2
  refine wp_region_held_drew (S := fun w' => Below W.heap.size W w') (by kernel_rfl) (Below.refl _ W).drew (fun hS => ?_)
  refine held_pure (i := 1) (oi := ⟨some 12, _, _, _, _, _⟩) rfl (by kernel_rfl) (by kernel_rfl) (by kernel_rfl) (fun _ _ _ h => h) (by rfl) (v := ?_) (fun w hSw => ?_) hS (fun hS => ?_)
  rotate_left
  · go_simp; try with_reducible rfl
  try go_frame
  refine held_pure (i := 2) (oi := ⟨some 13, _, _, _, _, _⟩) rfl (by kernel_rfl) (by kernel_rfl) (by kernel_rfl) (fun _ _ _ h => h) (by rfl) (fun w hSw => run_load_int rfl rfl (KP _ hSw)) hS (fun hS => ?_)
  try go_frame
  refine wpAnyH_ready (rs := [0]) (by kernel_rfl) (by simp) (AllReadyH.cons (o := ⟨some 11, _, _, _, _, _⟩) rfl (fun K hK => ?_) AllReadyH.nil)
  rw [if_pos (by rfl)]
  go_simp
  refine (csumsAt _).mono ?_
  rintro e y0 ⟨m, rfl, x0, L0⟩
  show K _ _
  refine hK.out _ _ (below_step hS x0) (fun hS => ?_)
  clear hK K
  try go_frame
  refine wpAnyH_ready (rs := [3]) (by kernel_rfl) (by simp) (AllReadyH.cons (o := ⟨some 14, _, _, _, _, _⟩) rfl (fun K hK => ?_) AllReadyH.nil)
  rw [if_pos (by rfl)]
  refine wp_valQ (run_lookQ rfl rfl rfl ((L0 q.proto hwf).trans (by rw [hsat]))) ?_
  refine hK.out _ _ hS (fun hS => ?_)
  clear hK K
  try go_frame
  refine held_pure (i := 4) (oi := ⟨some 9, _, _, _, _, _⟩) rfl (by kernel_rfl) (by kernel_rfl) (by kernel_rfl) (fun _ _ _ h => h) (by rfl) (v := ?_) (fun w hSw => ?_) hS (fun hS => ?_)
  rotate_left
  · go_simp; try with_reducible rfl
  try go_frame
  refine wpAnyH_done (by kernel_rfl) ?_ _
  have hL := hL.step hS
  have at0 := at0.below hS (by omega)
  have atA := range_below atA (by omega) hS
  have atN := range_below atN (by omega) hS
  have hz0 := hS.size
  have kdt := at0.dat
  have kpr := at0.proto
  clear L0 x0 hS KP
  have hzy : w.heap.size + 3 < y0.heap.size := by omega
  by_cases hs : q.dat.length < satQ q + 2
  · have dS : decide ((q.dat.length : Int) < (satQ q : Int) + 2) = true := by simp; omega
    have HW := Lib.hid (show wi = chz by rw [hwi2, if_neg]; simp [sisQ]; intro h; omega)
    clear hwi2 hM1 hM2 hn2
    obtain ⟨c3, n3, g3⟩ := hL.at_ (i := 3) rfl
    go_wp2_with ((with_reducible show wpList _ _ _ (Oper.mk _ (Op.store _ _ _) _ _ _ _ :: _) _ _); refine ch_store (g := w.heap.size + 3) (cs := cha chz none 0 none 0) rfl rfl g3 n3 rfl (ch_one _ _ _ _ _) ?_)
    exact bodyPost_ret (ch_result rfl rfl (setRow_heap _ _ _ _ _ _ g3) rfl) rfl ⟨⟨chz, none, 0, none, 0⟩, rfl, HW.out.symm, xc_nil _ _, (hL.row (i := 3) rfl _ rfl).b⟩
  · have dS : decide ((q.dat.length : Int) < (satQ q : Int) + 2) = false := by simp; omega
    have hn2' := hn2 (by omega)
    have hi2 : (satQ q + H) + 2 ≤ b.length := by omega
    have hsis : sisQ q = !(decide (q.proto = 17) && decide (n2 q.dat 6 = 0)) := by rw [sisQ, decide_eq_true (by omega), Bool.true_and]
    obtain ⟨i, hi⟩ : ∃ i, i = satQ q + H := ⟨_, rfl⟩
    rw [← hi] at hn2' hi2 hwi2
    have HI := Lib.hid (show (satQ q : Int) + (H : Int) = (i : Int) by rw [hi]; simp)
    obtain ⟨O, hO⟩ : ∃ l, l = (b.drop i).take 2 := ⟨_, rfl⟩
    have HO := Lib.hid hO
    have hO2 : n2 O 0 = n2 b i := by rw [hO]; exact n2_mid b i
    have hOl : O.length = 2 := by rw [hO]; simp; omega
    rw [← hO] at hwi2
    rw [hn2'] at hO2
    go_upto_region 5 with (first
      | ((with_reducible show wpList _ _ _ (Oper.mk _ (Op.load 48 _) _ _ _ _ :: _) _ _); refine wpList_val rfl (run_load_v4 rfl rfl at0 rfl) ?_)
      | (go_at_call 77; refine (c4head q P p P' p' _ ho).mono ?_; rintro e y1 ⟨rfl, x1⟩; rw [hH]))
    rw [HI.out]
    have hL := hL.step x1
    have at0 := at0.below x1 (by omega)
    have atA := range_below atA (by omega) x1
    have atN := range_below atN (by omega) x1
    have kpr := at0.proto
    have hz1 := x1.size
    have hb1 : Below w.heap.size w y1 := hL.b
    have hA1 := hA.below (hb1.mono hB)
    clear kdt hn2 dS hi hs at0 x1 hO
    by_cases h1 : q.proto = 1
    · have d1 : (q.proto == 1) = true := by simpa using h1
      have HM := Lib.hid (show chg (n2 b i) (oldsX [xn]) (nowsX [xn]) = M by rw [hn2']; exact (hM1 h1).symm)
      have HW := Lib.hid (show wi = ⟨(i : Int), O, be2 M⟩ by rw [hwi2, if_pos (by rw [hsis, h1]; rfl), if_neg (by rw [h1]; simp)])
      clear hM1 hM2 hwi2 hsis hn2'
      have bN : Below w.heap.size w (y1.alloc (.cells ([xn].flatMap clX).toArray 126)) := hb1.alloc hb1.size _
      have y1N : Below y1.heap.size y1 (y1.alloc (.cells ([xn].flatMap clX).toArray 126)) := (Below.refl _ _).alloc (Nat.le_refl _) _
      have SU := cqsummed b A c B i (some ⟨y1.heap.size, 0, none⟩) 1 [xn] (y1.alloc (.cells ([xn].flatMap clX).toArray 126)) (hA1.below (y1N.mono (Nat.le_trans hB hb1.size))) (Nat.le_trans hB bN.size) hl hi2 ((rds_litX y1 [xn]).more (by simp)) (fun x hx => by
        obtain rfl : x = xn := by simpa using hx
        exact ⟨(hxn.below bN).more bN.size, lens.2.2.1, lens.2.2.2⟩) (by simp) M HM.out O HO.out
      have SU := Lib.hid SU
      have b3 : OwnL w [(48, 11), (126, 3), (126, 3), (126, 3)] (y1.alloc (.cells ([xn].flatMap clX).toArray 126)) := hL.step y1N
      clear bN lens
      go_wp2_with (first
        | ((with_reducible show wpList _ _ _ (Oper.mk _ (Op.load 126 _) _ _ _ _ :: _) _ _); refine wpList_val rfl (run_load_cxL rfl rfl atN) ?_)
        | ((with_reducible show wpList _ _ _ (Oper.mk _ (Op.buildSlice _ _ _) _ _ _ _ :: _) _ _); refine wpList_growU rfl (run_bsX1 (x0 := xn) rfl rfl) ?_)
        | (go_at_call 79; refine SU.out.mono ?_; rintro e y2 ⟨P9, p9, rfl, m9⟩; obtain ⟨_, _, e9, a9, o9, x9⟩ := made_shape m9; cases e9; have hL2 := b3.step x9; obtain ⟨c3, n3, g3⟩ := hL2.at_ (i := 3) rfl)
        | ((with_reducible show wpList _ _ _ (Oper.mk _ (Op.store _ _ _) _ _ _ _ :: _) _ _); refine ch_store (g := w.heap.size + 3) (cs := cha ⟨i, O, be2 M⟩ (cutA A c i) (c - i) P9 p9) rfl rfl g3 n3 rfl (ch_one _ _ _ _ _) ?_))
      have hOw := own_setRow o9 (g := w.heap.size + 3) (cs := cha ⟨i, O, be2 M⟩ (cutA A c i) (c - i) P9 p9) (by have := y1N.size; omega)
      have hLf := hL2.row (i := 3) rfl (cha ⟨i, O, be2 M⟩ (cutA A c i) (c - i) P9 p9) rfl
      refine bodyPost_ret (ch_result rfl rfl (setRow_heap _ _ _ _ _ _ g3) rfl) rfl ⟨⟨⟨i, O, be2 M⟩, cutA A c i, c - i, P9, p9⟩, rfl, HW.out.symm, ⟨?_, Made.arg hOw⟩, hLf.b⟩
      have hmid := (hA.below (hLf.b.mono hB)).mid i 2 hi2
      rw [← HO.out] at hmid
      exact hmid.more (Nat.le_trans hB hLf.b.size)
    · have d1 : (q.proto == 1) = false := by simpa using h1
      have HM := Lib.hid (show chg (n2 b i) (oldsX [xa, xn]) (nowsX [xa, xn]) = M by rw [hn2']; exact (hM2 h1).symm)
      have bN : Below w.heap.size w (y1.alloc (.cells ([xa, xn].flatMap clX).toArray 126)) := hb1.alloc hb1.size _
      have y1N : Below y1.heap.size y1 (y1.alloc (.cells ([xa, xn].flatMap clX).toArray 126)) := (Below.refl _ _).alloc (Nat.le_refl _) _
      have SU := cqsummed b A c B i (some ⟨y1.heap.size, 0, none⟩) 2 [xa, xn] (y1.alloc (.cells ([xa, xn].flatMap clX).toArray 126)) (hA1.below (y1N.mono (Nat.le_trans hB hb1.size))) (Nat.le_trans hB bN.size) hl hi2 ((rds_litX y1 [xa, xn]).more (by simp)) (fun x hx => by
        have hx2 : x = xa ∨ x = xn := by simpa using hx
        rcases hx2 with rfl | rfl
        · exact ⟨(hxa.below bN).more bN.size, lens.1, lens.2.1⟩
        · exact ⟨(hxn.below bN).more bN.size, lens.2.2.1, lens.2.2.2⟩) (by simp) M HM.out O HO.out
      have SU := Lib.hid SU
      have b3 : OwnL w [(48, 11), (126, 3), (126, 3), (126, 3)] (y1.alloc (.cells ([xa, xn].flatMap clX).toArray 126)) := hL.step y1N
      clear bN lens hM1 hM2
      go_upto_region 8 with (first
        | ((with_reducible show wpList _ _ _ (Oper.mk _ (Op.load 126 _) _ _ _ _ :: _) _ _); refine wpList_val rfl (run_load_cxL rfl rfl atA) ?_)
        | ((with_reducible show wpList _ _ _ (Oper.mk _ (Op.load 126 _) _ _ _ _ :: _) _ _); refine wpList_val rfl (run_load_cxL rfl rfl atN) ?_)
        | (go_at_call 79; refine SU.out.mono ?_; rintro e y2 ⟨P9, p9, rfl, m9⟩; obtain ⟨_, _, e9, a9, o9, x9⟩ := made_shape m9; cases e9; have hL2 := b3.step x9)
        | ((with_reducible show wpList _ _ _ (Oper.mk _ (Op.store _ _ _) _ _ _ _ :: _) _ _); refine ch_store_new (cs := cha ⟨i, O, be2 M⟩ (cutA A c i) (c - i) P9 p9) rfl rfl rfl rfl (ch_one _ _ _ _ _) ?_))
      have hyN := y1N.size
      have hy2 := x9.size
      have kpr := ((y1N.trans (x9.mono hyN)).cell (p := ⟨w.heap.size, 4, none⟩) (by show w.heap.size < _; omega)).trans kpr
      have yV : Below y2.heap.size y2 (y2.alloc (.cells (cha ⟨i, O, be2 M⟩ (cutA A c i) (c - i) P9 p9) 126)) := (Below.refl _ _).alloc (Nat.le_refl _) _
      have at10 := Atch.new (q := ⟨i, O, be2 M⟩) (A := cutA A c i) (c := c - i) (A' := P9) (c' := p9) y2
      have hz10 : y2.heap.size < (y2.alloc (.cells (cha ⟨i, O, be2 M⟩ (cutA A c i) (c - i) P9 p9) 126)).heap.size := by simp
      have hL := hL2.step yV
      have oV := own_below o9 yV
      have aV := a9.below yV
      have kpr := (yV.cell (p := ⟨w.heap.size, 4, none⟩) (by show w.heap.size < _; omega)).trans kpr
      clear hL2 b3 o9 a9 SU y1N x9 yV m9
      generalize y2.alloc (.cells (cha ⟨i, O, be2 M⟩ (cutA A c i) (c - i) P9 p9) 126) = V at *
      have k10o := at10.old
      have k10n := at10.now
      have at10 : V.rangeAt y2.heap.size 0 (clX ⟨⟨i, O, be2 M⟩, cutA A c i, c - i, P9, p9⟩) := at10
      have hmid := (hA.below (hL.b.mono hB)).mid i 2 hi2
      rw [← HO.out] at hmid
      obtain ⟨c3, n3, g3⟩ := hL.at_ (i := 3) rfl
      have FIN : ∀ wi', wi' = wi → wi' = ⟨(i : Int), O, be2 M⟩ → ∃ r : Xc, Ending.returned (.agg (cha ⟨i, O, be2 M⟩ (cutA A c i) (c - i) P9 p9)) = .returned (vX r) ∧ r.q = wi ∧ XcOk (V.setRow (w.heap.size + 3) (cha ⟨i, O, be2 M⟩ (cutA A c i) (c - i) P9 p9)) (V.setRow (w.heap.size + 3) (cha ⟨i, O, be2 M⟩ (cutA A c i) (c - i) P9 p9)).heap.size r ∧ Below w.heap.size w (V.setRow (w.heap.size + 3) (cha ⟨i, O, be2 M⟩ (cutA A c i) (c - i) P9 p9)) := fun wi' h1 h2 => by
        have hLf := hL.row (i := 3) rfl (cha ⟨i, O, be2 M⟩ (cutA A c i) (c - i) P9 p9) rfl
        have hOw := own_setRow oV (g := w.heap.size + 3) (cs := cha ⟨i, O, be2 M⟩ (cutA A c i) (c - i) P9 p9) (by omega)
        refine ⟨⟨⟨i, O, be2 M⟩, cutA A c i, c - i, P9, p9⟩, rfl, (h1.symm.trans h2).symm, ⟨?_, Made.arg hOw⟩, hLf.b⟩
        have hm := (hA.below (hLf.b.mono hB)).mid i 2 hi2
        rw [← HO.out] at hm
        exact hm.more (Nat.le_trans hB hLf.b.size)
      have FIN := Lib.hid FIN
      have HWI := Lib.hid hwi2
      have HSIS := Lib.hid hsis
      clear hwi2 hsis
      by_cases h17 : q.proto = 17
      · have d17 : (q.proto != 17) = false := by simp [h17]
        have hsat6 : satQ q = 6 := by rw [satQ, if_neg (by omega), if_neg h1]
        rw [hsat6] at hO2
        obtain ⟨N0, hN0⟩ : ∃ x, x = n2 q.dat 6 := ⟨_, rfl⟩
        rw [← hN0] at hO2
        have HO2 := Lib.hid hO2
        have HS := Lib.hid (show sisQ q = !decide (N0 = 0) by rw [HSIS.out, ← hN0, h17]; simp)
        have hG1 := Lib.hid (cqget O (cutA A c i) (c - i) B 0 V hmid (by omega) (by omega))
        have HMd := Lib.hid (be2_n2 hMb.1 hMb.2)
        have hG2 := Lib.hid (cqget (be2 M) P9 p9 y2.heap.size 0 V aV (by rw [be2_len]; omega) (by rw [be2_len]; omega))
        have G1ARM : Hid (Calls Try.prog 54 #[.slice (cutA A c i) O.length (c - i), .int .i64 0] V fun e U => e = .returned (.int .i64 N0) ∧ V = U) := Lib.hid ((hG1.out).mono (fun e U h => show e = .returned (.int .i64 N0) ∧ V = U from ⟨by rw [h.1, HO2.out], h.2⟩))
        have G2ARM : Hid (Calls Try.prog 54 #[.slice P9 (be2 M).length p9, .int .i64 0] V fun e U => e = .returned (.int .i64 M) ∧ V = U) := Lib.hid ((hG2.out).mono (fun e U h => show e = .returned (.int .i64 M) ∧ V = U from ⟨by rw [h.1, HMd.out], h.2⟩))
        have H17 := Lib.hid h17
        clear hG1 hG2 hO2 hN0 h17 h1 hOl
        by_cases hz : N0 = 0
        · have d0 : (N0 == 0) = true := by simpa using hz
          have HW := Lib.hid (show wi = chz by rw [HWI.out, if_neg (by rw [HS.out]; simp [hz])])
          clear hz
          go_wp2_with (first
            | (go_at_call 54; with_reducible refine G1ARM.out.mono ?_; rintro e U ⟨rfl, rfl⟩)
            | ((with_reducible show wpList _ _ _ (Oper.mk _ (Op.store _ _ _) _ _ _ _ :: _) _ _); refine ch_store (g := w.heap.size + 3) (cs := cha chz none 0 none 0) rfl rfl g3 n3 rfl (ch_one _ _ _ _ _) ?_))
          exact bodyPost_ret (ch_result rfl rfl (setRow_heap _ _ _ _ _ _ g3) rfl) rfl ⟨⟨chz, none, 0, none, 0⟩, rfl, HW.out.symm, xc_nil _ _, (hL.row (i := 3) rfl _ rfl).b⟩
        · have d0 : (N0 == 0) = false := by simpa using hz
          have HS1 := Lib.hid (show sisQ q = true by rw [HS.out]; simp [hz])
          clear hz
          by_cases hm0 : M = 0
          · have dM : (M == 0) = true := by simpa using hm0
            have HW := Lib.hid (show wi = ⟨(i : Int), O, be2 65535⟩ by rw [HWI.out, if_pos HS1.out, if_pos ⟨H17.out, hm0⟩])
            clear hm0
            go_upto_region 13 with (first
              | (go_at_call 54; with_reducible refine G1ARM.out.mono ?_; rintro e U ⟨rfl, rfl⟩)
              | (go_at_call 54; with_reducible refine G2ARM.out.mono ?_; rintro e U ⟨rfl, rfl⟩))
            clear G1ARM G2ARM
            go_wp2_with (first
              | (go_at_call 76; refine (cqchanged b A c i 2 65535 2 (be2 65535) O V hcap hl rfl (put_two (bs := []) (by decide) (by decide)) HO.out (by omega) hi2).mono ?_; rintro e y5 ⟨P5, p5, rfl, m5⟩; obtain ⟨_, _, e5, a5, o5, x5⟩ := made_shape m5; cases e5; have hL5 := hL.step x5; obtain ⟨c5, n5, g5⟩ := hL5.at_ (i := 3) rfl)
              | ((with_reducible show wpList _ _ _ (Oper.mk _ (Op.store _ _ _) _ _ _ _ :: _) _ _); refine ch_store (g := w.heap.size + 3) (cs := cha ⟨i, O, be2 65535⟩ (cutA A c i) (c - i) P5 p5) rfl rfl g5 n5 rfl (ch_one _ _ _ _ _) ?_))
            have hLf := hL5.row (i := 3) rfl (cha ⟨i, O, be2 65535⟩ (cutA A c i) (c - i) P5 p5) rfl
            have hOw := own_setRow o5 (g := w.heap.size + 3) (cs := cha ⟨i, O, be2 65535⟩ (cutA A c i) (c - i) P5 p5) (by omega)
            refine bodyPost_ret (ch_result rfl rfl (setRow_heap _ _ _ _ _ _ g5) rfl) rfl ⟨⟨⟨i, O, be2 65535⟩, cutA A c i, c - i, P5, p5⟩, rfl, HW.out.symm, ⟨?_, Made.arg hOw⟩, hLf.b⟩
            have hm := (hA.below (hLf.b.mono hB)).mid i 2 hi2
            rw [← HO.out] at hm
            exact hm.more (Nat.le_trans hB hLf.b.size)
          · have dM : (M == 0) = false := by simpa using hm0
            have HW := Lib.hid (show wi = ⟨(i : Int), O, be2 M⟩ by rw [HWI.out, if_pos HS1.out, if_neg (fun h => hm0 h.2)])
            clear hm0
            go_wp2_with (first
              | (go_at_call 54; with_reducible refine G1ARM.out.mono ?_; rintro e U ⟨rfl, rfl⟩)
              | (go_at_call 54; with_reducible refine G2ARM.out.mono ?_; rintro e U ⟨rfl, rfl⟩)
              | ((with_reducible show wpList _ _ _ (Oper.mk _ (Op.load 126 _) _ _ _ _ :: _) _ _); refine wpList_val rfl (run_load_cx rfl rfl at10) ?_)
              | ((with_reducible show wpList _ _ _ (Oper.mk _ (Op.store _ _ _) _ _ _ _ :: _) _ _); refine ch_store (g := w.heap.size + 3) (cs := cha ⟨i, O, be2 M⟩ (cutA A c i) (c - i) P9 p9) rfl rfl g3 n3 rfl (ch_one _ _ _ _ _) ?_))
            exact bodyPost_ret (ch_result rfl rfl (setRow_heap _ _ _ _ _ _ g3) rfl) rfl (FIN.out wi rfl HW.out)
      · have d17 : (q.proto != 17) = true := by simpa using h17
        have HW := Lib.hid (show wi = ⟨(i : Int), O, be2 M⟩ by rw [HWI.out, if_pos (by rw [HSIS.out]; simp [h17]), if_neg (fun h => h17 h.1)])
        go_wp2_with (first
          | ((with_reducible show wpList _ _ _ (Oper.mk _ (Op.load 126 _) _ _ _ _ :: _) _ _); refine wpList_val rfl (run_load_cx rfl rfl at10) ?_)
          | ((with_reducible show wpList _ _ _ (Oper.mk _ (Op.store _ _ _) _ _ _ _ :: _) _ _); refine ch_store (g := w.heap.size + 3) (cs := cha ⟨i, O, be2 M⟩ (cutA A c i) (c - i) P9 p9) rfl rfl g3 n3 rfl (ch_one _ _ _ _ _) ?_))
        exact bodyPost_ret (ch_result rfl rfl (setRow_heap _ _ _ _ _ _ g3) rfl) rfl (FIN.out wi rfl HW.out)
end Go.Proofs.Ytkgbjohadkbjaaa
