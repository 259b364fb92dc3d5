/-
  Contracts and lemmas on which the proofs of this seat stand (several texts in one). Conditions are each theorem's own.
-/
import Derived.Test.YtpoigngpdcmipaaNc7
import Derived.Test.YtpoigngpdcmipaaNc3
import Derived.Laws.IdiomStrings
import Derived.Lib.SmallJoins
import Derived.WalkMore
import Derived.Deep.Slices

/-
  Layer 34: Look and Take of both sides. Conditions are each theorem's own.
-/
namespace Go.Proofs.Ytpoigngpdcmipaa
open Go.RowKit Go.Shelf
theorem run_load_oC {o : Oper} {a : Act} {w : World} {x : Operand} {g i : Nat} {cs : List Value} (ho : o.op = .load 33 x) (hx : a.eval x = .pointer (some ⟨g, i, none⟩)) (hr : w.rangeAt g i cs) (hl : cs.length = 3) :
    (execOp a.eval o).run Try.prog w = .ok (.value (.agg cs.toArray)) w := by
  have h := run_loadVar_mid (P := Try.prog) w g i 33 cs _ hr Try.underlying33 rfl (by rw [hl]; kernel_rfl)
  unfold execOp
  simp only [ho, hx, Instr.loadAt, Instr.sureAddr, Sem.run_bind, Sem.run_pure, Result.andThen_ok, h]
theorem run_load_oR {o : Oper} {a : Act} {w : World} {x : Operand} {g i : Nat} {cs : List Value} (ho : o.op = .load 38 x) (hx : a.eval x = .pointer (some ⟨g, i, none⟩)) (hr : w.rangeAt g i cs) (hl : cs.length = 3) :
    (execOp a.eval o).run Try.prog w = .ok (.value (.agg cs.toArray)) w := by
  have h := run_loadVar_mid (P := Try.prog) w g i 38 cs _ hr Try.underlying38 rfl (by rw [hl]; kernel_rfl)
  unfold execOp
  simp only [ho, hx, Instr.loadAt, Instr.sureAddr, Sem.run_bind, Sem.run_pure, Result.andThen_ok, h]
theorem Row34.block {e : TypeId} {W : World} {base : Nat} {v : Value} {l : List IT} (h : Row34 e W base v l) (hn : 0 < l.length) : ∃ b c, v = .slice (some ⟨b, 0, none⟩) l.length c ∧ l.length ≤ c ∧ base ≤ b ∧ (∃ cur, W.heap[b]? = some (.cells cur e (0, 0))) ∧ ∀ i y, l[i]? = some y → W.rangeAt b (i * 3) (clI y) := by
  obtain ⟨A, c, e1, hr, hc⟩ := h.shape
  obtain ⟨b, o, e2, hb, hcc⟩ := hr hn
  rcases h.r.2 with ⟨hv, h0⟩ | ⟨g', cap, cur, hv, hb', hh, hle, _⟩
  · rw [hv] at e1; injection e1 with e3; rw [e2] at e3; cases e3
  · rw [hv] at e1
    injection e1 with e3 e4 e5
    rw [e2] at e3
    injection e3 with e3
    injection e3 with e6 e7
    subst e6; subst e7
    exact ⟨g', cap, hv, hle, hb', ⟨cur, hh⟩, fun i y hy => by have := hcc i y hy; rwa [Nat.zero_add] at this⟩
section
variable {w w' : World} {B0 g : Nat} {v : Value} {room : Int} {L : List IT}
set_option maxRecDepth 100000 in
set_option maxHeartbeats 4000000 in
theorem ntlook_nil (w : World) (a : Int) : Calls Try.prog 9 #[.pointer none, .int .i64 a] w fun e w' => e = .returned (.tuple #[.agg #[.int .i64 0, .bool false, .slice none 0 0], .bool false]) ∧ Below w.heap.size w w' := by
  have hbW := (Below.refl _ w).alloc (Nat.le_refl _) (.cells #[.int .i64 0, .bool false, .slice none 0 0] 33)
  have kW := World.alloc_heap_new w (.cells #[.int .i64 0, .bool false, .slice none 0 0] 33)
  have HP := Lib.hid (ntplace_nil (w := w.alloc (.cells #[.int .i64 0, .bool false, .slice none 0 0] 33)) a)
  go_enter Try.func9, Try.ntmps9
  go_upto_region 1 with fail
  generalize w.alloc (.cells #[.int .i64 0, .bool false, .slice none 0 0] 33) = W at *
  have hq := setRow_heap W w.heap.size _ #[.int .i64 0, .bool false, .slice none 0 0] _ _ kW
  have hb2 : Below w.heap.size w (W.setRow w.heap.size #[.int .i64 0, .bool false, .slice none 0 0]) := below_row hbW (Nat.le_refl _)
  go_wp2_with (first
    | (go_at_call 18; refine HP.out.mono ?_; rintro e w1 ⟨rfl, rfl⟩)
    | ((with_reducible show wpList _ _ _ (Oper.mk _ (Op.store 33 _ _) _ _ _ _ :: _) _ _); refine nis_store (cs := #[.int .i64 0, .bool false, .slice none 0 0]) rfl rfl kW rfl rfl (by simp [Value.oneCell']) ?_))
  refine bodyPost_ret (res2 rfl rfl (nis_load_run hq rfl)) rfl ?_
  exact ⟨rfl, hb2⟩
set_option maxRecDepth 100000 in
set_option maxHeartbeats 4000000 in
theorem ntlook_zero {w : World} {g : Nat} (k0 : w.cell? ⟨g, 0, none⟩ = some (.bool false)) (a : Int) : Calls Try.prog 9 #[.pointer (some ⟨g, 0, none⟩), .int .i64 a] w fun e w' => e = .returned (.tuple #[.agg #[.int .i64 0, .bool false, .slice none 0 0], .bool false]) ∧ Below w.heap.size w w' := by
  have hbW := (Below.refl _ w).alloc (Nat.le_refl _) (.cells #[.int .i64 0, .bool false, .slice none 0 0] 33)
  have kW := World.alloc_heap_new w (.cells #[.int .i64 0, .bool false, .slice none 0 0] 33)
  have HP := Lib.hid (ntplace_zero ((hbW.cell (p := ⟨g, 0, none⟩) (cell_block k0)).trans k0) a)
  clear k0
  go_enter Try.func9, Try.ntmps9
  go_upto_region 1 with fail
  generalize w.alloc (.cells #[.int .i64 0, .bool false, .slice none 0 0] 33) = W at *
  have hq := setRow_heap W w.heap.size _ #[.int .i64 0, .bool false, .slice none 0 0] _ _ kW
  have hb2 : Below w.heap.size w (W.setRow w.heap.size #[.int .i64 0, .bool false, .slice none 0 0]) := below_row hbW (Nat.le_refl _)
  go_wp2_with (first
    | (go_at_call 18; refine HP.out.mono ?_; rintro e w1 ⟨rfl, rfl⟩)
    | ((with_reducible show wpList _ _ _ (Oper.mk _ (Op.store 33 _ _) _ _ _ _ :: _) _ _); refine nis_store (cs := #[.int .i64 0, .bool false, .slice none 0 0]) rfl rfl kW rfl rfl (by simp [Value.oneCell']) ?_))
  refine bodyPost_ret (res2 rfl rfl (nis_load_run hq rfl)) rfl ?_
  exact ⟨rfl, hb2⟩
set_option maxRecDepth 100000 in
set_option maxHeartbeats 4000000 in
theorem ntlook_none (h : Nt w B0 g v room L) (hn : L.length = 0) (a : Int) : Calls Try.prog 9 #[.pointer (some ⟨g, 0, none⟩), .int .i64 a] w fun e w' => e = .returned (.tuple #[.agg #[.int .i64 0, .bool false, .slice none 0 0], .bool false]) ∧ Below w.heap.size w w' := by
  have hbW := (Below.refl _ w).alloc (Nat.le_refl _) (.cells #[.int .i64 0, .bool false, .slice none 0 0] 33)
  have kW := World.alloc_heap_new w (.cells #[.int .i64 0, .bool false, .slice none 0 0] 33)
  have HP := Lib.hid (ntplace_none (h.below hbW) hn a)
  clear h hn
  go_enter Try.func9, Try.ntmps9
  go_upto_region 1 with fail
  generalize w.alloc (.cells #[.int .i64 0, .bool false, .slice none 0 0] 33) = W at *
  have hq := setRow_heap W w.heap.size _ #[.int .i64 0, .bool false, .slice none 0 0] _ _ kW
  have hb2 : Below w.heap.size w (W.setRow w.heap.size #[.int .i64 0, .bool false, .slice none 0 0]) := below_row hbW (Nat.le_refl _)
  go_wp2_with (first
    | (go_at_call 18; refine HP.out.mono ?_; rintro e w1 ⟨rfl, rfl⟩)
    | ((with_reducible show wpList _ _ _ (Oper.mk _ (Op.store 33 _ _) _ _ _ _ :: _) _ _); refine nis_store (cs := #[.int .i64 0, .bool false, .slice none 0 0]) rfl rfl kW rfl rfl (by simp [Value.oneCell']) ?_))
  refine bodyPost_ret (res2 rfl rfl (nis_load_run hq rfl)) rfl ?_
  exact ⟨rfl, hb2⟩
set_option maxRecDepth 100000 in
set_option maxHeartbeats 4000000 in
theorem nttake_nil (w : World) (a : Int) : Calls Try.prog 12 #[.pointer none, .int .i64 a] w fun e w' => e = .returned (.tuple #[.agg #[.int .i64 0, .bool false, .slice none 0 0], .bool false]) ∧ Below w.heap.size w w' := by
  have hbW := (Below.refl _ w).alloc (Nat.le_refl _) (.cells #[.int .i64 0, .bool false, .slice none 0 0] 33)
  have kW := World.alloc_heap_new w (.cells #[.int .i64 0, .bool false, .slice none 0 0] 33)
  have HP := Lib.hid (ntplace_nil (w := w.alloc (.cells #[.int .i64 0, .bool false, .slice none 0 0] 33)) a)
  go_enter Try.func12, Try.ntmps12
  go_upto_region 1 with fail
  generalize w.alloc (.cells #[.int .i64 0, .bool false, .slice none 0 0] 33) = W at *
  have hq := setRow_heap W w.heap.size _ #[.int .i64 0, .bool false, .slice none 0 0] _ _ kW
  have hb2 : Below w.heap.size w (W.setRow w.heap.size #[.int .i64 0, .bool false, .slice none 0 0]) := below_row hbW (Nat.le_refl _)
  go_wp2_with (first
    | (go_at_call 18; refine HP.out.mono ?_; rintro e w1 ⟨rfl, rfl⟩)
    | ((with_reducible show wpList _ _ _ (Oper.mk _ (Op.store 33 _ _) _ _ _ _ :: _) _ _); refine nis_store (cs := #[.int .i64 0, .bool false, .slice none 0 0]) rfl rfl kW rfl rfl (by simp [Value.oneCell']) ?_))
  refine bodyPost_ret (res2 rfl rfl (nis_load_run hq rfl)) rfl ?_
  exact ⟨rfl, hb2⟩
set_option maxRecDepth 100000 in
set_option maxHeartbeats 4000000 in
theorem nttake_zero {w : World} {g : Nat} (k0 : w.cell? ⟨g, 0, none⟩ = some (.bool false)) (a : Int) : Calls Try.prog 12 #[.pointer (some ⟨g, 0, none⟩), .int .i64 a] w fun e w' => e = .returned (.tuple #[.agg #[.int .i64 0, .bool false, .slice none 0 0], .bool false]) ∧ Below w.heap.size w w' := by
  have hbW := (Below.refl _ w).alloc (Nat.le_refl _) (.cells #[.int .i64 0, .bool false, .slice none 0 0] 33)
  have kW := World.alloc_heap_new w (.cells #[.int .i64 0, .bool false, .slice none 0 0] 33)
  have HP := Lib.hid (ntplace_zero ((hbW.cell (p := ⟨g, 0, none⟩) (cell_block k0)).trans k0) a)
  clear k0
  go_enter Try.func12, Try.ntmps12
  go_upto_region 1 with fail
  generalize w.alloc (.cells #[.int .i64 0, .bool false, .slice none 0 0] 33) = W at *
  have hq := setRow_heap W w.heap.size _ #[.int .i64 0, .bool false, .slice none 0 0] _ _ kW
  have hb2 : Below w.heap.size w (W.setRow w.heap.size #[.int .i64 0, .bool false, .slice none 0 0]) := below_row hbW (Nat.le_refl _)
  go_wp2_with (first
    | (go_at_call 18; refine HP.out.mono ?_; rintro e w1 ⟨rfl, rfl⟩)
    | ((with_reducible show wpList _ _ _ (Oper.mk _ (Op.store 33 _ _) _ _ _ _ :: _) _ _); refine nis_store (cs := #[.int .i64 0, .bool false, .slice none 0 0]) rfl rfl kW rfl rfl (by simp [Value.oneCell']) ?_))
  refine bodyPost_ret (res2 rfl rfl (nis_load_run hq rfl)) rfl ?_
  exact ⟨rfl, hb2⟩
set_option maxRecDepth 100000 in
set_option maxHeartbeats 4000000 in
theorem nttake_none (h : Nt w B0 g v room L) (hn : L.length = 0) (a : Int) : Calls Try.prog 12 #[.pointer (some ⟨g, 0, none⟩), .int .i64 a] w fun e w' => e = .returned (.tuple #[.agg #[.int .i64 0, .bool false, .slice none 0 0], .bool false]) ∧ Below w.heap.size w w' := by
  have hbW := (Below.refl _ w).alloc (Nat.le_refl _) (.cells #[.int .i64 0, .bool false, .slice none 0 0] 33)
  have kW := World.alloc_heap_new w (.cells #[.int .i64 0, .bool false, .slice none 0 0] 33)
  have HP := Lib.hid (ntplace_none (h.below hbW) hn a)
  clear h hn
  go_enter Try.func12, Try.ntmps12
  go_upto_region 1 with fail
  generalize w.alloc (.cells #[.int .i64 0, .bool false, .slice none 0 0] 33) = W at *
  have hq := setRow_heap W w.heap.size _ #[.int .i64 0, .bool false, .slice none 0 0] _ _ kW
  have hb2 : Below w.heap.size w (W.setRow w.heap.size #[.int .i64 0, .bool false, .slice none 0 0]) := below_row hbW (Nat.le_refl _)
  go_wp2_with (first
    | (go_at_call 18; refine HP.out.mono ?_; rintro e w1 ⟨rfl, rfl⟩)
    | ((with_reducible show wpList _ _ _ (Oper.mk _ (Op.store 33 _ _) _ _ _ _ :: _) _ _); refine nis_store (cs := #[.int .i64 0, .bool false, .slice none 0 0]) rfl rfl kW rfl rfl (by simp [Value.oneCell']) ?_))
  refine bodyPost_ret (res2 rfl rfl (nis_load_run hq rfl)) rfl ?_
  exact ⟨rfl, hb2⟩
set_option maxRecDepth 100000 in
set_option maxHeartbeats 4000000 in
theorem ntlook (h : Nt w B0 g v room L) (hn : 0 < L.length) (a : Int) {y : IT} (hy : L[plN a L.length]? = some y) (hl : y.x.b.length ≤ 1000000) : Calls Try.prog 9 #[.pointer (some ⟨g, 0, none⟩), .int .i64 a] w fun e w' => ∃ P p, Hid (e = .returned (.tuple #[.agg (clI ⟨y.x, P, p⟩).toArray, .bool true])) ∧ OwnI w' w.heap.size ⟨y.x, P, p⟩ ∧ Below w.heap.size w w' := by
  obtain ⟨p1, p2, _, _⟩ := plN_eq a hn
  obtain ⟨k, hk⟩ : ∃ k, k = plN a L.length := ⟨_, rfl⟩
  rw [← hk] at hy p2
  obtain ⟨b, c, hv, hc, hBb, ⟨cur, hcur⟩, hat⟩ := h.row.block hn
  have hbW := (Below.refl _ w).alloc (Nat.le_refl _) (.cells #[.int .i64 0, .bool false, .slice none 0 0] 33)
  have kW := World.alloc_heap_new w (.cells #[.int .i64 0, .bool false, .slice none 0 0] 33)
  have hW := h.below hbW
  have hp := ntplace hW hn a
  rw [← hk] at hp
  have HP := Lib.hid hp
  have k2 : (w.alloc (.cells #[.int .i64 0, .bool false, .slice none 0 0] 33)).cell? ⟨g, 2, none⟩ = some v := cells_at (i := 2) hW.ob rfl
  have hr : (w.alloc (.cells #[.int .i64 0, .bool false, .slice none 0 0] 33)).rangeAt b (k * 3) (clI y) := range_below (hat k y hy) (heap_lt hcur) hbW
  have HYA := Lib.hid ((h.row.o y (List.mem_of_getElem? hy)).arg)
  have hxb : b < w.heap.size := heap_lt hcur
  rw [hv] at k2
  obtain ⟨n, hnn⟩ : ∃ n, n = L.length := ⟨_, rfl⟩
  rw [← hnn] at k2 p2 hn hc
  have hz := hbW.size
  have HLL := Lib.hid hl
  clear h hW hp hat hcur hv hk hnn hy hBb hl p1
  go_enter Try.func9, Try.ntmps9
  go_upto_region 1 with fail
  generalize w.alloc (.cells #[.int .i64 0, .bool false, .slice none 0 0] 33) = W at *
  have HA := Lib.hid (HYA.out.below hbW)
  have HKW := Lib.hid kW
  have HZL := Lib.hid (heap_lt kW)
  clear kW
  go_wp2_with (first
    | (go_at_call 18; refine HP.out.mono ?_; rintro e w1 ⟨rfl, rfl⟩)
    | ((with_reducible show wpList _ _ _ (Oper.mk _ (Op.load 33 _) _ _ _ _ :: _) _ _); refine wpList_val rfl (run_load_oC rfl rfl hr rfl) ?_)
    | (go_at_call 19; refine (ntclone y w.heap.size W HA.out hz HLL.out).mono ?_; rintro e w2 ⟨P, p, rfl, o2, x2⟩; have kW2 := (x2.block _ HZL.out).trans HKW.out)
    | ((with_reducible show wpList _ _ _ (Oper.mk _ (Op.store 33 _ _) _ _ _ _ :: _) _ _); refine nis_store (cs := (clI ⟨y.x, P, p⟩).toArray) rfl rfl kW2 rfl rfl (clI_all _) ?_))
  have hq := setRow_heap w2 w.heap.size _ (clI ⟨y.x, P, p⟩).toArray _ _ kW2
  have hb2 : Below w.heap.size w (w2.setRow w.heap.size (clI ⟨y.x, P, p⟩).toArray) := below_row (hbW.trans (x2.mono hz)) (Nat.le_refl _)
  have o3 := own_setRow (cs := (clI ⟨y.x, P, p⟩).toArray) o2 HZL.out
  refine bodyPost_ret (res2 rfl rfl (nis_load_run hq rfl)) rfl ?_
  exact ⟨P, p, Lib.hid rfl, own_base o3 hz, hb2⟩
theorem own_keptB {S : Nat → Prop} {w w' : World} {base e s n : Nat} {v : Value} {xs : List Value} (h : w.ownsRow base e s v n xs) (k : Kept S w w') (hn : ∀ i, v.ownBlock = some i → ¬ S i) : w'.ownsRow base e s v n xs := by
  rcases h.2 with ⟨hv, h0⟩ | ⟨g', cap, cur, hv, hb, hh, hr⟩
  · exact ⟨h.1, .inl ⟨hv, h0⟩⟩
  · exact ⟨h.1, .inr ⟨g', cap, cur, hv, hb, (k.block g' (heap_lt hh) (hn g' (by rw [hv]; rfl))).trans hh, hr⟩⟩
theorem Nt.boxI {W W' : World} {x : Nat} {cs : Array Value} {fr : Nat × Nat} (h : Nt W B0 g v room L) (hx : W.heap[x]? = some (.cells cs 33 fr)) (hne : v.ownBlock ≠ some x) (k : Kept (fun i => i = x) W W') : Nt W' B0 g v room L := by
  have hT : AwayT W (fun i => i = x) (fun ty => ty = 33) := fun j hj cs ty fr hjj => by
    subst hj
    rw [hx] at hjj
    injection hjj with hjj
    injection hjj with _ e _
    exact e.symm
  refine ⟨(k.block g (heap_lt h.ob) (fun e => ?_)).trans h.ob, ⟨own_keptB h.row.r k (fun i hi e => hne (by rw [hi, e])), fun z hz => own_keptA (h.row.o z hz) k hT (nat_ne (by kernel_rfl))⟩, h.gB, h.n, h.m⟩
  rw [← e, h.ob] at hx
  injection hx with hx
  injection hx with _ e _
  exact absurd e (nat_ne (by kernel_rfl))
def NX (T : TypeId → Prop) (B g : Nat) (v : Value) (w : World) (i : Nat) : Prop := NNb T B w i ∧ (i = g ∨ v.ownBlock = some i)
set_option maxRecDepth 100000 in
set_option maxHeartbeats 4000000 in
theorem Nt.cut (h : Nt w B0 g v room L) {W X : World} {k b c n : Nat} (hk : k < L.length) (hv : v = .slice (some ⟨b, 0, none⟩) n c) (hBb : B0 ≤ b) (hcb : ∃ cur, w.heap[b]? = some (.cells cur 33 (0, 0))) (hW : Nt W B0 g v room L) (hbW : Below w.heap.size w W) (hr : X.ownsRow B0 33 3 (.slice (some ⟨b, 0, none⟩) (n - 1) c) (n - 1) ((L.eraseIdx k).flatMap clI)) (hn : n = L.length) (kX : Kept (fun i => i = b) W X) :
    Nt (X.setCell ⟨g, 2, none⟩ (.slice (some ⟨b, 0, none⟩) (n - 1) c)) B0 g (.slice (some ⟨b, 0, none⟩) (n - 1) c) room (L.eraseIdx k) ∧ Kept (NX TNc B0 g v w) w (X.setCell ⟨g, 2, none⟩ (.slice (some ⟨b, 0, none⟩) (n - 1) c)) := by
  obtain ⟨cur, hcur⟩ := hcb
  have hgb : g ≠ b := fun e => by
    subst e
    rw [h.ob] at hcur
    injection hcur with hcur
    injection hcur with _ e _
    exact absurd e (nat_ne (by kernel_rfl))
  have hxg : X.heap[g]? = some (.cells #[.bool true, .int .i64 room, v] 57 (0, 0)) := (kX.block g (heap_lt hW.ob) hgb).trans hW.ob
  have kg : Kept (fun i => i = g) X (X.setCell ⟨g, 2, none⟩ (.slice (some ⟨b, 0, none⟩) (n - 1) c)) := Kept.setCell X g 2 _
  have hT : AwayT X (fun i => i = g) (fun ty => ty = 57) := fun j hj cs ty fr hjj => by
    subst hj
    rw [hxg] at hjj
    injection hjj with hjj
    injection hjj with _ e _
    exact e.symm
  have hTb : AwayT W (fun i => i = b) (fun ty => ty = 33) := fun j hj cs ty fr hjj => by
    subst hj
    rw [hbW.block j (heap_lt hcur), hcur] at hjj
    injection hjj with hjj
    injection hjj with _ e _
    exact e.symm
  have hel : (L.eraseIdx k).length = n - 1 := by rw [List.length_eraseIdx, if_pos hk, hn]
  refine ⟨⟨?_, ⟨?_, fun z hz => ?_⟩, h.gB, ?_, h.m⟩, ?_⟩
  · have := heap_setCell_same X g 2 _ _ (.slice (some ⟨b, 0, none⟩) (n - 1) c) hxg
    rw [this]; rfl
  · rw [hel]; exact own_keptA hr kg hT (nat_ne (by kernel_rfl))
  · exact own_keptA (own_keptA (hW.row.o z (List.mem_of_mem_eraseIdx hz)) kX hTb (nat_ne (by kernel_rfl))) kg hT (nat_ne (by kernel_rfl))
  · have := h.n; rw [hel]; omega
  · have hgN : NX TNc B0 g v w g := ⟨⟨h.gB, _, _, _, h.ob, .inl rfl⟩, .inl rfl⟩
    have hbN : NX TNc B0 g v w b := ⟨⟨hBb, _, _, _, hcur, .inr rfl⟩, .inr (by rw [hv]; rfl)⟩
    exact ((Kept.of_below hbW).trans kX (fun i _ e => by subst e; exact hbN)).trans kg (fun i _ e => by subst e; exact hgN)
set_option maxRecDepth 100000 in
set_option maxHeartbeats 4000000 in
theorem nttakeX (h : Nt w B0 g v room L) (hn : 0 < L.length) (a : Int) {y : IT} (hy : L[plN a L.length]? = some y) (hl : y.x.b.length ≤ 1000000) : Calls Try.prog 12 #[.pointer (some ⟨g, 0, none⟩), .int .i64 a] w fun e w' => ∃ P p, Hid (e = .returned (.tuple #[.agg (clI ⟨y.x, P, p⟩).toArray, .bool true])) ∧ OwnI w' w.heap.size ⟨y.x, P, p⟩ ∧ (∃ v', Nt w' B0 g v' room (L.eraseIdx (plN a L.length)) ∧ v'.ownBlock = v.ownBlock) ∧ Kept (NX TNc B0 g v w) w w' := by
  obtain ⟨p1, p2, _, _⟩ := plN_eq a hn
  obtain ⟨k, hk⟩ : ∃ k, k = plN a L.length := ⟨_, rfl⟩
  rw [← hk] at hy p2 ⊢
  obtain ⟨b, c, hv, hc, hBb, ⟨cur, hcur⟩, hat⟩ := h.row.block hn
  have hbW := (Below.refl _ w).alloc (Nat.le_refl _) (.cells #[.int .i64 0, .bool false, .slice none 0 0] 33)
  have kW := World.alloc_heap_new w (.cells #[.int .i64 0, .bool false, .slice none 0 0] 33)
  have hW := h.below hbW
  have hp := ntplace hW hn a
  rw [← hk] at hp
  have HP := Lib.hid hp
  have k2 : (w.alloc (.cells #[.int .i64 0, .bool false, .slice none 0 0] 33)).cell? ⟨g, 2, none⟩ = some v := cells_at (i := 2) hW.ob rfl
  have hr : (w.alloc (.cells #[.int .i64 0, .bool false, .slice none 0 0] 33)).rangeAt b (k * 3) (clI y) := range_below (hat k y hy) (heap_lt hcur) hbW
  have HYA := Lib.hid ((h.row.o y (List.mem_of_getElem? hy)).arg)
  have hxb : b < w.heap.size := heap_lt hcur
  rw [hv] at k2
  obtain ⟨n, hnn⟩ : ∃ n, n = L.length := ⟨_, rfl⟩
  rw [← hnn] at k2 p2 hn hc
  have hz := hbW.size
  have HLL := Lib.hid hl
  have HH := Lib.hid h
  have HHW := Lib.hid hW
  have HV := Lib.hid hv
  have HBb := Lib.hid hBb
  have HCB : Hid (∃ cur, w.heap[b]? = some (.cells cur 33 (0, 0))) := Lib.hid ⟨cur, hcur⟩
  have HNN := Lib.hid hnn
  clear h hW hp hat hcur hv hk hy hBb hl p1
  go_enter Try.func12, Try.ntmps12
  go_upto_region 1 with fail
  generalize w.alloc (.cells #[.int .i64 0, .bool false, .slice none 0 0] 33) = W at *
  have HA := Lib.hid (HYA.out.below hbW)
  have HKW := Lib.hid kW
  have HZL := Lib.hid (heap_lt kW)
  clear kW hnn
  go_upto_region 5 with (first
    | (go_at_call 18; refine HP.out.mono ?_; rintro e w1 ⟨rfl, rfl⟩)
    | ((with_reducible show wpList _ _ _ (Oper.mk _ (Op.load 33 _) _ _ _ _ :: _) _ _); refine wpList_val rfl (run_load_oC rfl rfl hr rfl) ?_)
    | (go_at_call 19; refine (ntclone y w.heap.size W HA.out hz HLL.out).mono ?_; rintro e w2 ⟨P, p, rfl, o2, x2⟩; have kW2 := (x2.block _ HZL.out).trans HKW.out)
    | ((with_reducible show wpList _ _ _ (Oper.mk _ (Op.store 33 _ _) _ _ _ _ :: _) _ _); refine nis_store_new (cs := (clI ⟨y.x, P, p⟩).toArray) rfl rfl rfl rfl (clI_all _) ?_))
  have kN := World.alloc_heap_new w2 (.cells (clI ⟨y.x, P, p⟩).toArray 33)
  have a2 : Below w2.heap.size w2 (w2.alloc (.cells (clI ⟨y.x, P, p⟩).toArray 33)) := (Below.refl _ w2).alloc (Nat.le_refl _) _
  have o2 : OwnI (w2.alloc (.cells (clI ⟨y.x, P, p⟩).toArray 33)) W.heap.size ⟨y.x, P, p⟩ := own_below o2 a2
  have x3 := x2.trans (a2.mono x2.size)
  generalize w2.alloc (.cells (clI ⟨y.x, P, p⟩).toArray 33) = W3 at *
  have b3 := hbW.trans (x3.mono hz)
  have HN3 := Lib.hid (HHW.out.below x3)
  have HKW3 := Lib.hid ((x3.block _ HZL.out).trans HKW.out)
  have HK3 := Lib.hid kN
  have k23 : W3.cell? ⟨g, 2, none⟩ = some (.slice (some ⟨b, 0, none⟩) n c) := by rw [HNN.out, ← HV.out]; exact cells_at (i := 2) HN3.out.ob rfl
  have hkm : k < 5000 := by have := HH.out.n; have := HH.out.m; have := HNN.out; omega
  have e5 : wrap64 ((k : Int) + 1) = (k : Int) + 1 := by unfold wrap64; omega
  have HD := Lib.hid (ntdelete W3 b c k L B0 (by have := HN3.out.row.r; rw [HV.out] at this; exact this) (by rw [← HNN.out]; exact p2))
  rw [← HNN.out] at HD
  have zl2 := x2.size
  have zg := heap_lt HH.out.ob
  have HGL : Hid (g < W3.heap.size) := Lib.hid (by have := b3.size; omega)
  have HGB : Hid (g ≠ b) := Lib.hid (fun e => by
    obtain ⟨cur, hcur⟩ := HCB.out
    have h1 := HH.out.ob
    rw [e, hcur] at h1
    injection h1 with h1
    injection h1 with _ e _
    exact absurd e (nat_ne (by kernel_rfl)))
  have HBL := Lib.hid hxb
  clear kW2 k2 hr a2 kN x2 hxb hc
  go_upto_region 6 with (go_at_call 21; refine HD.out.mono ?_; rintro e w4 ⟨rfl, r4, k4⟩; have kg4 := cells_at (i := 2) ((k4.block g HGL.out HGB.out).trans HN3.out.ob) rfl; have fg4 := heap_frozen ((k4.block g HGL.out HGB.out).trans HN3.out.ob) 2)
  obtain ⟨N5, K5⟩ := HH.out.cut (W := W3) (X := w4) (k := k) (b := b) (c := c) (n := n) (by rw [← HNN.out]; exact p2) (by rw [HNN.out]; exact HV.out) HBb.out HCB.out HN3.out b3 r4 HNN.out k4
  have kI5 := (heap_setCell_other w4 ⟨g, 2, none⟩ w2.heap.size (.slice (some ⟨b, 0, none⟩) (n - 1) c) (by show w2.heap.size ≠ g; omega)).trans ((k4.block w2.heap.size (heap_lt HK3.out) (by have := HBL.out; omega)).trans HK3.out)
  have kW5 := (heap_setCell_other w4 ⟨g, 2, none⟩ w.heap.size (.slice (some ⟨b, 0, none⟩) (n - 1) c) (by show w.heap.size ≠ g; omega)).trans ((k4.block w.heap.size (heap_lt HKW3.out) (by have := HBL.out; omega)).trans HKW3.out)
  have o4 : OwnI w4 W.heap.size ⟨y.x, P, p⟩ := own_keptA o2 k4 (T := fun ty => ty = 33) (fun j hj cs ty fr hjj => by
    obtain ⟨cur, hcur⟩ := HCB.out
    subst hj
    rw [b3.block j HBL.out, hcur] at hjj
    injection hjj with hjj
    injection hjj with _ e _
    exact e.symm) (nat_ne (by kernel_rfl))
  have o5 := own_setCell (p := ⟨g, 2, none⟩) (u := .slice (some ⟨b, 0, none⟩) (n - 1) c) o4 (by show g < _; omega)
  clear kg4 fg4 k4 r4 o4
  generalize w4.setCell ⟨g, 2, none⟩ (.slice (some ⟨b, 0, none⟩) (n - 1) c) = W5 at *
  have hr5 : W5.rangeAt w2.heap.size 0 (clI ⟨y.x, P, p⟩) := range_heap kI5
  have hq := setRow_heap W5 w.heap.size _ (clI ⟨y.x, P, p⟩).toArray _ _ kW5
  have HN6 := Lib.hid (N5.boxI kW5 (by show (Value.slice (some ⟨b, 0, none⟩) (n - 1) c).ownBlock ≠ some w.heap.size; simp [Value.ownBlock]; have := HBL.out; omega) (Kept.setRow W5 w.heap.size (clI ⟨y.x, P, p⟩).toArray))
  have HK6 : Hid (Kept (NX TNc B0 g v w) w (W5.setRow w.heap.size (clI ⟨y.x, P, p⟩).toArray)) := Lib.hid (K5.trans (Kept.setRow W5 w.heap.size _) (fun i hi e => absurd e (by omega)))
  have HO6 := Lib.hid (own_setRow (cs := (clI ⟨y.x, P, p⟩).toArray) o5 HZL.out)
  clear N5 K5 o5
  go_wp2_with (first
    | ((with_reducible show wpList _ _ _ (Oper.mk _ (Op.load 33 _) _ _ _ _ :: _) _ _); refine wpList_val rfl (run_load_nis rfl rfl hr5 rfl) ?_)
    | ((with_reducible show wpList _ _ _ (Oper.mk _ (Op.store 33 _ _) _ _ _ _ :: _) _ _); refine nis_store (cs := (clI ⟨y.x, P, p⟩).toArray) rfl rfl kW5 rfl rfl (clI_all _) ?_))
  refine bodyPost_ret (res2 rfl rfl (nis_load_run hq rfl)) rfl ?_
  exact ⟨P, p, Lib.hid rfl, own_base HO6.out hz, ⟨_, HN6.out, by rw [HV.out]; rfl⟩, HK6.out⟩
theorem nttake (h : Nt w B0 g v room L) (hn : 0 < L.length) (a : Int) {y : IT} (hy : L[plN a L.length]? = some y) (hl : y.x.b.length ≤ 1000000) : Calls Try.prog 12 #[.pointer (some ⟨g, 0, none⟩), .int .i64 a] w fun e w' => ∃ P p, Hid (e = .returned (.tuple #[.agg (clI ⟨y.x, P, p⟩).toArray, .bool true])) ∧ OwnI w' w.heap.size ⟨y.x, P, p⟩ ∧ (∃ v', Nt w' B0 g v' room (L.eraseIdx (plN a L.length))) ∧ Kept (NNb TNc B0 w) w w' :=
  (nttakeX h hn a hy hl).mono (by rintro e w' ⟨P, p, h1, h2, ⟨v', h3, _⟩, k⟩; exact ⟨P, p, h1, h2, ⟨v', h3⟩, k.mono (fun i _ hi => hi.1)⟩)
end
end Go.Proofs.Ytpoigngpdcmipaa

/-
  Layer 34: Look and Take of the document's side. Conditions are each theorem's own.
-/
namespace Go.Proofs.Ytpoigngpdcmipaa
open Go.RowKit Go.Shelf
section
variable {w w' : World} {B0 g : Nat} {v : Value} {room : Int} {L : List IT}
theorem nrlook_none (h : Nr w B0 g v room L) (hn : L.length = 0) (a : Int) : Calls Try.prog 10 #[.pointer (some ⟨g, 0, none⟩), .int .i64 a] w fun e w' => e = .returned (.tuple #[.agg #[.int .i64 0, .bool false, .slice none 0 0], .bool false]) ∧ Below w.heap.size w w' := by
  obtain ⟨A, c, rfl, _⟩ := h.row.len
  have hbW := (Below.refl _ w).alloc (Nat.le_refl _) (.cells #[.int .i64 0, .bool false, .slice none 0 0] 38)
  have kW := World.alloc_heap_new w (.cells #[.int .i64 0, .bool false, .slice none 0 0] 38)
  have k0 : (w.alloc (.cells #[.int .i64 0, .bool false, .slice none 0 0] 38)).cell? ⟨g, 0, none⟩ = some (.slice A L.length c) := cells_at (i := 0) (h.below hbW).ob rfl
  rw [hn] at k0
  clear h hn
  go_enter Try.func10, Try.ntmps10
  go_upto_region 1 with fail
  generalize w.alloc (.cells #[.int .i64 0, .bool false, .slice none 0 0] 38) = W at *
  have hq := setRow_heap W w.heap.size _ #[.int .i64 0, .bool false, .slice none 0 0] _ _ kW
  have hb2 : Below w.heap.size w (W.setRow w.heap.size #[.int .i64 0, .bool false, .slice none 0 0]) := below_row hbW (Nat.le_refl _)
  go_wp2_with ((with_reducible show wpList _ _ _ (Oper.mk _ (Op.store 38 _ _) _ _ _ _ :: _) _ _); refine nir_store (cs := #[.int .i64 0, .bool false, .slice none 0 0]) rfl rfl kW rfl rfl (by simp [Value.oneCell']) ?_)
  refine bodyPost_ret (res2 rfl rfl (nir_load_run hq rfl)) rfl ?_
  exact ⟨rfl, hb2⟩
theorem nrtake_none (h : Nr w B0 g v room L) (hn : L.length = 0) (a : Int) : Calls Try.prog 13 #[.pointer (some ⟨g, 0, none⟩), .int .i64 a] w fun e w' => e = .returned (.tuple #[.agg #[.int .i64 0, .bool false, .slice none 0 0], .bool false]) ∧ Below w.heap.size w w' := by
  have hbW := (Below.refl _ w).alloc (Nat.le_refl _) (.cells #[.int .i64 0, .bool false, .slice none 0 0] 38)
  have kW := World.alloc_heap_new w (.cells #[.int .i64 0, .bool false, .slice none 0 0] 38)
  have HL := Lib.hid (nrlook_none (h.below hbW) hn a)
  have HZL := Lib.hid (heap_lt kW)
  have HKW := Lib.hid kW
  have hz := hbW.size
  clear h hn kW
  go_enter Try.func13, Try.ntmps13
  go_upto_region 1 with fail
  generalize w.alloc (.cells #[.int .i64 0, .bool false, .slice none 0 0] 38) = W at *
  go_upto_region 2 with (first
    | (go_at_call 10; refine HL.out.mono ?_; rintro e w1 ⟨rfl, x1⟩)
    | ((with_reducible show wpList _ _ _ (Oper.mk _ (Op.store 38 _ _) _ _ _ _ :: _) _ _); refine nir_store_new (cs := #[.int .i64 0, .bool false, .slice none 0 0]) rfl rfl rfl rfl (by simp [Value.oneCell']) ?_))
  have x2 : Below W.heap.size W (w1.alloc (.cells #[.int .i64 0, .bool false, .slice none 0 0] 38)) := x1.alloc x1.size _
  have kW2 := (x2.block _ HZL.out).trans HKW.out
  generalize w1.alloc (.cells #[.int .i64 0, .bool false, .slice none 0 0] 38) = X at *
  have hq := setRow_heap X w.heap.size _ #[.int .i64 0, .bool false, .slice none 0 0] _ _ kW2
  have hb2 : Below w.heap.size w (X.setRow w.heap.size #[.int .i64 0, .bool false, .slice none 0 0]) := below_row (hbW.trans (x2.mono hz)) (Nat.le_refl _)
  go_wp2_with ((with_reducible show wpList _ _ _ (Oper.mk _ (Op.store 38 _ _) _ _ _ _ :: _) _ _); refine nir_store (cs := #[.int .i64 0, .bool false, .slice none 0 0]) rfl rfl kW2 rfl rfl (by simp [Value.oneCell']) ?_)
  refine bodyPost_ret (res2 rfl rfl (nir_load_run hq rfl)) rfl ?_
  exact ⟨rfl, hb2⟩
set_option maxRecDepth 100000 in
set_option maxHeartbeats 4000000 in
theorem nrlook (h : Nr w B0 g v room L) (hn : 0 < L.length) (a : Int) {y : IT} (hy : L[plN a L.length]? = some y) : Calls Try.prog 10 #[.pointer (some ⟨g, 0, none⟩), .int .i64 a] w fun e w' => Hid (e = .returned (.tuple #[.agg (clI y).toArray, .bool true])) ∧ Below w.heap.size w w' := by
  obtain ⟨p1, p2, p3, p4⟩ := plN_eq a hn
  obtain ⟨k, hk⟩ : ∃ k, k = plN a L.length := ⟨_, rfl⟩
  rw [← hk] at hy p1 p2
  obtain ⟨b, c, hv, hc, hBb, ⟨cur, hcur⟩, hat⟩ := h.row.block hn
  have hbW := (Below.refl _ w).alloc (Nat.le_refl _) (.cells #[.int .i64 0, .bool false, .slice none 0 0] 38)
  have kW := World.alloc_heap_new w (.cells #[.int .i64 0, .bool false, .slice none 0 0] 38)
  have hW := h.below hbW
  have hxb : b < w.heap.size := heap_lt hcur
  have hxg : g < w.heap.size := heap_lt h.ob
  have hlm : L.length ≤ 4096 := by have := h.n; have := h.m; omega
  obtain ⟨n, hnn⟩ : ∃ n, n = L.length := ⟨_, rfl⟩
  have hob := hW.ob
  rw [hv, ← hnn] at hob
  rw [← hnn] at p1 p2 p3 p4 hn hc hlm
  have d0 : ((n : Int) == 0) = false := beq_eq_false_iff_ne.2 (by omega)
  have hn0 : ¬ n = 0 := by omega
  have e1 : wrap64 (a.tmod (n : Int)) = a.tmod (n : Int) := by unfold wrap64; omega
  have e2 : wrap64 (a.tmod (n : Int) + (n : Int)) = a.tmod (n : Int) + (n : Int) := by unfold wrap64; omega
  have e3 : IntKind.i64.wrap (a.tmod (n : Int) + (n : Int)) = a.tmod (n : Int) + (n : Int) := IntWalk.i64_in _ (by omega)
  have HP1 := Lib.hid p1
  have HPE : Hid ((a.tmod (n : Int) + (n : Int)) % (n : Int) = (k : Int)) := Lib.hid (by rw [← Int.tmod_eq_emod_of_nonneg (by omega)]; exact p1)
  have hz := hbW.size
  have HI := Lib.hid (hat k y hy)
  have k0 : (w.alloc (.cells #[.int .i64 0, .bool false, .slice none 0 0] 38)).cell? ⟨g, 0, none⟩ = some (.slice (some ⟨b, 0, none⟩) n c) := cells_at (i := 0) hob rfl
  clear h hW hat hcur hv hk hnn hy hBb p1
  go_enter Try.func10, Try.ntmps10
  go_upto_region 1 with fail
  generalize w.alloc (.cells #[.int .i64 0, .bool false, .slice none 0 0] 38) = W at *
  have hgW : g < W.heap.size := by omega
  have KT : Hid (∀ V, Kept (fun i => i = w.heap.size) W V → V.cell? ⟨g, 0, none⟩ = some (.slice (some ⟨b, 0, none⟩) n c)) := Lib.hid fun V hV => cells_at (i := 0) ((hV.block g hgW (by omega)).trans hob) rfl
  have KI : Hid (∀ V, Kept (fun i => i = w.heap.size) W V → V.rangeAt b (k * 3) (clI y)) := Lib.hid fun V hV => by
    intro j u hj
    have h1 := HI.out j u hj
    rw [← h1]
    exact World.cell?_of_block ((hV.block b (by omega) (by omega)).trans (hbW.block b hxb))
  have KZ : Hid (W.drew.heap[w.heap.size]? = some (.cells #[.int .i64 0, .bool false, .slice none 0 0] 38 (0, 0))) := Lib.hid kW
  clear hob kW
  go_upto_region 4 with fail
  refine wp_region_held_drew (S := fun V => Kept (fun i => i = w.heap.size) W V) (by kernel_rfl) (Kept.drew W) (fun hS => ?_)
  refine held_pure (i := 0) (oi := ⟨some 15, _, _, _, _, _⟩) rfl (by kernel_rfl) (by kernel_rfl) (by kernel_rfl) (fun _ _ _ h => h) (by rfl) (v := ?_) (fun w hSw => ?_) hS (fun hS => ?_)
  rotate_left
  · go_simp; try with_reducible rfl
  try go_frame
  refine held_pure (i := 1) (oi := ⟨some 16, _, _, _, _, _⟩) rfl (by kernel_rfl) (by kernel_rfl) (by kernel_rfl) (fun _ _ _ h => h) (by rfl) (v := ?_) (fun w hSw => ?_) hS (fun hS => ?_)
  rotate_left
  · go_simp; try with_reducible rfl
  try go_frame
  refine held_pure (i := 2) (oi := ⟨some 17, _, _, _, _, _⟩) rfl (by kernel_rfl) (by kernel_rfl) (by kernel_rfl) (fun _ _ _ h => h) (by rfl) (v := ?_) (fun w hSw => ?_) hS (fun hS => ?_)
  rotate_left
  · go_simp; try with_reducible rfl
  try go_frame
  refine held_pure (i := 3) (oi := ⟨some 18, _, _, _, _, _⟩) rfl (by kernel_rfl) (by kernel_rfl) (by kernel_rfl) (fun _ _ _ h => h) (by rfl) (fun w hSw => run_load_itR rfl rfl (KT.out w hSw)) hS (fun hS => ?_)
  try go_frame
  refine held_pure (i := 4) (oi := ⟨some 19, _, _, _, _, _⟩) rfl (by kernel_rfl) (by kernel_rfl) (by kernel_rfl) (fun _ _ _ h => h) (by rfl) (v := ?_) (fun w hSw => ?_) hS (fun hS => ?_)
  rotate_left
  · go_simp; try with_reducible rfl
  try go_frame
  refine held_pure (i := 5) (oi := ⟨some 20, _, _, _, _, _⟩) rfl (by kernel_rfl) (by kernel_rfl) (by kernel_rfl) (fun _ _ _ h => h) (by rfl) (v := ?_) (fun w hSw => ?_) hS (fun hS => ?_)
  rotate_left
  · go_simp; try with_reducible rfl
  try go_frame
  refine held_pure (i := 6) (oi := ⟨some 21, _, _, _, _, _⟩) rfl (by kernel_rfl) (by kernel_rfl) (by kernel_rfl) (fun _ _ _ h => h) (by rfl) (v := .int .i64 (a.tmod (n : Int))) (fun w hSw => by go_simp; (try rw [if_neg hn0]); (try rfl)) hS (fun hS => ?_)
  try go_frame
  refine held_pure (i := 7) (oi := ⟨some 22, _, _, _, _, _⟩) rfl (by kernel_rfl) (by kernel_rfl) (by kernel_rfl) (fun _ _ _ h => h) (by rfl) (v := ?_) (fun w hSw => ?_) hS (fun hS => ?_)
  rotate_left
  · go_simp; try with_reducible rfl
  try go_frame
  refine held_pure (i := 8) (oi := ⟨some 23, _, _, _, _, _⟩) rfl (by kernel_rfl) (by kernel_rfl) (by kernel_rfl) (fun _ _ _ h => h) (by rfl) (v := .int .i64 (a.tmod (n : Int) + (n : Int))) (fun w hSw => by go_simp) hS (fun hS => ?_)
  try go_frame
  refine held_pure (i := 9) (oi := ⟨some 24, _, _, _, _, _⟩) rfl (by kernel_rfl) (by kernel_rfl) (by kernel_rfl) (fun _ _ _ h => h) (by rfl) (v := ?_) (fun w hSw => ?_) hS (fun hS => ?_)
  rotate_left
  · go_simp; try with_reducible rfl
  try go_frame
  refine held_pure (i := 10) (oi := ⟨some 25, _, _, _, _, _⟩) rfl (by kernel_rfl) (by kernel_rfl) (by kernel_rfl) (fun _ _ _ h => h) (by rfl) (v := .int .i64 (k : Int)) (fun w hSw => by go_simp; (try rw [if_neg hn0]); first | exact HP1.out | exact HPE.out | rw [HPE.out] | rw [HP1.out]) hS (fun hS => ?_)
  try go_frame
  refine held_pure (i := 11) (oi := ⟨some 26, _, _, _, _, _⟩) rfl (by kernel_rfl) (by kernel_rfl) (by kernel_rfl) (fun _ _ _ h => h) (by rfl) (v := ?_) (fun w hSw => ?_) hS (fun hS => ?_)
  rotate_left
  · go_simp; try with_reducible rfl
  try go_frame
  refine held_pure (i := 12) (oi := ⟨some 27, _, _, _, _, _⟩) rfl (by kernel_rfl) (by kernel_rfl) (by kernel_rfl) (fun _ _ _ h => h) (by rfl) (fun w hSw => run_load_oR rfl rfl (KI.out w hSw) rfl) hS (fun hS => ?_)
  try go_frame
  refine wpAnyH_ready (rs := [13]) (by kernel_rfl) (by simp) (AllReadyH.cons (o := ⟨none, _, _, _, _, _⟩) rfl (fun K hK => ?_) AllReadyH.nil)
  rw [if_pos (by rfl)]
  refine wp_store_row 38 _ _ rfl w.heap.size (clI y).toArray rfl rfl 38 _ KZ.out (by kernel_rfl) rfl (clI_all _) ?_
  have kq := setRow_heap W.drew w.heap.size _ (clI y).toArray _ _ KZ.out
  have hX : Kept (fun i => i = w.heap.size) W (W.drew.setRow w.heap.size (clI y).toArray) := (Kept.drew W).trans (Kept.setRow _ _ _) (fun _ _ e => e)
  refine hK _ _ hX (fun hS => ?_)
  clear hK K
  generalize W.drew.setRow w.heap.size (clI y).toArray = X at *
  try go_frame
  refine held_pure (i := 14) (oi := ⟨some 5, _, _, _, _, _⟩) rfl (by kernel_rfl) (by kernel_rfl) (by kernel_rfl) (fun _ _ _ h => h) (by rfl) (v := ?_) (fun w hSw => ?_) hS (fun hS => ?_)
  rotate_left
  · go_simp; try with_reducible rfl
  try go_frame
  refine wpAnyH_done (by kernel_rfl) ?_ _
  go_wp2_with fail
  refine bodyPost_ret (res2 rfl rfl (nir_load_run kq rfl)) rfl ?_
  exact ⟨Lib.hid rfl, ⟨hX.os.trans hbW.os, hX.tape.trans hbW.tape, hX.output.trans hbW.output, Nat.le_trans hz hX.size, fun i hi => (hX.block i (by omega) (by omega)).trans (hbW.block i hi)⟩⟩
end
end Go.Proofs.Ytpoigngpdcmipaa

/-
  Layer 34: Take of the document's side. Conditions are each theorem's own.
-/
namespace Go.Proofs.Ytpoigngpdcmipaa
open Go.RowKit Go.Shelf
theorem w64s {k : Nat} (h : k < 5000) : wrap64 ((k : Int) + 1) = (k : Int) + 1 := by unfold wrap64; omega
theorem w64t {k : Nat} (h : k < 5000) : IntKind.i64.wrap ((k : Int) + 1) = (k : Int) + 1 := IntWalk.i64_in _ (by omega)
section
variable {w w' : World} {B0 g : Nat} {v : Value} {room : Int} {L : List IT}
set_option maxRecDepth 100000 in
set_option maxHeartbeats 4000000 in
theorem nrtakeX (h : Nr w B0 g v room L) (hn : 0 < L.length) (a : Int) {y : IT} (hy : L[plN a L.length]? = some y) : Calls Try.prog 13 #[.pointer (some ⟨g, 0, none⟩), .int .i64 a] w fun e w' => Hid (e = .returned (.tuple #[.agg (clI y).toArray, .bool true])) ∧ (∃ v', Nr w' B0 g v' room (L.eraseIdx (plN a L.length)) ∧ ∀ b, v'.ownBlock = some b → w.heap.size ≤ b) ∧ Kept (fun i => i = g) w w' := by
  have hyy := hy
  have hhn := hn
  obtain ⟨p1, p2, p3, p4⟩ := plN_eq a hn
  obtain ⟨k, hk⟩ : ∃ k, k = plN a L.length := ⟨_, rfl⟩
  rw [← hk] at hy p1 p2 ⊢
  obtain ⟨b, c, hv, hc, hBb, ⟨cur, hcur⟩, hat⟩ := h.row.block hn
  have hbW := (Below.refl _ w).alloc (Nat.le_refl _) (.cells #[.int .i64 0, .bool false, .slice none 0 0] 38)
  have kW := World.alloc_heap_new w (.cells #[.int .i64 0, .bool false, .slice none 0 0] 38)
  have hW := h.below hbW
  have hxb : b < w.heap.size := heap_lt hcur
  have hxg : g < w.heap.size := heap_lt h.ob
  have hlm : L.length ≤ 4096 := by have := h.n; have := h.m; omega
  obtain ⟨n, hnn⟩ : ∃ n, n = L.length := ⟨_, rfl⟩
  have hob := hW.ob
  rw [hv, ← hnn] at hob
  rw [← hnn] at p1 p2 p3 p4 hn hc hlm
  have d0 : ((n : Int) == 0) = false := beq_eq_false_iff_ne.2 (by omega)
  have hn0 : ¬ n = 0 := by omega
  have e1 : wrap64 (a.tmod (n : Int)) = a.tmod (n : Int) := by unfold wrap64; omega
  have e2 : wrap64 (a.tmod (n : Int) + (n : Int)) = a.tmod (n : Int) + (n : Int) := by unfold wrap64; omega
  have e3 : IntKind.i64.wrap (a.tmod (n : Int) + (n : Int)) = a.tmod (n : Int) + (n : Int) := IntWalk.i64_in _ (by omega)
  have HP1 := Lib.hid p1
  have HPE : Hid ((a.tmod (n : Int) + (n : Int)) % (n : Int) = (k : Int)) := Lib.hid (by rw [← Int.tmod_eq_emod_of_nonneg (by omega)]; exact p1)
  have hz := hbW.size
  have HLK := Lib.hid (nrlook hW hhn a hyy)
  obtain ⟨A0, c0, ev0, hrd0, _⟩ := h.row.shape
  rw [hv] at ev0
  injection ev0 with ev1 _ ev2
  rw [← ev1] at hrd0
  have HRD := Lib.hid hrd0
  have HH := Lib.hid h
  have HV := Lib.hid hv
  have HNN := Lib.hid hnn
  have HOB := Lib.hid hob
  have hk1 : ((k : Int) + 1) = ((k + 1 : Nat) : Int) := by push_cast; rfl
  have hk5 : k < 5000 := Nat.lt_of_lt_of_le p2 (Nat.le_trans hlm (by decide))
  have e5 := w64s hk5
  have e7 := w64t hk5
  clear h hW hat hcur hv hk hy hBb p1 hyy hhn hob ev1 ev2 hrd0 hk1
  go_enter Try.func13, Try.ntmps13
  go_upto_region 1 with fail
  generalize w.alloc (.cells #[.int .i64 0, .bool false, .slice none 0 0] 38) = W at *
  have HKW := Lib.hid kW
  have HZL := Lib.hid (heap_lt kW)
  clear kW hnn
  go_upto_region 4 with (first
    | (go_at_call 10; refine HLK.out.mono ?_; rintro e w1 ⟨he, x1⟩; obtain rfl := he.out; clear he)
    | ((with_reducible show wpList _ _ _ (Oper.mk _ (Op.store 38 _ _) _ _ _ _ :: _) _ _); refine nir_store_new (cs := (clI y).toArray) rfl rfl rfl rfl (clI_all _) ?_))
  have kN := World.alloc_heap_new w1 (.cells (clI y).toArray 38)
  have x2 : Below W.heap.size W (w1.alloc (.cells (clI y).toArray 38)) := x1.alloc x1.size _
  have zN : W.heap.size ≤ w1.heap.size := x1.size
  generalize w1.alloc (.cells (clI y).toArray 38) = W2 at *
  generalize w1.heap.size = gn at *
  have hbW2 := hbW.trans (x2.mono hz)
  have kW2 := (x2.block _ HZL.out).trans HKW.out
  have HG2 := (x2.block g (by omega)).trans HOB.out
  have KT : Hid (∀ V, Below W2.heap.size W2 V → V.cell? ⟨g, 0, none⟩ = some (.slice (some ⟨b, 0, none⟩) n c)) := Lib.hid fun V hV => cells_at (i := 0) ((hV.block g (heap_lt HG2)).trans HG2) rfl
  refine wp_region_held_drew (S := fun V => Below W2.heap.size W2 V) (by kernel_rfl) (Below.refl _ W2).drew (fun hS => ?_)
  refine held_pure (i := 0) (oi := ⟨some 18, _, _, _, _, _⟩) rfl (by kernel_rfl) (by kernel_rfl) (by kernel_rfl) (fun _ _ _ h => h) (by rfl) (v := ?_) (fun w hSw => ?_) hS (fun hS => ?_)
  rotate_left
  · go_simp; try with_reducible rfl
  try go_frame
  refine held_pure (i := 1) (oi := ⟨some 19, _, _, _, _, _⟩) rfl (by kernel_rfl) (by kernel_rfl) (by kernel_rfl) (fun _ _ _ h => h) (by rfl) (v := ?_) (fun w hSw => ?_) hS (fun hS => ?_)
  rotate_left
  · go_simp; try with_reducible rfl
  try go_frame
  refine held_pure (i := 2) (oi := ⟨some 20, _, _, _, _, _⟩) rfl (by kernel_rfl) (by kernel_rfl) (by kernel_rfl) (fun _ _ _ h => h) (by rfl) (v := ?_) (fun w hSw => ?_) hS (fun hS => ?_)
  rotate_left
  · go_simp; try with_reducible rfl
  try go_frame
  refine held_pure (i := 3) (oi := ⟨some 21, _, _, _, _, _⟩) rfl (by kernel_rfl) (by kernel_rfl) (by kernel_rfl) (fun _ _ _ h => h) (by rfl) (v := ?_) (fun w hSw => ?_) hS (fun hS => ?_)
  rotate_left
  · go_simp; try with_reducible rfl
  try go_frame
  refine held_pure (i := 4) (oi := ⟨some 22, _, _, _, _, _⟩) rfl (by kernel_rfl) (by kernel_rfl) (by kernel_rfl) (fun _ _ _ h => h) (by rfl) (fun w hSw => run_load_itR rfl rfl (KT.out w hSw)) hS (fun hS => ?_)
  try go_frame
  refine held_pure (i := 5) (oi := ⟨some 23, _, _, _, _, _⟩) rfl (by kernel_rfl) (by kernel_rfl) (by kernel_rfl) (fun _ _ _ h => h) (by rfl) (v := ?_) (fun w hSw => ?_) hS (fun hS => ?_)
  rotate_left
  · go_simp; try with_reducible rfl
  try go_frame
  refine held_pure (i := 6) (oi := ⟨some 24, _, _, _, _, _⟩) rfl (by kernel_rfl) (by kernel_rfl) (by kernel_rfl) (fun _ _ _ h => h) (by rfl) (v := .int .i64 (a.tmod (n : Int))) (fun w hSw => by go_simp; (try rw [if_neg hn0]); (try rfl)) hS (fun hS => ?_)
  try go_frame
  refine held_pure (i := 7) (oi := ⟨some 25, _, _, _, _, _⟩) rfl (by kernel_rfl) (by kernel_rfl) (by kernel_rfl) (fun _ _ _ h => h) (by rfl) (v := ?_) (fun w hSw => ?_) hS (fun hS => ?_)
  rotate_left
  · go_simp; try with_reducible rfl
  try go_frame
  refine held_pure (i := 8) (oi := ⟨some 26, _, _, _, _, _⟩) rfl (by kernel_rfl) (by kernel_rfl) (by kernel_rfl) (fun _ _ _ h => h) (by rfl) (v := ?_) (fun w hSw => ?_) hS (fun hS => ?_)
  rotate_left
  · go_simp; try with_reducible rfl
  try go_frame
  refine held_pure (i := 9) (oi := ⟨some 27, _, _, _, _, _⟩) rfl (by kernel_rfl) (by kernel_rfl) (by kernel_rfl) (fun _ _ _ h => h) (by rfl) (v := ?_) (fun w hSw => ?_) hS (fun hS => ?_)
  rotate_left
  · go_simp; try with_reducible rfl
  try go_frame
  refine held_pure (i := 10) (oi := ⟨some 28, _, _, _, _, _⟩) rfl (by kernel_rfl) (by kernel_rfl) (by kernel_rfl) (fun _ _ _ h => h) (by rfl) (fun w hSw => run_load_itR rfl rfl (KT.out w hSw)) hS (fun hS => ?_)
  try go_frame
  refine held_pure (i := 11) (oi := ⟨some 29, _, _, _, _, _⟩) rfl (by kernel_rfl) (by kernel_rfl) (by kernel_rfl) (fun _ _ _ h => h) (by rfl) (v := ?_) (fun w hSw => ?_) hS (fun hS => ?_)
  rotate_left
  · go_simp; try with_reducible rfl
  try go_frame
  refine held_pure (i := 12) (oi := ⟨some 30, _, _, _, _, _⟩) rfl (by kernel_rfl) (by kernel_rfl) (by kernel_rfl) (fun _ _ _ h => h) (by rfl) (v := .int .i64 (a.tmod (n : Int) + (n : Int))) (fun w hSw => by go_simp) hS (fun hS => ?_)
  try go_frame
  refine held_pure (i := 13) (oi := ⟨some 31, _, _, _, _, _⟩) rfl (by kernel_rfl) (by kernel_rfl) (by kernel_rfl) (fun _ _ _ h => h) (by rfl) (v := ?_) (fun w hSw => ?_) hS (fun hS => ?_)
  rotate_left
  · go_simp; try with_reducible rfl
  try go_frame
  refine held_pure (i := 14) (oi := ⟨some 32, _, _, _, _, _⟩) rfl (by kernel_rfl) (by kernel_rfl) (by kernel_rfl) (fun _ _ _ h => h) (by rfl) (v := ?_) (fun w hSw => ?_) hS (fun hS => ?_)
  rotate_left
  · go_simp; try with_reducible rfl
  try go_frame
  refine held_pure (i := 15) (oi := ⟨some 33, _, _, _, _, _⟩) rfl (by kernel_rfl) (by kernel_rfl) (by kernel_rfl) (fun _ _ _ h => h) (by rfl) (v := ?_) (fun w hSw => ?_) hS (fun hS => ?_)
  rotate_left
  · go_simp; try with_reducible rfl
  try go_frame
  refine held_pure (i := 16) (oi := ⟨some 34, _, _, _, _, _⟩) rfl (by kernel_rfl) (by kernel_rfl) (by kernel_rfl) (fun _ _ _ h => h) (by rfl) (fun w hSw => run_load_itR rfl rfl (KT.out w hSw)) hS (fun hS => ?_)
  try go_frame
  refine held_pure (i := 17) (oi := ⟨some 35, _, _, _, _, _⟩) rfl (by kernel_rfl) (by kernel_rfl) (by kernel_rfl) (fun _ _ _ h => h) (by rfl) (v := ?_) (fun w hSw => ?_) hS (fun hS => ?_)
  rotate_left
  · go_simp; try with_reducible rfl
  try go_frame
  refine held_pure (i := 18) (oi := ⟨some 36, _, _, _, _, _⟩) rfl (by kernel_rfl) (by kernel_rfl) (by kernel_rfl) (fun _ _ _ h => h) (by rfl) (v := .int .i64 (k : Int)) (fun w hSw => by go_simp; (try rw [if_neg hn0]); first | exact HP1.out | exact HPE.out | rw [HPE.out] | rw [HP1.out]) hS (fun hS => ?_)
  try go_frame
  refine held_pure (i := 19) (oi := ⟨some 8, _, _, _, _, _⟩) rfl (by kernel_rfl) (by kernel_rfl) (by kernel_rfl) (fun _ _ _ h => h) (by rfl) (v := .int .i64 (k : Int)) (fun w hSw => by go_simp) hS (fun hS => ?_)
  try go_frame
  refine wpAnyH_done (by kernel_rfl) ?_ _
  have x3 : Below W2.heap.size W2 W2.drew := (Below.refl _ W2).drew
  have HG3 : Hid (W2.drew.heap[g]? = some (.cells #[.slice (some ⟨b, 0, none⟩) n c, .int .i64 room] 47 (0, 0))) := Lib.hid HG2
  have HK3 : Hid (W2.drew.heap[w.heap.size]? = some (.cells #[.int .i64 0, .bool false, .slice none 0 0] 38 (0, 0))) := Lib.hid kW2
  have HI3 : Hid (W2.drew.heap[gn]? = some (.cells (clI y).toArray 38 (0, 0))) := Lib.hid kN
  have hbW3 := hbW2.trans (x3.mono hbW2.size)
  clear hS x2 x1 kN kW2 HG2 KT x3 hbW2
  generalize W2.drew = W3 at *
  have hz3 := hbW3.size
  have KT3 : Hid (∀ V, Below W3.heap.size W3 V → V.cell? ⟨g, 0, none⟩ = some (.slice (some ⟨b, 0, none⟩) n c)) := Lib.hid fun V hV => cells_at (i := 0) ((hV.block g (heap_lt HG3.out)).trans HG3.out) rfl
  clear e1 e2 e3 p3 p4 d0 hn0 HP1 HPE
  have HKZ : Hid ((0 : Int) ≤ (k : Int)) := Lib.hid (Int.natCast_nonneg k)
  have HKC : Hid ((k : Int) ≤ (c : Int)) := Lib.hid (by omega)
  have hk1n : k + 1 ≤ n := p2
  go_upto_region 5 with fail
  refine regionY 16 (fun V => Below W3.heap.size W3 V) (by kernel_rfl) ?_
  have b0 : Below W3.heap.size W3 W3.drew := (Below.refl _ W3).drew
  have hS : Below W3.heap.size W3 W3.drew := b0
  refine pureY (i := 0) (oi := ⟨some 37, _, _, _, _, _⟩) rfl (by kernel_rfl) (by kernel_rfl) (by kernel_rfl) (by kernel_rfl) (by kernel_rfl) (fun _ _ _ h => h) (by rfl) (v := ?_) (fun w hSw => ?_) hS ?_
  rotate_left
  · go_simp; try with_reducible rfl
  try go_frame
  refine pureY (i := 1) (oi := ⟨some 38, _, _, _, _, _⟩) rfl (by kernel_rfl) (by kernel_rfl) (by kernel_rfl) (by kernel_rfl) (by kernel_rfl) (fun _ _ _ h => h) (by rfl) (v := ?_) (fun w hSw => ?_) hS ?_
  rotate_left
  · go_simp; try with_reducible rfl
  try go_frame
  refine pureY (i := 2) (oi := ⟨some 39, _, _, _, _, _⟩) rfl (by kernel_rfl) (by kernel_rfl) (by kernel_rfl) (by kernel_rfl) (by kernel_rfl) (fun _ _ _ h => h) (by rfl) (v := ?_) (fun w hSw => ?_) hS ?_
  rotate_left
  · go_simp; try with_reducible rfl
  try go_frame
  refine pureY (i := 3) (oi := ⟨some 40, _, _, _, _, _⟩) rfl (by kernel_rfl) (by kernel_rfl) (by kernel_rfl) (by kernel_rfl) (by kernel_rfl) (fun _ _ _ h => h) (by rfl) (v := ?_) (fun w hSw => ?_) hS ?_
  rotate_left
  · go_simp; try with_reducible rfl
  try go_frame
  refine pureY (i := 4) (oi := ⟨some 41, _, _, _, _, _⟩) rfl (by kernel_rfl) (by kernel_rfl) (by kernel_rfl) (by kernel_rfl) (by kernel_rfl) (fun _ _ _ h => h) (by rfl) (fun w hSw => run_load_itR rfl rfl (KT3.out _ hSw)) hS ?_
  try go_frame
  refine pureY (i := 5) (oi := ⟨some 42, _, _, _, _, _⟩) rfl (by kernel_rfl) (by kernel_rfl) (by kernel_rfl) (by kernel_rfl) (by kernel_rfl) (fun _ _ _ h => h) (by rfl) (v := ?_) (fun w hSw => ?_) hS ?_
  rotate_left
  · go_simp; try with_reducible rfl
  try go_frame
  refine pureY (i := 6) (oi := ⟨some 43, _, _, _, _, _⟩) rfl (by kernel_rfl) (by kernel_rfl) (by kernel_rfl) (by kernel_rfl) (by kernel_rfl) (fun _ _ _ h => h) (by rfl) (fun w hSw => run_cutR_h (h := (k : Int)) rfl rfl rfl HKZ.out HKC.out (m := k) rfl) hS ?_
  try go_frame
  refine pureY (i := 8) (oi := ⟨some 45, _, _, _, _, _⟩) rfl (by kernel_rfl) (by kernel_rfl) (by kernel_rfl) (by kernel_rfl) (by kernel_rfl) (fun _ _ _ h => h) (by rfl) (v := ?_) (fun w hSw => ?_) hS ?_
  rotate_left
  · go_simp; try with_reducible rfl
  try go_frame
  refine pureY (i := 9) (oi := ⟨some 46, _, _, _, _, _⟩) rfl (by kernel_rfl) (by kernel_rfl) (by kernel_rfl) (by kernel_rfl) (by kernel_rfl) (fun _ _ _ h => h) (by rfl) (v := ?_) (fun w hSw => ?_) hS ?_
  rotate_left
  · go_simp; try with_reducible rfl
  try go_frame
  refine pureY (i := 10) (oi := ⟨some 47, _, _, _, _, _⟩) rfl (by kernel_rfl) (by kernel_rfl) (by kernel_rfl) (by kernel_rfl) (by kernel_rfl) (fun _ _ _ h => h) (by rfl) (v := ?_) (fun w hSw => ?_) hS ?_
  rotate_left
  · go_simp; try with_reducible rfl
  try go_frame
  refine pureY (i := 11) (oi := ⟨some 48, _, _, _, _, _⟩) rfl (by kernel_rfl) (by kernel_rfl) (by kernel_rfl) (by kernel_rfl) (by kernel_rfl) (fun _ _ _ h => h) (by rfl) (fun w hSw => run_load_itR rfl rfl (KT3.out _ hSw)) hS ?_
  try go_frame
  refine pureY (i := 12) (oi := ⟨some 49, _, _, _, _, _⟩) rfl (by kernel_rfl) (by kernel_rfl) (by kernel_rfl) (by kernel_rfl) (by kernel_rfl) (fun _ _ _ h => h) (by rfl) (v := ?_) (fun w hSw => ?_) hS ?_
  rotate_left
  · go_simp; try with_reducible rfl
  try go_frame
  refine pureY (i := 13) (oi := ⟨some 50, _, _, _, _, _⟩) rfl (by kernel_rfl) (by kernel_rfl) (by kernel_rfl) (by kernel_rfl) (by kernel_rfl) (fun _ _ _ h => h) (by rfl) (v := .int .i64 ((k + 1 : Nat) : Int)) (fun w hSw => by go_simp; first | done | rfl | (push_cast; rfl)) hS ?_
  try go_frame
  refine pureY (i := 14) (oi := ⟨some 51, _, _, _, _, _⟩) rfl (by kernel_rfl) (by kernel_rfl) (by kernel_rfl) (by kernel_rfl) (by kernel_rfl) (fun _ _ _ h => h) (by rfl) (fun w hSw => run_cutR_l rfl rfl (l := k + 1) rfl hk1n (m := n - (k + 1)) rfl) hS ?_
  try go_frame
  refine oneY (i := 7) (oi := ⟨some 44, _, _, _, _, _⟩) (by kernel_rfl) rfl (by rfl) (fun K hK => ?_)
  refine append_itR _ _ rfl W3.heap.size (.slice none 0 0) 0 [] rfl (World.ownsRow_nil _ _ _ _) w.heap.size (some ⟨b, 0, none⟩) k c (L.take k) rfl (by rw [List.length_take, ← HNN.out]; omega) (fun e => by cases e) (rds_takeI (HRD.out.below (hbW3.trans (b0.mono hz3)))) (by omega) b0.size ?_
  intro v7 w7 own7 grow7
  rw [Nat.zero_add, List.nil_append] at own7
  have b7 := b0.grown grow7 b0.size (fun _ hk => by cases hk)
  have hS : Below W3.heap.size W3 w7 := b7
  refine hK _ _ (fun _ => hS) ?_
  clear hK K
  try go_frame
  try go_frame
  refine oneY (i := 15) (oi := ⟨some 52, _, _, _, _, _⟩) (by kernel_rfl) rfl (by rfl) (fun K hK => ?_)
  refine append_itR _ _ rfl W3.heap.size v7 k _ rfl own7 w.heap.size (cutI (some ⟨b, 0, none⟩) c (k + 1)) (n - (k + 1)) (c - (k + 1)) (L.drop (k + 1)) rfl (by rw [List.length_drop, ← HNN.out]) (cutI_none (fun e => by cases e)) (rds_cutI (HRD.out.below (hbW3.trans (b7.mono hz3))) (by rw [← HNN.out]; exact hc)) (by omega) b7.size ?_
  intro v15 w15 own15 grow15
  have b15 := b7.grown grow15 b7.size (fun k hk => own_block_ge own7 k hk)
  have hS : Below W3.heap.size W3 w15 := b15
  refine hK _ _ (fun _ => hS) ?_
  clear hK K
  try go_frame
  try go_frame
  refine oneY (i := 16) (oi := ⟨some 53, _, _, _, _, _⟩) (by kernel_rfl) rfl (by rfl) (fun K hK => ?_)
  refine valI (v := ?_) ?_ ?_
  rotate_left
  · go_simp; try with_reducible rfl
  refine hK _ _ (fun h => absurd h (by decide)) ?_
  clear hK K
  try go_frame
  refine oneY (i := 17) (oi := ⟨some 54, _, _, _, _, _⟩) (by kernel_rfl) rfl (by rfl) (fun K hK => ?_)
  refine valI (v := ?_) ?_ ?_
  rotate_left
  · go_simp; try with_reducible rfl
  refine hK _ _ (fun h => absurd h (by decide)) ?_
  clear hK K
  try go_frame
  refine oneY (i := 18) (oi := ⟨none, _, _, _, _, _⟩) (by kernel_rfl) rfl (by rfl) (fun K hK => ?_)
  have ht := (b15.block g (heap_lt HG3.out)).trans HG3.out
  obtain ⟨A15, c15, rfl⟩ := own_slice own15
  refine store_itR rfl rfl rfl (cells_at (i := 0) ht rfl) (heap_frozen ht 0) ?_
  refine hK _ _ (fun h => absurd h (by decide)) ?_
  clear hK K
  try go_frame
  try go_frame
  refine doneY (by kernel_rfl) ?_ _
  have hgn : g ≠ w.heap.size := by omega
  have kI5 := (heap_setCell_other w15 ⟨g, 0, none⟩ gn (.slice A15 (k + (n - (k + 1))) c15) (by show gn ≠ g; omega)).trans ((b15.block gn (heap_lt HI3.out)).trans HI3.out)
  have kW5 := (heap_setCell_other w15 ⟨g, 0, none⟩ w.heap.size (.slice A15 (k + (n - (k + 1))) c15) (Ne.symm hgn)).trans ((b15.block w.heap.size (heap_lt HK3.out)).trans HK3.out)
  have kg5 := heap_setCell_same w15 g 0 _ _ (.slice A15 (k + (n - (k + 1))) c15) ht
  have o5 := own_setCell (p := ⟨g, 0, none⟩) (u := .slice A15 (k + (n - (k + 1))) c15) own15 (heap_lt HG3.out)
  have kk5 : Kept (fun i => i = g) w (w15.setCell ⟨g, 0, none⟩ (.slice A15 (k + (n - (k + 1))) c15)) := (Kept.of_below (hbW3.trans (b15.mono hz3))).trans (Kept.setCell w15 g 0 _) (fun _ _ h => h)
  have hzW3 : w.heap.size < W3.heap.size := heap_lt HK3.out
  generalize w15.setCell ⟨g, 0, none⟩ (.slice A15 (k + (n - (k + 1))) c15) = W5 at *
  have hr5 : W5.rangeAt gn 0 (clI y) := range_heap kI5
  have hq := setRow_heap W5 w.heap.size _ (clI y).toArray _ _ kW5
  have kg6 := (setRow_other W5 w.heap.size g (clI y).toArray hgn).trans kg5
  have o6 := own_setRow (cs := (clI y).toArray) o5 hzW3
  have kk6 : Kept (fun i => i = g) w (W5.setRow w.heap.size (clI y).toArray) := kk5.trans (Kept.setRow W5 w.heap.size _) (fun i hi e => absurd e (by omega))
  clear own15 grow15 ht b15 b7 b0 own7 grow7 hS kk5 o5
  go_wp2_with (first
    | ((with_reducible show wpList _ _ _ (Oper.mk _ (Op.load 38 _) _ _ _ _ :: _) _ _); refine wpList_val rfl (run_load_nir rfl rfl hr5 rfl) ?_)
    | ((with_reducible show wpList _ _ _ (Oper.mk _ (Op.store 38 _ _) _ _ _ _ :: _) _ _); refine nir_store (cs := (clI y).toArray) rfl rfl kW5 rfl rfl (clI_all _) ?_))
  refine bodyPost_ret (res2 rfl rfl (nir_load_run hq rfl)) rfl ?_
  have hel : (L.eraseIdx k).length = k + (n - (k + 1)) := by rw [List.length_eraseIdx, if_pos (by rw [← HNN.out]; exact p2), ← HNN.out]; omega
  have hT : AwayT w (fun i => i = g) (fun ty => ty = 47) := fun j hj cs ty fr hjj => by
    subst hj
    rw [HH.out.ob] at hjj
    injection hjj with hjj
    injection hjj with _ e _
    exact e.symm
  refine ⟨Lib.hid rfl, ⟨.slice A15 (k + (n - (k + 1))) c15, ⟨?_, ⟨?_, fun z hz9 => own_keptA (HH.out.row.o z (List.mem_of_mem_eraseIdx hz9)) kk6 hT (nat_ne (by kernel_rfl))⟩, HH.out.gB, ?_, HH.out.m⟩, fun b hb => Nat.le_trans (Nat.le_of_lt hzW3) (own_block_ge o6 b hb)⟩, kk6⟩
  · rw [kg6]; rfl
  · rw [hel, List.eraseIdx_eq_take_drop_succ, List.flatMap_append]
    exact own_base o6 (Nat.le_trans HH.out.gB (Nat.le_trans (Nat.le_of_lt hxg) (Nat.le_of_lt hzW3)))
  · have h9 := HH.out.n
    rw [← HNN.out] at h9
    rw [hel]; omega
theorem nrtake (h : Nr w B0 g v room L) (hn : 0 < L.length) (a : Int) {y : IT} (hy : L[plN a L.length]? = some y) : Calls Try.prog 13 #[.pointer (some ⟨g, 0, none⟩), .int .i64 a] w fun e w' => Hid (e = .returned (.tuple #[.agg (clI y).toArray, .bool true])) ∧ (∃ v', Nr w' B0 g v' room (L.eraseIdx (plN a L.length))) ∧ Kept (NNb TNr B0 w) w w' :=
  (nrtakeX h hn a hy).mono (by rintro e w' ⟨h1, ⟨v', h2, _⟩, k⟩; exact ⟨h1, ⟨v', h2⟩, k.mono (fun i _ hi => by subst hi; exact ⟨h.gB, _, _, _, h.ob, .inl rfl⟩)⟩)
end
end Go.Proofs.Ytpoigngpdcmipaa

/-
  Layer 34: the layer's own small example; items of both sides that are the same. Conditions are each theorem's own.
-/
namespace Go.Proofs.Ytpoigngpdcmipaa
open Go.RowKit Go.Shelf
theorem byt_row (bs : List UInt8) (j : Nat) (hj : j < bs.length) : (bs[j].toNat : Int) = byt bs j := by simp [byt, hj]
theorem run_convN {o : Oper} {a : Act} {w : World} {x : Operand} {A : Option Addr} {n c B : Nat} {bs : List UInt8} (ho : o.op = .convert 31 9 x) (hx : a.eval x = .slice A n c) (hn : n = bs.length) (hA : Arg w B A c bs) (h0 : 0 < bs.length) :
    (execOp a.eval o).run Try.prog w = .ok (.value (.string (strB bs))) w := by
  subst hn
  obtain ⟨b, off, rfl, _, hc⟩ := hA.rd h0
  have h := run_convert_bytes_back (P := Try.prog) w 31 9 5 ⟨b, off, none⟩ c bs Try.underlying31 Try.underlying5 Try.underlying9 (fun j hj => by rw [add_off, byt_row bs j hj]; exact hc j hj)
  unfold execOp
  simp only [ho, hx, Sem.run_bind, h]
  rfl
theorem arg_lit {w : World} (x : UInt8) {fr : Nat × Nat} : Arg (w.alloc (.cells #[.int .u8 (x.toNat : Int)] 5 fr)) (w.alloc (.cells #[.int .u8 (x.toNat : Int)] 5 fr)).heap.size (some ⟨w.heap.size, 0, none⟩) 1 [x] := by
  have k0 := World.alloc_heap_new w (.cells #[.int .u8 (x.toNat : Int)] 5 fr)
  have hr : (w.alloc (.cells #[.int .u8 (x.toNat : Int)] 5 fr)).rangeAt w.heap.size 0 (row [x]) := range_heap (cs := row [x]) (by simpa [row] using k0)
  exact ⟨Rd.of_range hr (by simp), Nat.le_refl _, fun e => by cases e⟩
theorem conv_lit (w : World) (x : Int) : (convert 31 31 (.slice (some ⟨w.heap.size, 0, none⟩) 1 1)).run Try.prog (w.alloc (.cells #[.int .u8 x] 5)) = .ok (.slice (some ⟨w.heap.size, 0, none⟩) 1 1) (w.alloc (.cells #[.int .u8 x] 5 (1, 2))) :=
  Lib.run_convert_bytes_const w 31 5 #[.int .u8 x] 1 1 Try.underlying31 Try.underlying5
set_option maxRecDepth 100000 in
set_option maxHeartbeats 4000000 in
theorem awake34 (w : World) : Calls Try.prog 6 #[] w fun e w' => e = .returned (.bool true) ∧ Below w.heap.size w w' := by
  have e98 : strB [98] = ⟨#[98]⟩ := rfl
  have hcv := conv_lit
  go_enter Try.func6, Try.ntmps6
  go_upto_region 2 with (go_at_call 7; refine (ntnew 3 (by decide) w).mono ?_; rintro e w1 ⟨rfl, n1, x1⟩)
  have HN1 := Lib.hid n1
  have hz1 := x1.size
  generalize hgg : w.heap.size = g at *
  clear n1
  have HP1 : Hid (Calls Try.prog 14 #[.pointer (some ⟨g, 0, none⟩), .agg #[.int .i64 1, .bool false, .slice (some ⟨w1.heap.size, 0, none⟩) 1 1]] (w1.alloc (.cells #[.int .u8 97] 5 (1, 2))) fun e w' => e = .returned (.int .i64 0) ∧ ∃ v' P p, Nt w' g g v' 3 ([] ++ [⟨⟨1, false, [97]⟩, P, p⟩]) ∧ Kept (NNb TNc g (w1.alloc (.cells #[.int .u8 97] 5 (1, 2)))) (w1.alloc (.cells #[.int .u8 97] 5 (1, 2))) w') :=
    Lib.hid (ntput (HN1.out.below ((Below.refl _ w1).alloc (Nat.le_refl _) (.cells #[.int .u8 97] 5 (1, 2)))) ⟨⟨1, false, [97]⟩, some ⟨w1.heap.size, 0, none⟩, 1⟩ (arg_lit 97) (by show (0 : Int) ≤ 1 ∧ (1 : Int) < 64; decide) (by show 1 ≤ 65575; decide) (by show ((0 : Nat) : Int) < 3; decide))
  go_upto_region 4 with (first
    | (go_at_call 14; (with_reducible refine HP1.out.mono ?_); rintro e w2 ⟨rfl, v2, P2, p2, n2, k2⟩; have b2 := (Below.refl w1.heap.size w1).alloc (Nat.le_refl _) (.cells #[.int .u8 97] 5 (1, 2)); have HN2 := Lib.hid n2; have HK2 := Lib.hid k2; clear n2 k2; have HP2 : Hid (Calls Try.prog 14 #[.pointer (some ⟨g, 0, none⟩), .agg #[.int .i64 2, .bool true, .slice (some ⟨w2.heap.size, 0, none⟩) 1 1]] (w2.alloc (.cells #[.int .u8 98] 5 (1, 2))) fun e w' => e = .returned (.int .i64 0) ∧ ∃ v' P p, Nt w' g g v' 3 ([⟨⟨1, false, [97]⟩, P2, p2⟩] ++ [⟨⟨2, true, [98]⟩, P, p⟩]) ∧ Kept (NNb TNc g (w2.alloc (.cells #[.int .u8 98] 5 (1, 2)))) (w2.alloc (.cells #[.int .u8 98] 5 (1, 2))) w') := Lib.hid (ntput (HN2.out.below ((Below.refl _ w2).alloc (Nat.le_refl _) (.cells #[.int .u8 98] 5 (1, 2)))) ⟨⟨2, true, [98]⟩, some ⟨w2.heap.size, 0, none⟩, 1⟩ (arg_lit 98) (by show (0 : Int) ≤ 2 ∧ (2 : Int) < 64; decide) (by show 1 ≤ 65575; decide) (by show ((1 : Nat) : Int) < 3; decide)))
    | (go_at_call 14; (with_reducible refine HP2.out.mono ?_); rintro e w3 ⟨rfl, v3, P3, p3, n3, k3⟩; have HN3 := Lib.hid n3; have HK3 := Lib.hid k3; clear n3 k3))
  have epl : plN 3 2 = 1 := by decide
  obtain ⟨L2, hL2⟩ : ∃ L2, L2 = [(⟨⟨1, false, [97]⟩, P2, p2⟩ : IT)] ++ [⟨⟨2, true, [98]⟩, P3, p3⟩] := ⟨_, rfl⟩
  have hn3 : Nt w3 g g v3 3 L2 := by rw [hL2]; exact HN3.out
  have hp : plN 3 L2.length = 1 := by rw [hL2]; exact epl
  have hle : (L2.eraseIdx 1).length = 1 := by rw [hL2]; rfl
  have htk := nttake hn3 (by rw [hL2]; show 0 < 2; decide) 3 (y := ⟨⟨2, true, [98]⟩, P3, p3⟩) (by rw [hp, hL2]; rfl) (by show 1 ≤ 1000000; decide)
  rw [hp] at htk
  have HLE := Lib.hid hle
  clear hn3 hp hle hL2
  have HTK := Lib.hid htk
  clear htk
  go_upto_region 5 with (first
    | (go_at_call 12; refine HTK.out.mono ?_; rintro e w4 ⟨P4, p4, he, o4, ⟨v4, n4⟩, k4⟩; obtain rfl := he.out; clear he)
    | ((with_reducible show wpList _ _ _ (Oper.mk _ (Op.store 33 _ _) _ _ _ _ :: _) _ _); refine nis_store_new (cs := (clI ⟨⟨2, true, [98]⟩, P4, p4⟩).toArray) rfl rfl rfl rfl (clI_all _) ?_))
  have kN := World.alloc_heap_new w4 (.cells (clI ⟨⟨2, true, [98]⟩, P4, p4⟩).toArray 33)
  have a5 : Below w4.heap.size w4 (w4.alloc (.cells (clI ⟨⟨2, true, [98]⟩, P4, p4⟩).toArray 33)) := (Below.refl _ w4).alloc (Nat.le_refl _) _
  have HN5 := Lib.hid (n4.below a5)
  have g5 := arg_own (own_below o4 a5)
  have hB := HN1.out.gB
  have k34 := HK3.out
  have zz1 : g ≤ w1.heap.size := hz1
  have b3 : Below g w1 w3 := by
    have q2 := kept_nb HK2.out (Nat.le_refl _) (Nat.le_trans zz1 b2.size)
    have q3 := (b2.mono zz1).trans q2
    have b3' := (Below.refl w2.heap.size w2).alloc (Nat.le_refl _) (.cells #[.int .u8 98] 5 (1, 2))
    have q4 := kept_nb HK3.out (Nat.le_refl _) (Nat.le_trans zz1 (Nat.le_trans q3.size b3'.size))
    exact q3.trans ((b3'.mono (Nat.le_trans zz1 q3.size)).trans q4)
  have b4 := b3.trans (kept_nb k4 (Nat.le_refl _) (Nat.le_trans zz1 b3.size))
  have b5 := b4.trans (a5.mono (Nat.le_trans zz1 b4.size))
  have bw := x1.trans b5
  generalize w4.alloc (.cells (clI ⟨⟨2, true, [98]⟩, P4, p4⟩).toArray 33) = X at *
  have c0 : X.cell? ⟨w4.heap.size, 0, none⟩ = some (.int .i64 2) := cells_at (i := 0) kN rfl
  have c1 : X.cell? ⟨w4.heap.size, 1, none⟩ = some (.bool true) := cells_at (i := 1) kN rfl
  have c2 : X.cell? ⟨w4.heap.size, 2, none⟩ = some (.slice P4 1 p4) := cells_at (i := 2) kN rfl
  have hlen5 := ntlen HN5.out
  rw [HLE.out] at hlen5
  have HLEN := Lib.hid hlen5
  clear hlen5
  clear o4 n4 k4 a5 kN k34
  go_wp2_with (first
    | ((with_reducible show wpList _ _ _ (Oper.mk _ (Op.convert _ _ _) _ _ _ _ :: _) _ _); refine wpList_valg (by rfl) (run_convN (bs := [98]) rfl rfl rfl g5 (by decide)) ?_)
    | (go_at_call 16; refine HLEN.out.mono ?_; rintro e w6 ⟨rfl, rfl⟩))
  go_ret
  exact ⟨rfl, by rw [hgg]; exact bw⟩
end Go.Proofs.Ytpoigngpdcmipaa

/-
  Layer 34: a row of 256 marks; what is put once is taken once, as lists. Conditions are each theorem's own.
-/
namespace Go.Proofs.Ytpoigngpdcmipaa
open Go.RowKit Go.Shelf
/-- An item that holds one byte. -/
def mkN (j : Nat) : PI34 := ⟨0, false, [UInt8.ofNat j]⟩
def z256 : Array Value := Array.replicate 256 (.bool false)
theorem run_build_256 {o : Oper} {a : Act} {w : World} (ho : o.op = .build 53 #[]) : (execOp a.eval o).run Try.prog w = .ok (.value (.agg z256)) w := by
  have hb : (Instr.build 53 #[]).run Try.prog w = .ok (.agg z256) w := by kernel_rfl
  unfold execOp
  simp only [ho, List.map_toArray, List.map_nil, Sem.run_bind, hb]
  rfl
theorem run_alloc_256 {o : Oper} {a : Act} {w : World} (ho : o.op = .alloc 53) : (execOp a.eval o).run Try.prog w = .ok (.value (.pointer (some ⟨w.heap.size, 0, none⟩))) (w.alloc (.cells z256 53)) := by
  have hb : (zeroValue 53).run Try.prog w = .ok (.agg z256) w := by kernel_rfl
  unfold execOp
  simp only [ho]
  go_simp
theorem store_256 {ops : Array Oper} {rest : List Oper} {x y : Operand} {ty : TypeId} {pos : String} {af : Array Edge} {a : Act} {w : World} {Q : Exit → Act → World → Prop}
    {t : TypeId} (hx : a.eval x = .pointer (some ⟨w.heap.size, 0, none⟩)) (hy : a.eval y = .agg z256)
    (h : wpList Try.prog ops Q rest (a.put none undef) (w.alloc (.cells z256 t))) : wpList Try.prog ops Q (⟨none, .store 53 x y, ty, pos, af, none⟩ :: rest) a (w.alloc (.cells z256 t)) :=
  wpList_plain rfl fun _ hK => wp_store_row 53 x y rfl w.heap.size z256 hx hy t z256 (World.alloc_heap_new w _) (by kernel_rfl) rfl (by kernel_rfl) (hK _ _ (by rw [World.setRow_alloc_new]; exact h))
/-- 256 marks in a block. -/
def Mk8 (w : World) (g : Nat) (S : List Bool) : Prop := w.heap[g]? = some (.cells (S.map Value.bool).toArray 53 (0, 0)) ∧ S.length = 256
theorem mk8_zero (w : World) : Mk8 (w.alloc (.cells z256 53)) w.heap.size (List.replicate 256 false) := by
  refine ⟨?_, List.length_replicate⟩
  rw [World.alloc_heap_new]
  have : z256 = ((List.replicate 256 false).map Value.bool).toArray := by rw [List.map_replicate]; rfl
  rw [this]
theorem Mk8.at_ {w : World} {g : Nat} {S : List Bool} (h : Mk8 w g S) {r : Nat} {b : Bool} (hr : S[r]? = some b) : w.cell? ⟨g, r, none⟩ = some (.bool b) ∧ w.frozen? ⟨g, r, none⟩ = false :=
  ⟨cells_at h.1 (by simp [hr]), heap_frozen h.1 r⟩
theorem Mk8.set {w : World} {g : Nat} {S : List Bool} (h : Mk8 w g S) (r : Nat) : Mk8 (w.setCell ⟨g, r, none⟩ (.bool true)) g (S.set r true) := by
  refine ⟨?_, by rw [List.length_set]; exact h.2⟩
  rw [heap_setCell_same w g r _ _ (.bool true) h.1, List.setIfInBounds_toArray, List.map_set]
def T8y (ty : TypeId) : Prop := ty = 53
theorem t8_no : ¬ T8y 57 ∧ ¬ T8y 33 ∧ ¬ T8y 5 ∧ ¬ TNc 53 := by
  refine ⟨?_, ?_, ?_, ?_⟩
  · exact fun h => absurd h (nat_ne (by kernel_rfl))
  · exact fun h => absurd h (nat_ne (by kernel_rfl))
  · exact fun h => absurd h (nat_ne (by kernel_rfl))
  · rintro (h | h) <;> exact absurd h (nat_ne (by kernel_rfl))
section
variable {w w' : World} {B0 g : Nat} {v : Value} {room : Int} {L : List IT}
theorem Nt.away {S : Nat → Prop} {T : TypeId → Prop} (h : Nt w B0 g v room L) (k : Kept S w w') (hS : AwayT w S T) (h1 : ¬ T 57) (h2 : ¬ T 33) (h3 : ¬ T 5) : Nt w' B0 g v room L :=
  ⟨(k.block g (heap_lt h.ob) (fun e => h1 (hS g e _ _ _ h.ob))).trans h.ob, h.row.kept k hS h2 h3, h.gB, h.n, h.m⟩
theorem Mk8.kept {B gs : Nat} {S : List Bool} (h : Mk8 w gs S) (k : Kept (NNb TNc B w) w w') : Mk8 w' gs S :=
  ⟨(k.block gs (heap_lt h.1) (fun e => t8_no.2.2.2 (nnb_away gs e _ _ _ h.1))).trans h.1, h.2⟩
theorem Mk8.below {gs : Nat} {S : List Bool} (h : Mk8 w gs S) (hb : Below w.heap.size w w') : Mk8 w' gs S := ⟨(hb.block gs (heap_lt h.1)).trans h.1, h.2⟩
theorem mk8_away {gs : Nat} {S : List Bool} (h : Mk8 w gs S) : AwayT w (fun i => i = gs) T8y := fun j hj cs ty fr hjj => by
  subst hj
  rw [h.1] at hjj
  injection hjj with hjj
  injection hjj with _ e _
  exact e.symm
end
/-- What is left: numbers, each once, of which none is marked. -/
structure LeftN (L : List IT) (R : List Nat) (S : List Bool) : Prop where
  m : L.map (·.x) = R.map mkN
  nd : R.Nodup
  lt : ∀ r ∈ R, r < 256
  un : ∀ r ∈ R, S[r]? = some false
theorem mkN_map {L : List IT} {R : List Nat} {k : Nat} (h : L.map (·.x) = R.map mkN) (hk : k < L.length) : ∃ y r, L[k]? = some y ∧ R[k]? = some r ∧ y.x = mkN r := by
  have hl : L.length = R.length := by have := congrArg List.length h; simpa using this
  refine ⟨L[k], R[k]'(by omega), List.getElem?_eq_getElem hk, List.getElem?_eq_getElem (by omega), ?_⟩
  have h1 : (L.map (·.x))[k]? = (R.map mkN)[k]? := by rw [h]
  rw [List.getElem?_map, List.getElem?_map, List.getElem?_eq_getElem hk, List.getElem?_eq_getElem (show k < R.length by omega)] at h1
  exact Option.some.inj h1
theorem LeftN.len {L : List IT} {R : List Nat} {S : List Bool} (h : LeftN L R S) : L.length = R.length := by have := congrArg List.length h.m; simpa using this
theorem LeftN.take {L : List IT} {R : List Nat} {S : List Bool} (h : LeftN L R S) {k r : Nat} (hr : R[k]? = some r) : LeftN (L.eraseIdx k) (R.eraseIdx k) (S.set r true) := by
  refine ⟨?_, h.nd.sublist (List.eraseIdx_sublist R k), fun x hx => h.lt x (List.mem_of_mem_eraseIdx hx), fun x hx => ?_⟩
  · have hm := h.m
    rw [List.eraseIdx_eq_take_drop_succ, List.eraseIdx_eq_take_drop_succ, List.map_append, List.map_append, List.map_take, List.map_drop, List.map_take, List.map_drop, hm]
  · have hne : r ≠ x := by
      rintro rfl
      obtain ⟨hk, hkr⟩ := List.getElem?_eq_some_iff.1 hr
      obtain ⟨i, hi⟩ := List.mem_iff_getElem?.1 hx
      rw [List.getElem?_eraseIdx] at hi
      split at hi
      · have := (List.getElem?_inj hk h.nd).1 (hr.trans hi.symm); omega
      · have := (List.getElem?_inj hk h.nd).1 (hr.trans hi.symm); omega
    rw [List.getElem?_set_ne hne]
    exact h.un x (List.mem_of_mem_eraseIdx hx)
theorem left_all (m : Nat) (hm : m ≤ 255) (L : List IT) (h : L.map (·.x) = (List.range m).map mkN) : LeftN L (List.range m) (List.replicate 256 false) :=
  ⟨h, List.nodup_range, fun r hr => by have := List.mem_range.1 hr; omega, fun r hr => by
    have := List.mem_range.1 hr
    rw [List.getElem?_replicate, if_pos (by omega)]⟩
end Go.Proofs.Ytpoigngpdcmipaa

/-
  All of layer 34 where nothing was made: an iterator that hands over nothing. Conditions are each theorem's own.
-/
namespace Go.Proofs.Ytpoigngpdcmipaa
open Go.RowKit Go.Shelf
attribute [local go_sem] Oper.semAt_some
theorem cell1n {fn : Func} {p : Tmp} {tmps : Array Value} {w : World} {g : Nat} {z : Value} (h : fn.results = #[.cell p 4]) (hp : tmps.getD p undef = .pointer (some ⟨g, 0, none⟩)) (h0 : Boxed w g 4 z) :
    (results fn tmps).run Try.prog w = .ok z w := by
  have hp' : tmps[p]?.getD undef = .pointer (some ⟨g, 0, none⟩) := by simpa using hp
  simp [results, h, hp', asAddr, loadv_bool h0]
theorem ntall_nil (w : World) : Calls Try.prog 17 #[.pointer none] w fun e w' => ∃ B, e = .returned (.func (.func 24) #[] #[.pointer (some ⟨B, 0, none⟩)]) ∧ Boxed w' B 55 (.slice none 0 0) ∧ Below w.heap.size w w' := by
  go_enter Try.func17, Try.ntmps17
  go_wp2_with (go_at_call 22; refine ntmade_nil.mono ?_; rintro e w1 ⟨rfl, h1⟩; obtain rfl := h1.symm)
  go_ret
  exact ⟨_, rfl, Boxed.new _ _ _, (Below.refl _ w).alloc (Nat.le_refl _) _⟩
theorem ntall1_none (m B : Nat) (w0 : World) (hb : Boxed w0 B 55 (.slice none 0 0)) :
    SeqTold m Try.prog 24 #[.pointer (some ⟨B, 0, none⟩)] (fun _ : Unit => #[undef]) (fun _ _ _ => False) (fun _ _ => True) (fun xs => xs = []) (fun _ => False) w0 := by
  intro l J Jx W hW hJ hJx hY h0
  have kb := Boxed.cell (Boxed.below hb hW (Boxed.lt hb))
  clear hY hJ hJx
  refine callsIn_of_wp Try.func24 rfl trivial ?_ rfl
  simp only [Try.ntmps24, List.size_toArray, List.length_cons, List.length_nil, Nat.reduceAdd, Nat.reduceSub, Array.replicate_succ, Array.replicate_zero, List.push_toArray, List.append_toArray, List.nil_append, List.cons_append]
  gi_wp2
  gi_loopw [7] (fun i wr => i = .int .i64 0 ∧ wr = W) (fun _ _ => 0)
  case atStart => exact ⟨rfl, rfl⟩
  case round =>
    obtain ⟨rfl, rfl⟩ := hrel
    gi_wp2
    try rw [Exit.noGoto_normal]
    go_end0
    exact ⟨⟨_, rfl⟩, .inl ⟨[], rfl, h0⟩⟩
theorem wpIn_actN {F : Fence} {n : Nat} {P : Program} {c : Code} {Q : Exit → Act → World → Prop} {a : Act} {w : World} (h : ∀ a0, a0 = a → c.wpIn F n P Q a0 w) : c.wpIn F n P Q a w := h a rfl
/-- What a round keeps: the result's box, the item's, the zero network's. -/
structure NN (w : World) (cs : Array Value) (g : Nat) (b : Bool) (X : World) : Prop where
  res : Boxed X (w.heap.size + 1) 4 (.bool b)
  itm : X.heap[w.heap.size]? = some (.cells cs 33 (0, 0))
  net : X.heap[g]? = some (.cells #[.bool false, .int .i64 0, .slice none 0 0] 57 (0, 0))
  bel : Below w.heap.size w X
  lt : w.heap.size + 1 < g
section
variable {w X Y : World} {cs : Array Value} {g : Nat} {b : Bool}
theorem NN.below (h : NN w cs g b X) (k : Below X.heap.size X Y) : NN w cs g b Y :=
  ⟨Boxed.below h.res k (Boxed.lt h.res), (k.block _ (heap_lt h.itm)).trans h.itm, (k.block _ (heap_lt h.net)).trans h.net, h.bel.trans (k.mono h.bel.size), h.lt⟩
theorem NN.keep (h : NN w cs g b X) {r : Option Nat} (hg : X.grownBy Y r) (hr : ∀ k, r = some k → g < k ∧ ∃ o : Obj, X.heap[k]? = some o ∧ o.isCells = false) : NN w cs g b Y :=
  ⟨box_keep (n := g) h.res hg (fun k e => ⟨Nat.le_of_lt (hr k e).1, (hr k e).2⟩), (hg.block _ (heap_lt h.itm) (fun e => by have := (hr _ e.symm).1; have := h.lt; omega)).trans h.itm, (hg.block _ (heap_lt h.net) (fun e => by have := (hr _ e.symm).1; omega)).trans h.net,
   below_keep (n := g) h.bel hg (fun k e => ⟨Nat.le_of_lt (hr k e).1, (hr k e).2⟩) (by have := h.lt; omega) (Nat.le_refl _), h.lt⟩
theorem NN.z (h : NN w cs g b X) : X.cell? ⟨g, 0, none⟩ = some (.bool false) := cells_at (i := 0) h.net rfl
end
end Go.Proofs.Ytpoigngpdcmipaa

/-
  Layer 34: a list of calls that came in, opened. Conditions are each theorem's own.
-/
namespace Go.Proofs.Ytpoigngpdcmipaa
open Go.RowKit Go.ChangeShapes Go.WideShapes

/-- A call. -/
structure Dn where
  take : Bool
  at_ : Int
  y : IT
def clDn (d : Dn) : List Value := [.bool d.take, .int .i64 d.at_, .int .i64 d.y.x.n, .bool d.y.x.up, .slice d.y.A d.y.x.b.length d.y.c]
theorem clDn_len (d : Dn) : (clDn d).length = 5 := rfl
def dnFit (w : World) (d : Dn) : Prop := (Lit.int .i64 d.at_).wf = true ∧ (Lit.int .i64 d.y.x.n).wf = true ∧ Arg w w.heap.size d.y.A d.y.c d.y.x.b ∧ d.y.c ≤ maxLen
theorem cells_at34 {w : World} {base n : Nat} {b off : Nat} {cs : List Value} (h : w.cells? base ⟨b, off, none⟩ n = some cs) : w.rangeAt b off cs := fun j u hj => by
  obtain ⟨_, hl, hc⟩ := World.cells?_some h
  have hlt : j < n := by rw [← hl]; exact (List.getElem?_eq_some_iff.1 hj).1
  have h1 := hc j hlt
  rw [add_off, hj] at h1
  exact h1
section
variable {H : Type} {enc : TypeId × Value → H} {w : World} {base : Nat} {v : Value} {d : DataW H} {p : List MemPlace}
set_option maxRecDepth 100000 in
theorem cell_itm {x : DataW H × List MemPlace} {fuel : Nat} {l : List Value} (hf : DataW.trod enc Try.prog w 0 (fun _ => true) true fuel 33 l = some x) :
    ∃ y : IT, l = clI y ∧ ((Lit.int .i64 y.x.n).wf = true ∧ Arg w w.heap.size y.A y.c y.x.b ∧ y.c ≤ maxLen) := by
  obtain ⟨xs, n, _, _, hl, hxs, hall⟩ := DataW.trod_struct Try.underlying33 hf
  have hci : Try.prog.cellsOf 3 = 1 := by kernel_rfl
  have hcb : Try.prog.cellsOf 4 = 1 := by kernel_rfl
  have hcy : Try.prog.cellsOf 31 = 1 := by kernel_rfl
  have hcu : Try.prog.cellsOf 5 = 1 := by kernel_rfl
  have hcn : Try.prog.cellsOf 33 = 3 := by kernel_rfl
  have hl' : l.length = 3 := by rw [← hcn]; exact hl
  have hall' : ∀ (i : Nat) (f : Field), _ → DataW.trod enc Try.prog w 0 (fun _ => true) true n f.type ((l.drop f.offset).take (Try.prog.cellsOf f.type)) = xs[i]? := hall
  match xs, hxs with
  | [y0, y1, y2], _ =>
    have h0 : DataW.trod enc Try.prog w 0 (fun _ => true) true n 3 ((l.drop 0).take (Try.prog.cellsOf 3)) = some y0 := hall' 0 _ rfl
    rw [hci] at h0
    obtain ⟨a0, e0, f0⟩ := cell_int Try.underlying3 h0
    have h1 : DataW.trod enc Try.prog w 0 (fun _ => true) true n 4 ((l.drop 1).take (Try.prog.cellsOf 4)) = some y1 := hall' 1 _ rfl
    rw [hcb] at h1
    obtain ⟨a1, e1⟩ := cell_bool Try.underlying4 h1
    have h2 : DataW.trod enc Try.prog w 0 (fun _ => true) true n 31 ((l.drop 2).take (Try.prog.cellsOf 31)) = some y2 := hall' 2 _ rfl
    rw [hcy] at h2
    obtain ⟨A2, c2, a2, e2, f2, g2⟩ := cell_bytes Try.underlying31 Try.underlying5 hcu h2
    have k0 := piece_get e0
    have k1 := piece_get e1
    have k2 := piece_get e2
    have el : l = [.int .i64 a0, .bool a1, .slice A2 a2.length c2] := by
      match l, hl' with
      | [x0, x1, x2], _ => simp at k0 k1 k2; simp [k0, k1, k2]
    exact ⟨⟨⟨a0, a1, a2⟩, A2, c2⟩, el, ⟨f0, f2, g2⟩⟩
set_option maxRecDepth 100000 in
theorem cell_dn {x : DataW H × List MemPlace} {fuel : Nat} {l : List Value} (hf : DataW.trod enc Try.prog w 0 (fun _ => true) true fuel 35 l = some x) :
    ∃ y : Dn, l = clDn y ∧ (dnFit w y) := by
  obtain ⟨xs, n, _, _, hl, hxs, hall⟩ := DataW.trod_struct Try.underlying35 hf
  have hci : Try.prog.cellsOf 3 = 1 := by kernel_rfl
  have hcb : Try.prog.cellsOf 4 = 1 := by kernel_rfl
  have hcy : Try.prog.cellsOf 31 = 1 := by kernel_rfl
  have hcu : Try.prog.cellsOf 5 = 1 := by kernel_rfl
  have hcn : Try.prog.cellsOf 35 = 5 := by kernel_rfl
  have hl' : l.length = 5 := by rw [← hcn]; exact hl
  have hall' : ∀ (i : Nat) (f : Field), _ → DataW.trod enc Try.prog w 0 (fun _ => true) true n f.type ((l.drop f.offset).take (Try.prog.cellsOf f.type)) = xs[i]? := hall
  match xs, hxs with
  | [y0, y1, y2], _ =>
    have h0 : DataW.trod enc Try.prog w 0 (fun _ => true) true n 4 ((l.drop 0).take (Try.prog.cellsOf 4)) = some y0 := hall' 0 _ rfl
    rw [hcb] at h0
    obtain ⟨a0, e0⟩ := cell_bool Try.underlying4 h0
    have h1 : DataW.trod enc Try.prog w 0 (fun _ => true) true n 3 ((l.drop 1).take (Try.prog.cellsOf 3)) = some y1 := hall' 1 _ rfl
    rw [hci] at h1
    obtain ⟨a1, e1, f1⟩ := cell_int Try.underlying3 h1
    have hcI : Try.prog.cellsOf 33 = 3 := by kernel_rfl
    have h2 : DataW.trod enc Try.prog w 0 (fun _ => true) true n 33 ((l.drop 2).take (Try.prog.cellsOf 33)) = some y2 := hall' 2 _ rfl
    rw [hcI] at h2
    obtain ⟨y, e2, hy⟩ := cell_itm h2
    have k0 := piece_get e0
    have k1 := piece_get e1
    have el : l = [.bool a0, .int .i64 a1, .int .i64 y.x.n, .bool y.x.up, .slice y.A y.x.b.length y.c] := by
      match l, hl' with
      | [x0, x1, x2, x3, x4], _ => simp [clI] at k0 k1 e2; simp [k0, k1, e2]
    exact ⟨⟨a0, a1, y⟩, el, f1, hy⟩
theorem get_dns (hv : Value.okWide Try.prog w .any base 22 v) (h : DataW.Trod enc Try.prog w 0 (fun _ => true) true 22 v d p) :
    ∃ A c l, v = .slice A l.length c ∧ RdS clDn 5 w w.heap.size A l ∧ (∀ y ∈ l, (dnFit w y)) ∧ l.length ≤ c ∧ c ≤ maxLen := by
  obtain ⟨A, len, cap, rfl⟩ := okWide_slice Try.underlying22 hv
  obtain ⟨fuel, hf⟩ := h
  rcases Deep.open_slice Try.underlying22 hf with ⟨hcs, _⟩ | ⟨a, len', cap', m, n, D, Pl, hcs, _, hl, hm, hmm, _, hall⟩
  · simp [Value.cells] at hcs
    obtain ⟨rfl, rfl, rfl⟩ := hcs
    exact ⟨none, 0, [], rfl, fun hn => absurd hn (by simp), fun x hx => (by cases hx), Nat.le_refl _, Nat.zero_le _⟩
  · simp [Value.cells] at hcs
    obtain ⟨rfl, rfl, rfl⟩ := hcs
    have hcn : Try.prog.cellsOf 35 = 5 := by kernel_rfl
    rw [hcn] at hall
    have hmm' : m = cap := by simpa using hmm
    subst hmm'
    have key : ∀ i, ∃ y : Dn, i < len → w.cells? 0 (a.add (i * 5)) 5 = some (clDn y) ∧ (dnFit w y) := fun i => by
      by_cases hi : i < len
      · obtain ⟨cs', h1, h2⟩ := hall i (by omega)
        obtain ⟨y, rfl, h3⟩ := cell_dn h2
        exact ⟨y, fun _ => ⟨h1, h3⟩⟩
      · exact ⟨⟨false, 0, ⟨⟨0, false, []⟩, none, 0⟩⟩, fun h => absurd h hi⟩
    obtain ⟨X, hX⟩ := Classical.skolem.1 key
    have el : ((List.range len).map X).length = len := by simp
    refine ⟨some a, m, (List.range len).map X, by rw [el], fun hn => ?_, fun x hx => ?_, by rw [el]; exact hl, hm⟩
    · rw [el] at hn
      obtain ⟨b, off, spot⟩ := a
      have h0 := (hX 0 hn).1
      have hc0 : World.cell? w ((Addr.mk b off spot).add (0 * 5) |>.add 0) = (clDn (X 0))[0]? := (World.cells?_some h0).2.2 0 (by decide)
      have hspot : spot = none := by simpa [Addr.add] using World.cell?_spot (hc0.trans rfl)
      subst hspot
      have hb : b < w.heap.size := by simpa [Addr.add] using World.cells?_block h0 (by decide)
      refine ⟨b, off, rfl, hb, fun j x hx => ?_⟩
      have hj : j < len := by
        have := (List.getElem?_eq_some_iff.1 hx).1
        rwa [el] at this
      have e : x = X j := by
        rw [List.getElem?_map, List.getElem?_range hj] at hx
        simpa using hx.symm
      have h1 := (hX j hj).1
      rw [add_off] at h1
      rw [e]
      exact cells_at34 h1
    · obtain ⟨i, hi, rfl⟩ := List.mem_map.1 hx
      exact (hX i (List.mem_range.1 hi)).2
end
theorem run_load_dn {o : Oper} {a : Act} {w : World} {x : Operand} {g i : Nat} {cs : List Value} (ho : o.op = .load 35 x) (hx : a.eval x = .pointer (some ⟨g, i, none⟩)) (hr : w.rangeAt g i cs) (hl : cs.length = 5) :
    (execOp a.eval o).run Try.prog w = .ok (.value (.agg cs.toArray)) w := by
  have h := run_loadVar_mid (P := Try.prog) w g i 35 cs _ hr Try.underlying35 rfl (by rw [hl]; kernel_rfl)
  unfold execOp
  simp only [ho, hx, Instr.loadAt, Instr.sureAddr, Sem.run_bind, Sem.run_pure, Result.andThen_ok, h]
theorem dn_store_new {ops : Array Oper} {rest : List Oper} {x y : Operand} {ty : TypeId} {pos : String} {af : Array Edge} {a : Act} {w : World} {Q : Exit → Act → World → Prop}
    {t : TypeId} {cs old : Array Value} (hx : a.eval x = .pointer (some ⟨w.heap.size, 0, none⟩)) (hy : a.eval y = .agg cs) (ho : old.size = 5) (hl : cs.size = 5) (h1 : cs.all (·.oneCell') = true)
    (h : wpList Try.prog ops Q rest (a.put none undef) (w.alloc (.cells cs t))) : wpList Try.prog ops Q (⟨none, .store 35 x y, ty, pos, af, none⟩ :: rest) a (w.alloc (.cells old t)) :=
  wpList_plain rfl fun _ hK => wp_store_row 35 x y rfl w.heap.size cs hx hy t old (World.alloc_heap_new w _) (by rw [hl]; kernel_rfl) (by rw [ho, hl]) h1 (by rw [World.setRow_alloc_new]; exact hK _ _ h)
theorem clDn_all (d : Dn) : (clDn d).toArray.all (·.oneCell') = true := by simp [clDn, Value.oneCell']
theorem row_ofDn {w : World} {B : Nat} {A : Option Addr} {l : List Dn} {k : Nat} {x : Dn} (h : RdS clDn 5 w B A l) (hx : l[k]? = some x) : ∃ b o, A = some ⟨b, o, none⟩ ∧ b < B ∧ w.rangeAt b (o + k * 5) (clDn x) := by
  have hk := (List.getElem?_eq_some_iff.1 hx).1
  obtain ⟨b, o, e, hb, hc⟩ := h (by omega)
  exact ⟨b, o, e, hb, hc k x hx⟩
end Go.Proofs.Ytpoigngpdcmipaa

/-
  Layer 34: whether two items are the same, the code's and the document's. Conditions are each theorem's own.
-/
namespace Go.Proofs.Ytpoigngpdcmipaa
open Go.RowKit Go.Shelf
theorem ntsame {w : World} (y z : IT) (e : y.x = z.x) (hy : Arg w w.heap.size y.A y.c y.x.b) (hz : Arg w w.heap.size z.A z.c z.x.b) :
    Calls Try.prog 11 #[.agg (clI y).toArray, .agg (clI z).toArray] w fun e w' => e = .returned (.bool true) ∧ Below w.heap.size w w' := by
  obtain ⟨⟨n, up, b⟩, A, c⟩ := y
  obtain ⟨x, A', c'⟩ := z
  subst e
  obtain ⟨V, hV⟩ : ∃ V, V = (w.alloc (.cells #[.int .i64 n, .bool up, .slice A b.length c] 33)).alloc (.cells #[.int .i64 n, .bool up, .slice A' b.length c'] 38) := ⟨_, rfl⟩
  have b1 := (Below.refl w.heap.size w).alloc (Nat.le_refl _) (.cells #[.int .i64 n, .bool up, .slice A b.length c] 33)
  have bV : Below w.heap.size w V := by rw [hV]; exact b1.alloc (by simp) _
  have HV := Lib.hid hV
  have HY : Hid (Arg V w.heap.size A c b) := Lib.hid (hy.below bV)
  have HZ : Hid (Arg V w.heap.size A' c' b) := Lib.hid (hz.below bV)
  have hb1 : V.heap[w.heap.size]? = some (.cells #[.int .i64 n, .bool up, .slice A b.length c] 33 (0, 0)) := by
    rw [hV]
    have a1 := (Below.refl (w.heap.size + 1) (w.alloc (.cells #[.int .i64 n, .bool up, .slice A b.length c] 33))).alloc (by simp) (.cells #[.int .i64 n, .bool up, .slice A' b.length c'] 38)
    exact (a1.block _ (by omega)).trans (World.alloc_heap_new w _)
  have hb2 : V.heap[w.heap.size + 1]? = some (.cells #[.int .i64 n, .bool up, .slice A' b.length c'] 38 (0, 0)) := by
    rw [hV]
    have a1 := World.alloc_heap_new (w.alloc (.cells #[.int .i64 n, .bool up, .slice A b.length c] 33)) (.cells #[.int .i64 n, .bool up, .slice A' b.length c'] 38)
    simpa using a1
  have k0 : V.cell? ⟨w.heap.size, 0, none⟩ = some (.int .i64 n) := cells_at (i := 0) hb1 rfl
  have k1 : V.cell? ⟨w.heap.size, 1, none⟩ = some (.bool up) := cells_at (i := 1) hb1 rfl
  have k2 : V.cell? ⟨w.heap.size, 2, none⟩ = some (.slice A b.length c) := cells_at (i := 2) hb1 rfl
  have j0 : V.cell? ⟨w.heap.size + 1, 0, none⟩ = some (.int .i64 n) := cells_at (i := 0) hb2 rfl
  have j1 : V.cell? ⟨w.heap.size + 1, 1, none⟩ = some (.bool up) := cells_at (i := 1) hb2 rfl
  have j2 : V.cell? ⟨w.heap.size + 1, 2, none⟩ = some (.slice A' b.length c') := cells_at (i := 2) hb2 rfl
  have HE := Lib.hid (equal_same A A' b c c' _ _ _ HY.out.rd HZ.out.rd)
  clear hV hy hz b1 HY HZ
  go_enter Try.func11, Try.ntmps11
  simp only [clI]
  go_upto_region 1 with fail
  rw [← HV.out]
  clear HV hb1 hb2
  go_wp2_with (go_at_call 20; (with_reducible refine HE.out.mono ?_); rintro e w2 ⟨rfl, rfl⟩)
  go_ret
  exact ⟨rfl, bV⟩
end Go.Proofs.Ytpoigngpdcmipaa
