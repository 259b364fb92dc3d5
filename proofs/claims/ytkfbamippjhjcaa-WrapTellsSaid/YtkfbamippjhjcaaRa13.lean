/-
  Contracts and lemmas on which the proofs of this seat stand (several texts in one). Conditions are each theorem's own.
-/
import Derived.Test.YtkfbamippjhjcaaRa12

/-
  Layer 30: what a message tells, as data; Table, and what is within, of the program and of the document. Conditions are each theorem's own.
-/
namespace Go.Proofs.Ytkfbamippjhjcaa
open Go.RowKit
def tll (t : Tl) (A : Option Addr) (c : Nat) : List Value := row t.peer ++ [.int .i64 t.kind, .int .i64 t.code, .int .i64 t.rest, .slice A t.inner.length c]
def tla (t : Tl) (A : Option Addr) (c : Nat) : Array Value := (tll t A c).toArray
def tlv (t : Tl) (A : Option Addr) (c : Nat) : Value := .agg (tla t A c)
theorem tll_len {t : Tl} {A : Option Addr} {c : Nat} (h : t.peer.length = 16) : (tll t A c).length = 20 := by simp [tll, row_length, h]
theorem tla_size {t : Tl} {A : Option Addr} {c : Nat} (h : t.peer.length = 16) : (tla t A c).size = 20 := by rw [tla, List.size_toArray]; exact tll_len h
theorem tla_one (t : Tl) (A : Option Addr) (c : Nat) : (tla t A c).all (·.oneCell') = true := by
  refine Array.all_eq_true_iff_forall_mem.2 fun v hv => ?_
  have hv' : v ∈ tll t A c := by simpa [tla] using hv
  simp only [tll, List.mem_append, List.mem_cons, List.not_mem_nil, or_false] at hv'
  rcases hv' with h | h | h | h | h
  · exact row_one _ v h
  · subst h; rfl
  · subst h; rfl
  · subst h; rfl
  · subst h; rfl
def AtT (W : World) (g : Nat) (t : Tl) (A : Option Addr) (c : Nat) : Prop := W.rangeAt g 0 (tll t A c)
section
variable {W : World} {g : Nat} {t : Tl} {A : Option Addr} {c : Nat}
theorem AtT.below {w : World} {B : Nat} (h : AtT W g t A c) (hb : Below B W w) (hg : g < B) : AtT w g t A c := range_below h hg hb
theorem AtT.peer (h : AtT W g t A c) : W.rangeAt g 0 (row t.peer) := fun j v hj => by
  have hl : j < (row t.peer).length := (List.getElem?_eq_some_iff.1 hj).1
  have := h j v (by rw [tll, List.getElem?_append_left hl]; exact hj)
  rwa [Nat.zero_add] at this ⊢
theorem AtT.at_ (h : AtT W g t A c) (hp : t.peer.length = 16) (i : Nat) (v : Value) (hv : [Value.int .i64 t.kind, .int .i64 t.code, .int .i64 t.rest, .slice A t.inner.length c][i]? = some v) : W.cell? ⟨g, 16 + i, none⟩ = some v := by
  have e : (row t.peer).length = 16 := by rw [row_length, hp]
  have := h (16 + i) v (by rw [tll, List.getElem?_append_right (by rw [e]; omega), e, Nat.add_sub_cancel_left]; exact hv)
  rwa [Nat.zero_add] at this
theorem AtT.kind (h : AtT W g t A c) (hp : t.peer.length = 16) : W.cell? ⟨g, 16, none⟩ = some (.int .i64 t.kind) := h.at_ hp 0 _ rfl
theorem AtT.code (h : AtT W g t A c) (hp : t.peer.length = 16) : W.cell? ⟨g, 17, none⟩ = some (.int .i64 t.code) := h.at_ hp 1 _ rfl
theorem AtT.rest (h : AtT W g t A c) (hp : t.peer.length = 16) : W.cell? ⟨g, 18, none⟩ = some (.int .i64 t.rest) := h.at_ hp 2 _ rfl
theorem AtT.inner (h : AtT W g t A c) (hp : t.peer.length = 16) : W.cell? ⟨g, 19, none⟩ = some (.slice A t.inner.length c) := h.at_ hp 3 _ rfl
end
theorem frR_one (f : F6) : (fra f).all (·.oneCell') = true := by simp [fra, Value.oneCell']
theorem frR_store_new {ops : Array Oper} {rest : List Oper} {x y : Operand} {ty : TypeId} {pos : String} {af : Array Edge} {a : Act} {w : World} {Q : Exit → Act → World → Prop}
    {t : TypeId} {cs old : Array Value} (hx : a.eval x = .pointer (some ⟨w.heap.size, 0, none⟩)) (hy : a.eval y = .agg cs) (ho : old.size = 4) (hl : cs.size = 4) (h1 : cs.all (·.oneCell') = true)
    (h : wpList Try.prog ops Q rest (a.put none undef) (w.alloc (.cells cs t))) : wpList Try.prog ops Q (⟨none, .store 87 x y, ty, pos, af, none⟩ :: rest) a (w.alloc (.cells old t)) :=
  wpList_plain rfl fun _ hK => wp_store_row 87 x y rfl w.heap.size cs hx hy t old (World.alloc_heap_new w _) (by rw [hl]; kernel_rfl) (by rw [ho, hl]) h1 (hK _ _ (by rw [World.setRow_alloc_new]; exact h))
theorem run_load_tc {o : Oper} {a : Act} {w : World} {x : Operand} {g : Nat} {cs : List Value} (ho : o.op = .load 46 x) (hx : a.eval x = .pointer (some ⟨g, 0, none⟩)) (hr : w.rangeAt g 0 cs) (hl : cs.length = 20) :
    (execOp a.eval o).run Try.prog w = .ok (.value (.agg cs.toArray)) w := by
  have h := run_loadVar_mid (P := Try.prog) w g 0 46 cs _ hr Try.underlying46 rfl (by rw [hl]; kernel_rfl)
  unfold execOp
  simp only [ho, hx, Instr.loadAt, Instr.sureAddr, Sem.run_bind, Sem.run_pure, Result.andThen_ok, h]
theorem tc_store {ops : Array Oper} {rest : List Oper} {x y : Operand} {ty : TypeId} {pos : String} {af : Array Edge} {a : Act} {w : World} {Q : Exit → Act → World → Prop}
    {g : Nat} {t : TypeId} {cs old : Array Value} (hx : a.eval x = .pointer (some ⟨g, 0, none⟩)) (hy : a.eval y = .agg cs) (hg : w.heap[g]? = some (.cells old t (0, 0))) (ho : old.size = 20) (hl : cs.size = 20) (h1 : cs.all (·.oneCell') = true)
    (h : wpList Try.prog ops Q rest (a.put none undef) (w.setRow g cs)) : wpList Try.prog ops Q (⟨none, .store 46 x y, ty, pos, af, none⟩ :: rest) a w :=
  wpList_plain rfl fun _ hK => wp_store_row 46 x y rfl g cs hx hy t old hg (by rw [hl]; kernel_rfl) (by rw [ho, hl]) h1 (hK _ _ h)
theorem tc_store_new {ops : Array Oper} {rest : List Oper} {x y : Operand} {ty : TypeId} {pos : String} {af : Array Edge} {a : Act} {w : World} {Q : Exit → Act → World → Prop}
    {t : TypeId} {cs old : Array Value} (hx : a.eval x = .pointer (some ⟨w.heap.size, 0, none⟩)) (hy : a.eval y = .agg cs) (ho : old.size = 20) (hl : cs.size = 20) (h1 : cs.all (·.oneCell') = true)
    (h : wpList Try.prog ops Q rest (a.put none undef) (w.alloc (.cells cs t))) : wpList Try.prog ops Q (⟨none, .store 46 x y, ty, pos, af, none⟩ :: rest) a (w.alloc (.cells old t)) :=
  tc_store hx hy (World.alloc_heap_new w _) ho hl h1 (by rw [World.setRow_alloc_new]; exact h)
set_option maxRecDepth 100000 in
theorem run_build_tc {o : Oper} {a : Act} {w : World} {p x y z u : Operand} {t : Tl} {A : Option Addr} {c : Nat} (ho : o.op = .build 46 #[(0, p), (1, x), (2, y), (3, z), (4, u)]) (hp : a.eval p = .agg (cel t.peer)) (hx : a.eval x = .int .i64 t.kind)
    (hy : a.eval y = .int .i64 t.code) (hz : a.eval z = .int .i64 t.rest) (hu : a.eval u = .slice A t.inner.length c) (hs : t.peer.length = 16) :
    (execOp a.eval o).run Try.prog w = .ok (.value (tlv t A c)) w := by
  obtain ⟨s, k, d, r, b⟩ := t
  simp only at hp hx hy hz hu hs
  match s, hs with
  | [s0, s1, s2, s3, s4, s5, s6, s7, s8, s9, s10, s11, s12, s13, s14, s15], _ =>
    have e : (Array.map (fun y : Nat × Operand => (y.1, a.eval y.2)) #[(0, p), (1, x), (2, y), (3, z), (4, u)]) = #[(0, .agg (cel [s0, s1, s2, s3, s4, s5, s6, s7, s8, s9, s10, s11, s12, s13, s14, s15])), (1, .int .i64 k), (2, .int .i64 d), (3, .int .i64 r), (4, .slice A b.length c)] := by simp [hp, hx, hy, hz, hu]
    have hb : (Instr.build 46 #[(0, .agg (cel [s0, s1, s2, s3, s4, s5, s6, s7, s8, s9, s10, s11, s12, s13, s14, s15])), (1, .int .i64 k), (2, .int .i64 d), (3, .int .i64 r), (4, .slice A b.length c)]).run Try.prog w = .ok (tlv ⟨[s0, s1, s2, s3, s4, s5, s6, s7, s8, s9, s10, s11, s12, s13, s14, s15], k, d, r, b⟩ A c) w := by kernel_rfl
    unfold execOp
    simp only [ho, e, Sem.run_bind, hb]
    rfl
theorem run_load_tr {o : Oper} {a : Act} {w : World} {x : Operand} {g : Nat} {cs : List Value} (ho : o.op = .load 49 x) (hx : a.eval x = .pointer (some ⟨g, 0, none⟩)) (hr : w.rangeAt g 0 cs) (hl : cs.length = 20) :
    (execOp a.eval o).run Try.prog w = .ok (.value (.agg cs.toArray)) w := by
  have h := run_loadVar_mid (P := Try.prog) w g 0 49 cs _ hr Try.underlying49 rfl (by rw [hl]; kernel_rfl)
  unfold execOp
  simp only [ho, hx, Instr.loadAt, Instr.sureAddr, Sem.run_bind, Sem.run_pure, Result.andThen_ok, h]
theorem tr_store {ops : Array Oper} {rest : List Oper} {x y : Operand} {ty : TypeId} {pos : String} {af : Array Edge} {a : Act} {w : World} {Q : Exit → Act → World → Prop}
    {g : Nat} {t : TypeId} {cs old : Array Value} (hx : a.eval x = .pointer (some ⟨g, 0, none⟩)) (hy : a.eval y = .agg cs) (hg : w.heap[g]? = some (.cells old t (0, 0))) (ho : old.size = 20) (hl : cs.size = 20) (h1 : cs.all (·.oneCell') = true)
    (h : wpList Try.prog ops Q rest (a.put none undef) (w.setRow g cs)) : wpList Try.prog ops Q (⟨none, .store 49 x y, ty, pos, af, none⟩ :: rest) a w :=
  wpList_plain rfl fun _ hK => wp_store_row 49 x y rfl g cs hx hy t old hg (by rw [hl]; kernel_rfl) (by rw [ho, hl]) h1 (hK _ _ h)
theorem tr_store_new {ops : Array Oper} {rest : List Oper} {x y : Operand} {ty : TypeId} {pos : String} {af : Array Edge} {a : Act} {w : World} {Q : Exit → Act → World → Prop}
    {t : TypeId} {cs old : Array Value} (hx : a.eval x = .pointer (some ⟨w.heap.size, 0, none⟩)) (hy : a.eval y = .agg cs) (ho : old.size = 20) (hl : cs.size = 20) (h1 : cs.all (·.oneCell') = true)
    (h : wpList Try.prog ops Q rest (a.put none undef) (w.alloc (.cells cs t))) : wpList Try.prog ops Q (⟨none, .store 49 x y, ty, pos, af, none⟩ :: rest) a (w.alloc (.cells old t)) :=
  tr_store hx hy (World.alloc_heap_new w _) ho hl h1 (by rw [World.setRow_alloc_new]; exact h)
set_option maxRecDepth 100000 in
theorem run_build_tr {o : Oper} {a : Act} {w : World} {p x y z u : Operand} {t : Tl} {A : Option Addr} {c : Nat} (ho : o.op = .build 49 #[(0, p), (1, x), (2, y), (3, z), (4, u)]) (hp : a.eval p = .agg (cel t.peer)) (hx : a.eval x = .int .i64 t.kind)
    (hy : a.eval y = .int .i64 t.code) (hz : a.eval z = .int .i64 t.rest) (hu : a.eval u = .slice A t.inner.length c) (hs : t.peer.length = 16) :
    (execOp a.eval o).run Try.prog w = .ok (.value (tlv t A c)) w := by
  obtain ⟨s, k, d, r, b⟩ := t
  simp only at hp hx hy hz hu hs
  match s, hs with
  | [s0, s1, s2, s3, s4, s5, s6, s7, s8, s9, s10, s11, s12, s13, s14, s15], _ =>
    have e : (Array.map (fun y : Nat × Operand => (y.1, a.eval y.2)) #[(0, p), (1, x), (2, y), (3, z), (4, u)]) = #[(0, .agg (cel [s0, s1, s2, s3, s4, s5, s6, s7, s8, s9, s10, s11, s12, s13, s14, s15])), (1, .int .i64 k), (2, .int .i64 d), (3, .int .i64 r), (4, .slice A b.length c)] := by simp [hp, hx, hy, hz, hu]
    have hb : (Instr.build 49 #[(0, .agg (cel [s0, s1, s2, s3, s4, s5, s6, s7, s8, s9, s10, s11, s12, s13, s14, s15])), (1, .int .i64 k), (2, .int .i64 d), (3, .int .i64 r), (4, .slice A b.length c)]).run Try.prog w = .ok (tlv ⟨[s0, s1, s2, s3, s4, s5, s6, s7, s8, s9, s10, s11, s12, s13, s14, s15], k, d, r, b⟩ A c) w := by kernel_rfl
    unfold execOp
    simp only [ho, e, Sem.run_bind, hb]
    rfl
set_option maxRecDepth 100000 in
set_option maxHeartbeats 4000000 in
theorem cRinside (r : Int) (w : World) : Calls Try.prog 43 #[.int .i64 r] w fun e w' => e = .returned (.int .i64 (roomR r)) ∧ w = w' := by
  have H := Lib.hid (show min (max r 108) 65575 - 40 = roomR r by unfold roomR; omega)
  go_enter Try.func43, Try.ntmps43
  go_wp2_with fail
  go_ret
  exact ⟨by rw [← H.out]; rfl, rfl⟩
theorem results_tmp4R {fn : Func} {p q r s : Tmp} (h : fn.results = #[.tmp p, .tmp q, .tmp r, .tmp s]) (P : Program) (tmps : Array Value) (w : World) : (results fn tmps).run P w = .ok (.tuple #[tmps.getD p undef, tmps.getD q undef, tmps.getD r undef, tmps.getD s undef]) w := by
  simp [results, h]
set_option maxRecDepth 100000 in
set_option maxHeartbeats 4000000 in
theorem cRtable (k c r : Int) (w : World) (hr : (Lit.int .i64 r).wf = true) : Calls Try.prog 26 #[.int .i64 k, .int .i64 c, .int .i64 r] w fun e w' => e = .returned (.tuple #[.int .i64 (tbK k), .int .i64 (tbC k), .int .i64 (tbR k r), .bool (knB k)]) ∧ w = w' := by
  have hb := i64_bdR hr
  by_cases h2 : k = 2
  · subst h2
    go_enter Try.func26, Try.ntmps26
    go_wp2_with (go_at_call 43; refine (cRinside r _).mono ?_; rintro e w1 ⟨rfl, rfl⟩)
    exact bodyPost_ret (results_tmp4R rfl _ _ _) rfl ⟨rfl, rfl⟩
  by_cases h1 : k = 1
  · subst h1
    clear h2
    go_enter Try.func26, Try.ntmps26
    go_wp2_with fail
    exact bodyPost_ret (results_tmp4R rfl _ _ _) rfl ⟨rfl, rfl⟩
  by_cases h3 : k = 3
  · subst h3
    clear h2
    go_enter Try.func26, Try.ntmps26
    go_wp2_with fail
    exact bodyPost_ret (results_tmp4R rfl _ _ _) rfl ⟨rfl, rfl⟩
  by_cases h4 : k = 4
  · subst h4
    clear h2
    go_enter Try.func26, Try.ntmps26
    go_wp2_with fail
    exact bodyPost_ret (results_tmp4R rfl _ _ _) rfl ⟨rfl, rfl⟩
  have d2 : (k == 2) = false := by simpa using h2
  have d1 : (k == 1) = false := by simpa using h1
  have d3 : (k == 3) = false := by simpa using h3
  have d4 : (k == 4) = false := by simpa using h4
  have HK : Hid (knB k = false) := Lib.hid (by rw [knB, d1, d2, d3, d4]; rfl)
  have e1 : Hid (tbK k = 0) := Lib.hid (by rw [tbK, if_neg (by rw [HK.out]; simp)])
  have e2 : Hid (tbC k = 0) := Lib.hid (by rw [tbC, if_neg h2, if_neg (by rw [HK.out]; simp)])
  have e3 : Hid (tbR k r = 0) := Lib.hid (by rw [tbR, if_neg h2])
  clear h1 h2 h3 h4
  go_enter Try.func26, Try.ntmps26
  go_wp2_with fail
  exact bodyPost_ret (results_tmp4R rfl _ _ _) rfl ⟨by rw [HK.out, e1.out, e2.out, e3.out]; rfl, rfl⟩
set_option maxRecDepth 100000 in
set_option maxHeartbeats 4000000 in
theorem rRtable (k c r : Int) (w : World) (hr : (Lit.int .i64 r).wf = true) : Calls Try.prog 27 #[.int .i64 k, .int .i64 c, .int .i64 r] w fun e w' => e = .returned (.tuple #[.int .i64 (tbK k), .int .i64 (tbC k), .int .i64 (tbR k r), .bool (knB k)]) ∧ w = w' := by
  have hb := i64_bdR hr
  by_cases h2 : k = 2
  · subst h2
    have H := Lib.hid (show min (max (max r 0 - 40) 68) 65535 = roomR r by unfold roomR; omega)
    go_enter Try.func27, Try.ntmps27
    go_wp2_with fail
    exact bodyPost_ret (results_tmp4R rfl _ _ _) rfl ⟨by rw [show tbR 2 r = roomR r from rfl, ← H.out]; rfl, rfl⟩
  by_cases h1 : k = 1
  · subst h1
    clear h2
    go_enter Try.func27, Try.ntmps27
    go_wp2_with fail
    exact bodyPost_ret (results_tmp4R rfl _ _ _) rfl ⟨rfl, rfl⟩
  by_cases h3 : k = 3
  · subst h3
    clear h2
    go_enter Try.func27, Try.ntmps27
    go_wp2_with fail
    exact bodyPost_ret (results_tmp4R rfl _ _ _) rfl ⟨rfl, rfl⟩
  by_cases h4 : k = 4
  · subst h4
    clear h2
    go_enter Try.func27, Try.ntmps27
    go_wp2_with fail
    exact bodyPost_ret (results_tmp4R rfl _ _ _) rfl ⟨rfl, rfl⟩
  have d2 : (k == 2) = false := by simpa using h2
  have d1 : (k == 1) = false := by simpa using h1
  have d3 : (k == 3) = false := by simpa using h3
  have d4 : (k == 4) = false := by simpa using h4
  have HK : Hid (knB k = false) := Lib.hid (by rw [knB, d1, d2, d3, d4]; rfl)
  have e1 : Hid (tbK k = 0) := Lib.hid (by rw [tbK, if_neg (by rw [HK.out]; simp)])
  have e2 : Hid (tbC k = 0) := Lib.hid (by rw [tbC, if_neg h2, if_neg (by rw [HK.out]; simp)])
  have e3 : Hid (tbR k r = 0) := Lib.hid (by rw [tbR, if_neg h2])
  clear h1 h2 h3 h4
  go_enter Try.func27, Try.ntmps27
  go_wp2_with fail
  exact bodyPost_ret (results_tmp4R rfl _ _ _) rfl ⟨by rw [HK.out, e1.out, e2.out, e3.out]; rfl, rfl⟩
set_option maxRecDepth 100000 in
set_option maxHeartbeats 4000000 in
theorem cRwithin (q : P6) (A : Option Addr) (c base : Nat) (w : World) (hs : q.src.length = 16) (hd : q.dst.length = 16) (hO : w.ownsRow base 5 1 (.slice A q.dat.length c) q.dat.length (row q.dat)) (hB : base ≤ w.heap.size) (hl : q.dat.length ≤ 1000000) :
    Calls Try.prog 36 #[v6v q A c] w fun e w' => ∃ P p, e = .returned (.tuple #[.slice P (inV q).length p, .int .i64 (inE q)]) ∧ w'.ownsRow base 5 1 (.slice P (inV q).length p) (inV q).length (row (inV q)) ∧ Below w.heap.size w w' := by
  have hBW : Below w.heap.size w (w.alloc (.cells (v6a q A c) 26)) := (Below.refl w.heap.size w).alloc (Nat.le_refl _) _
  have at0 := At6.new (q := q) (A := A) (c := c) w
  have k2 := at0.next
  have k6 := at0.dat hs hd
  have hz : w.heap.size < (w.alloc (.cells (v6a q A c) 26)).heap.size := by simp
  clear at0
  unfold v6v
  rw [show (v6l q A c).toArray = v6a q A c from rfl]
  by_cases h4 : q.next = 4
  · have HV : Hid (inV q = q.dat) := Lib.hid (by rw [inV, if_pos h4])
    have HE : Hid (inE q = 0) := Lib.hid (by rw [inE, if_pos h4])
    have d4 : (q.next == 4) = true := by simp [h4]
    clear h4
    go_enter Try.func36, Try.ntmps36
    go_upto_region 1 with fail
    generalize w.alloc (.cells (v6a q A c) 26) = W at *
    go_wp2_with fail
    exact bodyPost_ret (results_tmp2 rfl _ _ _) rfl ⟨A, c, by rw [HV.out, HE.out]; rfl, by rw [HV.out]; exact own_below hO hBW, hBW⟩
  · have d4 : (q.next == 4) = false := by simpa using h4
    by_cases h44 : q.next = 44
    · have d44 : (q.next == 44) = true := by simp [h44]
      have n44 : (q.next != 44) = false := by simp [h44]
      have HV : Hid (inV q = if prsG q.dat = 0 ∧ frB q = true then rstF q.dat else []) := Lib.hid (by rw [inV, if_neg h4]; by_cases hx : prsG q.dat = 0 ∧ frB q = true; rw [if_pos ⟨h44, hx⟩, if_pos hx]; rw [if_neg (fun h => hx h.2), if_neg hx])
      have HE : Hid (inE q = if prsG q.dat = 0 then (if frB q = true then 0 else 4) else prsG q.dat) := Lib.hid (by rw [inE, if_neg h4, if_pos h44])
      have hA := arg_own hO
      clear h4 h44
      obtain ⟨G, hG⟩ : ∃ x, x = prsG q.dat := ⟨_, rfl⟩
      obtain ⟨f, hf⟩ : ∃ x, x = prsF q.dat := ⟨_, rfl⟩
      have HB : Hid (frB q = ((f.off == 0) && (f.next == 4))) := Lib.hid (by rw [hf]; rfl)
      rw [← hG] at HV HE
      have HG := Lib.hid hG
      have HF := Lib.hid hf
      clear hG hf
      go_enter Try.func36, Try.ntmps36
      go_upto_region 1 with fail
      generalize w.alloc (.cells (v6a q A c) 26) = W at *
      go_upto_region 6 with (first
        | (go_at_call 55; refine (c6pfrag A q.dat c w.heap.size _ (hA.below hBW) hBW.size hl).mono ?_; rintro e w3 ⟨v3, rfl, m3⟩; rw [← HF.out, ← HG.out]; obtain ⟨P, p, rfl, _, o3, x3⟩ := made_shape m3)
        | ((with_reducible show wpList _ _ _ (Oper.mk _ (Op.store 87 _ _) _ _ _ _ :: _) _ _); refine frR_store_new (cs := fra f) rfl rfl rfl rfl (frR_one _) ?_))
      have y3 : Below w3.heap.size w3 (w3.alloc (.cells (fra f) 87)) := (Below.refl _ w3).alloc (Nat.le_refl _) _
      have af := AtF.new (f := f) w3
      have o4 := own_below o3 y3
      have b4 : Below w.heap.size w (w3.alloc (.cells (fra f) 87)) := hBW.trans ((x3.trans (y3.mono x3.size)).mono hBW.size)
      have hzz := hBW.size
      clear m3 o3 x3 y3
      generalize w3.alloc (.cells (fra f) 87) = X at *
      have ko := af.off
      have kn := af.next
      clear af
      by_cases hg : G = 0
      · have dG : (G != 0) = false := by simp [hg]
        cases h1 : (f.off == 0)
        · have n1 : (f.off != 0) = true := by simp [bne, h1]
          have HV2 : Hid (inV q = []) := Lib.hid (by rw [HV.out, if_neg (by rw [HB.out, h1]; simp)])
          have HE2 : Hid (inE q = 4) := Lib.hid (by rw [HE.out, if_pos hg, if_neg (by rw [HB.out, h1]; simp)])
          clear hg h1
          go_wp2_with fail
          exact bodyPost_ret (results_tmp2 rfl _ _ _) rfl ⟨none, 0, by rw [HV2.out, HE2.out]; rfl, by rw [HV2.out]; exact World.ownsRow_nil _ _ _ _, b4⟩
        · have n1 : (f.off != 0) = false := by simp [bne, h1]
          cases h2 : (f.next == 4)
          · have n2 : (f.next != 4) = true := by simp [bne, h2]
            have HV2 : Hid (inV q = []) := Lib.hid (by rw [HV.out, if_neg (by rw [HB.out, h1, h2]; simp)])
            have HE2 : Hid (inE q = 4) := Lib.hid (by rw [HE.out, if_pos hg, if_neg (by rw [HB.out, h1, h2]; simp)])
            clear hg h1 h2
            go_wp2_with fail
            exact bodyPost_ret (results_tmp2 rfl _ _ _) rfl ⟨none, 0, by rw [HV2.out, HE2.out]; rfl, by rw [HV2.out]; exact World.ownsRow_nil _ _ _ _, b4⟩
          · have n2 : (f.next != 4) = false := by simp [bne, h2]
            have HV2 : Hid (inV q = rstF q.dat) := Lib.hid (by rw [HV.out, if_pos ⟨hg, by rw [HB.out, h1, h2]; rfl⟩])
            have HE2 : Hid (inE q = 0) := Lib.hid (by rw [HE.out, if_pos hg, if_pos (by rw [HB.out, h1, h2]; rfl)])
            clear hg h1 h2
            go_wp2_with fail
            exact bodyPost_ret (results_tmp2 rfl _ _ _) rfl ⟨P, p, by rw [HV2.out, HE2.out]; rfl, by rw [HV2.out]; exact own_base o4 (Nat.le_trans hB hzz), b4⟩
      · have dG : (G != 0) = true := by simpa using hg
        have HV2 : Hid (inV q = []) := Lib.hid (by rw [HV.out, if_neg (fun h => hg h.1)])
        have HE2 : Hid (inE q = G) := Lib.hid (by rw [HE.out, if_neg hg])
        clear hg
        go_wp2_with fail
        exact bodyPost_ret (results_tmp2 rfl _ _ _) rfl ⟨none, 0, by rw [HV2.out, HE2.out]; rfl, by rw [HV2.out]; exact World.ownsRow_nil _ _ _ _, b4⟩
    · have d44 : (q.next == 44) = false := by simpa using h44
      have n44 : (q.next != 44) = true := by simpa using h44
      have HV : Hid (inV q = []) := Lib.hid (by rw [inV, if_neg h4, if_neg (fun h => h44 h.1)])
      have HE : Hid (inE q = 4) := Lib.hid (by rw [inE, if_neg h4, if_neg h44])
      clear h4 h44
      go_enter Try.func36, Try.ntmps36
      go_upto_region 1 with fail
      generalize w.alloc (.cells (v6a q A c) 26) = W at *
      go_wp2_with fail
      exact bodyPost_ret (results_tmp2 rfl _ _ _) rfl ⟨none, 0, by rw [HV.out, HE.out]; rfl, by rw [HV.out]; exact World.ownsRow_nil _ _ _ _, hBW⟩
set_option maxRecDepth 100000 in
set_option maxHeartbeats 4000000 in
theorem rRwithin (q : P6) (A : Option Addr) (c base : Nat) (w : World) (hs : q.src.length = 16) (hd : q.dst.length = 16) (hO : w.ownsRow base 5 1 (.slice A q.dat.length c) q.dat.length (row q.dat)) (hB : base ≤ w.heap.size) (hl : q.dat.length ≤ 1000000) :
    Calls Try.prog 39 #[v6v q A c] w fun e w' => ∃ P p, e = .returned (.tuple #[.slice P (inV q).length p, .int .i64 (inE q)]) ∧ w'.ownsRow base 5 1 (.slice P (inV q).length p) (inV q).length (row (inV q)) ∧ Below w.heap.size w w' := by
  have hBW : Below w.heap.size w (w.alloc (.cells (v6a q A c) 26)) := (Below.refl w.heap.size w).alloc (Nat.le_refl _) _
  have at0 := At6.new (q := q) (A := A) (c := c) w
  have k2 := at0.next
  have k6 := at0.dat hs hd
  have hz : w.heap.size < (w.alloc (.cells (v6a q A c) 26)).heap.size := by simp
  clear at0
  unfold v6v
  rw [show (v6l q A c).toArray = v6a q A c from rfl]
  by_cases h4 : q.next = 4
  · have HV : Hid (inV q = q.dat) := Lib.hid (by rw [inV, if_pos h4])
    have HE : Hid (inE q = 0) := Lib.hid (by rw [inE, if_pos h4])
    have d4 : (q.next == 4) = true := by simp [h4]
    clear h4
    go_enter Try.func39, Try.ntmps39
    go_upto_region 1 with fail
    generalize w.alloc (.cells (v6a q A c) 26) = W at *
    go_wp2_with fail
    exact bodyPost_ret (results_tmp2 rfl _ _ _) rfl ⟨A, c, by rw [HV.out, HE.out]; rfl, by rw [HV.out]; exact own_below hO hBW, hBW⟩
  · have d4 : (q.next == 4) = false := by simpa using h4
    by_cases h44 : q.next = 44
    · have d44 : (q.next == 44) = true := by simp [h44]
      have n44 : (q.next != 44) = false := by simp [h44]
      have HV : Hid (inV q = if prsG q.dat = 0 ∧ frB q = true then rstF q.dat else []) := Lib.hid (by rw [inV, if_neg h4]; by_cases hx : prsG q.dat = 0 ∧ frB q = true; rw [if_pos ⟨h44, hx⟩, if_pos hx]; rw [if_neg (fun h => hx h.2), if_neg hx])
      have HE : Hid (inE q = if prsG q.dat = 0 then (if frB q = true then 0 else 4) else prsG q.dat) := Lib.hid (by rw [inE, if_neg h4, if_pos h44])
      have hA := arg_own hO
      clear h4 h44
      obtain ⟨G, hG⟩ : ∃ x, x = prsG q.dat := ⟨_, rfl⟩
      obtain ⟨f, hf⟩ : ∃ x, x = prsF q.dat := ⟨_, rfl⟩
      have HB : Hid (frB q = ((f.off == 0) && (f.next == 4))) := Lib.hid (by rw [hf]; rfl)
      rw [← hG] at HV HE
      have HG := Lib.hid hG
      have HF := Lib.hid hf
      clear hG hf
      go_enter Try.func39, Try.ntmps39
      go_upto_region 1 with fail
      generalize w.alloc (.cells (v6a q A c) 26) = W at *
      go_upto_region 6 with (first
        | (go_at_call 59; refine (r6pfrag A q.dat c w.heap.size _ (hA.below hBW) hBW.size hl).mono ?_; rintro e w3 ⟨v3, rfl, m3⟩; rw [← HF.out, ← HG.out]; obtain ⟨P, p, rfl, _, o3, x3⟩ := made_shape m3)
        | ((with_reducible show wpList _ _ _ (Oper.mk _ (Op.store 87 _ _) _ _ _ _ :: _) _ _); refine frR_store_new (cs := fra f) rfl rfl rfl rfl (frR_one _) ?_))
      have y3 : Below w3.heap.size w3 (w3.alloc (.cells (fra f) 87)) := (Below.refl _ w3).alloc (Nat.le_refl _) _
      have af := AtF.new (f := f) w3
      have o4 := own_below o3 y3
      have b4 : Below w.heap.size w (w3.alloc (.cells (fra f) 87)) := hBW.trans ((x3.trans (y3.mono x3.size)).mono hBW.size)
      have hzz := hBW.size
      clear m3 o3 x3 y3
      generalize w3.alloc (.cells (fra f) 87) = X at *
      have ko := af.off
      have kn := af.next
      clear af
      by_cases hg : G = 0
      · have dG : (G != 0) = false := by simp [hg]
        cases h1 : (f.off == 0)
        · have n1 : (f.off != 0) = true := by simp [bne, h1]
          have HV2 : Hid (inV q = []) := Lib.hid (by rw [HV.out, if_neg (by rw [HB.out, h1]; simp)])
          have HE2 : Hid (inE q = 4) := Lib.hid (by rw [HE.out, if_pos hg, if_neg (by rw [HB.out, h1]; simp)])
          clear hg h1
          go_wp2_with fail
          exact bodyPost_ret (results_tmp2 rfl _ _ _) rfl ⟨none, 0, by rw [HV2.out, HE2.out]; rfl, by rw [HV2.out]; exact World.ownsRow_nil _ _ _ _, b4⟩
        · have n1 : (f.off != 0) = false := by simp [bne, h1]
          cases h2 : (f.next == 4)
          · have n2 : (f.next != 4) = true := by simp [bne, h2]
            have HV2 : Hid (inV q = []) := Lib.hid (by rw [HV.out, if_neg (by rw [HB.out, h1, h2]; simp)])
            have HE2 : Hid (inE q = 4) := Lib.hid (by rw [HE.out, if_pos hg, if_neg (by rw [HB.out, h1, h2]; simp)])
            clear hg h1 h2
            go_wp2_with fail
            exact bodyPost_ret (results_tmp2 rfl _ _ _) rfl ⟨none, 0, by rw [HV2.out, HE2.out]; rfl, by rw [HV2.out]; exact World.ownsRow_nil _ _ _ _, b4⟩
          · have n2 : (f.next != 4) = false := by simp [bne, h2]
            have HV2 : Hid (inV q = rstF q.dat) := Lib.hid (by rw [HV.out, if_pos ⟨hg, by rw [HB.out, h1, h2]; rfl⟩])
            have HE2 : Hid (inE q = 0) := Lib.hid (by rw [HE.out, if_pos hg, if_pos (by rw [HB.out, h1, h2]; rfl)])
            clear hg h1 h2
            go_wp2_with fail
            exact bodyPost_ret (results_tmp2 rfl _ _ _) rfl ⟨P, p, by rw [HV2.out, HE2.out]; rfl, by rw [HV2.out]; exact own_base o4 (Nat.le_trans hB hzz), b4⟩
      · have dG : (G != 0) = true := by simpa using hg
        have HV2 : Hid (inV q = []) := Lib.hid (by rw [HV.out, if_neg (fun h => hg h.1)])
        have HE2 : Hid (inE q = G) := Lib.hid (by rw [HE.out, if_neg hg])
        clear hg
        go_wp2_with fail
        exact bodyPost_ret (results_tmp2 rfl _ _ _) rfl ⟨none, 0, by rw [HV2.out, HE2.out]; rfl, by rw [HV2.out]; exact World.ownsRow_nil _ _ _ _, b4⟩
    · have d44 : (q.next == 44) = false := by simpa using h44
      have n44 : (q.next != 44) = true := by simpa using h44
      have HV : Hid (inV q = []) := Lib.hid (by rw [inV, if_neg h4, if_neg (fun h => h44 h.1)])
      have HE : Hid (inE q = 4) := Lib.hid (by rw [inE, if_neg h4, if_neg h44])
      clear h4 h44
      go_enter Try.func39, Try.ntmps39
      go_upto_region 1 with fail
      generalize w.alloc (.cells (v6a q A c) 26) = W at *
      go_wp2_with fail
      exact bodyPost_ret (results_tmp2 rfl _ _ _) rfl ⟨none, 0, by rw [HV.out, HE.out]; rfl, by rw [HV.out]; exact World.ownsRow_nil _ _ _ _, hBW⟩
end Go.Proofs.Ytkfbamippjhjcaa
