/-
  Contracts and lemmas on which the proofs of this seat stand (several texts in one). Conditions are each theorem's own.
-/
import Derived.Test.YthdaclbgandmcaaHc1
import Derived.Test.YthdaclbgandmcaaHc2

/-
  The iterator that All of layer 18's code makes; what a table that no call made answers. Conditions are each theorem's own.
-/
namespace Go.Proofs.Ythdaclbgandmcaa
open Go.RowKit Go.Shelf
attribute [local go_sem] Oper.semAt_some

/-- The cells at A's block lie as they lay. -/
def KeepA (A : Option Addr) (X Y : World) : Prop := ∀ g : Addr, A = some g → ∀ i, Y.cell? ⟨g.block, i, none⟩ = X.cell? ⟨g.block, i, none⟩
theorem KeepA.trans {A : Option Addr} {X Y Z : World} (h : KeepA A X Y) (k : KeepA A Y Z) : KeepA A X Z := fun g e i => (k g e i).trans (h g e i)
theorem KeepA.of_heap {A : Option Addr} {X Y : World} (h : ∀ g : Addr, A = some g → Y.heap[g.block]? = X.heap[g.block]?) : KeepA A X Y := fun g e _ => World.cell?_of_block (h g e)
theorem KeepA.loop {A : Option Addr} {X : World} {l : Nat} {r r' : Loop} (hl : X.heap[l]? = some (.loop r)) : KeepA A X (X.putObj l (.loop r')) := fun g _ i => KeepC.loop (ps := [⟨g.block, i, none⟩]) hl ⟨g.block, i, none⟩ (List.mem_cons_self ..)
theorem RdS.keepA {α : Type} {cl : α → List Value} {sz B : Nat} {X Y : World} {A : Option Addr} {S : List α} (h : RdS cl sz X B A S) (k : KeepA A X Y) : RdS cl sz Y B A S := fun hn => by
  obtain ⟨b, off, e, hb, hc⟩ := h hn
  exact ⟨b, off, e, hb, fun j x hx i v hv => (k _ e _).trans (hc j x hx i v hv)⟩
def encE (x : Ent) : Array Value := #[.string (strB x.key), .int .i64 x.n]
/-- What is known of an entry when it comes. -/
def GE (S : List Ent) (pre : List Ent) (x : Ent) (_ : World) : Prop := ∃ more, S = pre ++ x :: more
theorem row_ofF {w : World} {B : Nat} {A : Option Addr} {S : List Ent} {k : Nat} {x : Ent} (h : RdS clF 4 w B A S) (hx : S[k]? = some x) : ∃ b o, A = some ⟨b, o, none⟩ ∧ b < B ∧ w.rangeAt b (o + k * 4) (clE (some x)) := by
  have hk := (List.getElem?_eq_some_iff.1 hx).1
  obtain ⟨b, o, e, hb, hc⟩ := h (by omega)
  exact ⟨b, o, e, hb, hc k x hx⟩
section
variable {n : Nat} {P : Program} {ops : Array Oper} {rest : List Oper} {o : Oper} {a : Act} {w w' : World} {Q : Exit → Act → World → Prop} {v : Value}
theorem listW_valH (hg : o.guard = none) (hd : ∀ c, o.op ≠ .defer c) (hrun : (execOp a.eval o).run P w = .ok (.value v) w)
    (h : wpListIn Fence.wide n P ops Q rest (a.put o.dst v) w) : wpListIn Fence.wide n P ops Q (o :: rest) a w :=
  wpListIn_plain hg fun K hK => ⟨fun _ _ => trivial, by rw [Oper.semAt_plain _ _ _ hd, hrun]; exact hK _ _ h⟩
theorem listW_skipH (hg : o.guard = none) (hd : ∀ c, o.op ≠ .defer c) (hrun : (execOp a.eval o).run P w = .ok .skip w')
    (h : wpListIn Fence.wide n P ops Q rest (a.put o.dst undef) w') : wpListIn Fence.wide n P ops Q (o :: rest) a w :=
  wpListIn_plain hg fun K hK => ⟨fun _ _ => trivial, by rw [Oper.semAt_plain _ _ _ hd, hrun]; exact hK _ _ h⟩
end
set_option maxRecDepth 100000 in
set_option maxHeartbeats 2000000 in
theorem all2_in (m : Nat) (hm : 1 ≤ m) (l B c Bz : Nat) (A : Option Addr) (S : List Ent) (J Jx : List Ent → World → Prop) (W : World) (hJA0 : AbidesFrom W.heap.size J)
    (hY : ∀ pre x X, J pre X → GE S pre x X → YieldAt Fence.wide (m - 1) Try.prog l (encE x) X fun e Y =>
      (e = .returned (.bool true) ∧ J (pre ++ [x]) Y ∧ KeepA A X Y) ∨ (e = .returned (.bool false) ∧ Jx (pre ++ [x]) Y))
    (hbox : W.cell? ⟨B, 0, none⟩ = some (.slice A S.length c)) (hrd : RdS clF 4 W Bz A S) (hS : S.length ≤ 1000000) (hJ : J [] W) :
    CallsIn Fence.wide m Try.prog 82 #[.func (.yield l) #[] #[], .pointer (some ⟨B, 0, none⟩)] W fun e W' => (∃ v, e = .returned v) ∧
      ((∃ xs, xs = S ∧ J xs W') ∨ (∃ pre, (∃ more, S = pre ++ more) ∧ Jx pre W')) := by
  have hJA := hJA0
  obtain ⟨N, hNe⟩ : ∃ N, N = S.length := ⟨_, rfl⟩
  rw [← hNe] at hbox hS
  have HN := Lib.hid hNe
  clear hJA0 hNe
  refine callsIn_of_wp Try.func82 rfl trivial ?_ rfl
  simp only [Try.ntmps82, List.size_toArray, List.length_cons, List.length_nil, Nat.reduceAdd, Nat.reduceSub, Array.replicate_succ, Array.replicate_zero, List.push_toArray, List.append_toArray, List.nil_append, List.cons_append]
  gi_wp2
  gi_loopw [7] (fun i wr => ∃ (k : Nat) (pre : List Ent), k ≤ N ∧ i = .int .i64 (k : Int) ∧ Hid (pre = S.take k) ∧ J pre wr ∧ Hid (RdS clF 4 wr Bz A S))
    (fun i _ => N - (intOf i).toNat)
  case atStart => exact ⟨0, [], Nat.zero_le _, rfl, Lib.hid rfl, hJ, Lib.hid hrd⟩
  case round =>
    obtain ⟨k, pre, hk, rfl, HP, hJs, HR⟩ := hrel
    by_cases hlt : k < N
    · obtain ⟨x, hx⟩ : ∃ x, S[k]? = some x := ⟨_, List.getElem?_eq_getElem (by rw [← HN.out]; exact hlt)⟩
      obtain ⟨b1, o1, rfl, hb1, hrow⟩ := row_ofF HR.out hx
      have hsp : S = pre ++ x :: S.drop (k + 1) := by
        have hk' := (List.getElem?_eq_some_iff.1 hx)
        rw [HP.out]
        have h1 := List.take_append_drop k S
        rw [List.drop_eq_getElem_cons hk'.1, hk'.2] at h1
        exact h1.symm
      obtain ⟨V, hV⟩ : ∃ V, V = wr.alloc (.cells (clE (some x)).toArray 143) := ⟨_, rfl⟩
      have HV := Lib.hid hV
      have bV : Below wr.heap.size wr V := by rw [hV]; exact (Below.refl _ wr).alloc (Nat.le_refl _) _
      have hbV : V.heap[wr.heap.size]? = some (.cells (clE (some x)).toArray 143 (0, 0)) := by rw [hV]; exact World.alloc_heap_new wr _
      have kx2 : V.cell? ⟨wr.heap.size, 2, none⟩ = some (.string (strB x.key)) := cells_at (i := 2) hbV rfl
      have kx3 : V.cell? ⟨wr.heap.size, 3, none⟩ = some (.int .i64 x.n) := cells_at (i := 3) hbV rfl
      have hJV := hJA pre wr V none hJs (grown_none bV) (fun r e => by cases e)
      have hzV := bV.size
      have hb1w := cell_block (hrow 0 _ rfl)
      have hRV := Lib.hid (HR.out.keepA (KeepA.of_heap (X := wr) (Y := V) (fun g e => by cases e; exact bV.block b1 hb1w)))
      have hY2 := hY pre x V hJV ⟨_, hsp⟩
      have HSP := Lib.hid (show S.take (k + 1) = pre ++ [x] by rw [List.take_add_one, hx, HP.out]; rfl)
      have HSQ := Lib.hid (show S = (pre ++ [x]) ++ S.drop (k + 1) by rw [List.append_assoc]; exact hsp)
      obtain ⟨fn, tmps, assign, body, hy, hR⟩ := hY2
      dsimp only [encE] at hy
      clear hV hx hsp hbV
      gi_wp2_with (first | ((with_reducible show wpListIn _ _ _ _ _ (Oper.mk _ (Op.load 143 _) _ _ _ _ :: _) _ _); refine listW_valH rfl (fun c h => by cases h) (run_load_hsp rfl rfl hrow rfl) ?_) | ((with_reducible show wpListIn _ _ _ _ _ (Oper.mk _ (Op.store 143 _ _) _ _ _ _ :: _) _ _); refine listW_skipH rfl (fun c h => by cases h) (run_storehsp (cs := (clE (some x)).toArray) rfl rfl rfl (World.alloc_heap_new wr _) rfl rfl (clE_one _)) ?_; rw [World.setRow_alloc_new]; rw [← HV.out]))
      refine hR.mono ?_
      rintro e W3 (⟨rfl, hJ3, hk3⟩ | ⟨rfl, hJx3⟩)
      · clear hy hR
        have hR3 := Lib.hid (hRV.out.keepA hk3)
        gi_wp2
        go_roundw
        case rel => exact ⟨k + 1, pre ++ [x], by omega, by simp, Lib.hid HSP.out.symm, hJ3, hR3⟩
        case measure => simp [intOf]; omega
      · clear hy hR
        gi_wp2
        refine bodyPost_ret (results_none rfl _ _ _) rfl ?_
        exact ⟨⟨_, rfl⟩, .inr ⟨_, ⟨_, HSQ.out⟩, hJx3⟩⟩
    · obtain rfl : N = k := by omega
      gi_wp2
      try rw [Exit.noGoto_normal]
      go_end0
      exact ⟨⟨_, rfl⟩, .inl ⟨_, by rw [HP.out, List.take_of_length_le (by rw [← HN.out]; exact Nat.le_refl _)], hJs⟩⟩
theorem all2_seq (B c Bz : Nat) (A : Option Addr) (S : List Ent) (W : World) (hbox : W.cell? ⟨B, 0, none⟩ = some (.slice A S.length c)) (hrd : RdS clF 4 W Bz A S) (hBz : Bz ≤ W.heap.size) (hS : S.length ≤ 1000000) (m : Nat) (hm : 1 ≤ m) :
    SeqTold m Try.prog 82 #[.pointer (some ⟨B, 0, none⟩)] encE (GE S) (KeepA A) (fun xs => xs = S) (fun pre => ∃ more, S = pre ++ more) W := by
  intro l J Jx V hV hJ _ hY h0
  exact all2_in m hm l B c Bz A S J Jx V hJ hY ((hV.cell (p := ⟨B, 0, none⟩) (cell_block hbox)).trans hbox) (hrd.below (hV.mono hBz)) hS h0
theorem cell1h {fn : Func} {p : Tmp} {tmps : Array Value} {w : World} {g : Nat} {z : Value} (h : fn.results = #[.cell p 4]) (hp : tmps.getD p undef = .pointer (some ⟨g, 0, none⟩)) (h0 : Boxed w g 4 z) :
    (results fn tmps).run Try.prog w = .ok z w := by
  have hp' : tmps[p]?.getD undef = .pointer (some ⟨g, 0, none⟩) := by simpa using hp
  simp [results, h, hp', asAddr, loadv_bool h0]
theorem hsput_nil (k : ByteArray) (n : Int) (w : World) : Calls Try.prog 34 #[.pointer none, .string k, .int .i64 n] w fun e w' => e = .returned (.int .i64 2) ∧ w = w' := by
  go_enter Try.func34, Try.ntmps34
  go_wp2_with (go_at_call 72; refine (hsmade_nil _).mono ?_; rintro e w1 ⟨rfl, rfl⟩)
  go_ret
  exact ⟨rfl, rfl⟩
theorem hsput_zero (g : Nat) (k : ByteArray) (n : Int) (w : World) (h : w.cell? ⟨g, 0, none⟩ = some (.slice none 0 0)) : Calls Try.prog 34 #[.pointer (some ⟨g, 0, none⟩), .string k, .int .i64 n] w fun e w' => e = .returned (.int .i64 2) ∧ w = w' := by
  go_enter Try.func34, Try.ntmps34
  go_wp2_with (go_at_call 72; refine (hsmade_zero g _ h).mono ?_; rintro e w1 ⟨rfl, rfl⟩)
  go_ret
  exact ⟨rfl, rfl⟩
theorem hsget_zero (g : Nat) (k : ByteArray) (w : World) (h : w.cell? ⟨g, 0, none⟩ = some (.slice none 0 0)) : Calls Try.prog 38 #[.pointer (some ⟨g, 0, none⟩), .string k] w fun e w' => e = .returned (.tuple #[.int .i64 0, .bool false]) ∧ w = w' := by
  go_enter Try.func38, Try.ntmps38
  go_wp2_with (go_at_call 72; refine (hsmade_zero g _ h).mono ?_; rintro e w1 ⟨rfl, rfl⟩)
  exact bodyPost_ret (results_tmp2 rfl _ _ _) rfl ⟨rfl, rfl⟩
theorem hsdel_nil (k : ByteArray) (w : World) : Calls Try.prog 36 #[.pointer none, .string k] w fun e w' => e = .returned (.bool false) ∧ w = w' := by
  go_enter Try.func36, Try.ntmps36
  go_wp2_with (go_at_call 72; refine (hsmade_nil _).mono ?_; rintro e w1 ⟨rfl, rfl⟩)
  go_ret
  exact ⟨rfl, rfl⟩
end Go.Proofs.Ythdaclbgandmcaa

/-
  A table of layer 18's code and the document's: do they hold the same. Conditions are each theorem's own.
-/
namespace Go.Proofs.Ythdaclbgandmcaa
open Go.RowKit Go.Shelf
attribute [local go_sem] Oper.semAt_some
theorem run_load_rq {o : Oper} {a : Act} {w : World} {x : Operand} {p : Addr} {A : Option Addr} (ho : o.op = .load 64 x) (hx : a.eval x = .pointer (some p)) (hc : w.cell? p = some (.pointer A)) :
    (execOp a.eval o).run Try.prog w = .ok (.value (.pointer A)) w := by
  unfold execOp
  simp only [ho, hx, Instr.loadAt, Instr.sureAddr, Sem.run_bind, Sem.run_pure, Result.andThen_ok]
  go_simp
theorem run_load_strq {o : Oper} {a : Act} {w : World} {x : Operand} {p : Addr} {s : ByteArray} (ho : o.op = .load 9 x) (hx : a.eval x = .pointer (some p)) (hc : w.cell? p = some (.string s)) :
    (execOp a.eval o).run Try.prog w = .ok (.value (.string s)) w := by
  unfold execOp
  simp only [ho, hx, Instr.loadAt, Instr.sureAddr, Sem.run_bind, Sem.run_pure, Result.andThen_ok]
  go_simp
theorem store_bool_wp {o : Oper} {a : Act} {w : World} {K : Act → World → Prop} {Q : Exit → Act → World → Prop} {x y : Operand} {p : Addr} {v0 : Value} {n : Bool} (ho : o.op = .store 4 x y) (hx : a.eval x = .pointer (some p)) (hy : a.eval y = .bool n) (hc : w.cell? p = some v0) (hf : w.frozen? p = false) (h : K (a.put o.dst undef) (w.setCell p (.bool n))) : o.wp Try.prog a w K Q := by
  unfold Oper.wp execOp
  simp only [ho, hx, hy]
  go_simp
  exact h
theorem Kept.box {X Y : World} {r B : Nat} {T : TypeId} {v : Value} (k : Kept (fun k => k = r) X Y) (h : Boxed X B T v) : B ≠ r → Boxed Y B T v := fun hne => Boxed.keptH h k hne
theorem Srt.eq : ∀ {a b : List Ent}, Srt a → Srt b → a.Perm b → a = b
  | [], b, _, _, p => by rw [List.nil_perm.1 p]
  | x :: a, [], _, _, p => by have := p.length_eq; simp at this
  | x :: a, y :: b, ha, hb, p => by
    obtain ⟨a1, a2⟩ := List.pairwise_cons.1 ha
    obtain ⟨b1, b2⟩ := List.pairwise_cons.1 hb
    have e : x = y := by
      rcases List.mem_cons.1 (p.mem_iff.1 (List.mem_cons_self ..)) with e | h1
      · exact e
      · rcases List.mem_cons.1 (p.mem_iff.2 (List.mem_cons_self ..)) with e | h2
        · exact e.symm
        · exact absurd (List.lt_trans (b1 x h1) (a1 y h2)) (List.lt_irrefl _)
    subst e
    rw [Srt.eq a2 b2 p.cons_inv]
section
variable {w : World} {B0 t g : Nat} {v : Value} {most most2 : Int} {M S : List Ent}
set_option maxRecDepth 100000 in
set_option maxHeartbeats 4000000 in
theorem hsame (h : HM w B0 t most M) (q : Rq w g v most2 S) (hp : S.Perm M) (hs : Srt S) (hS : S.length ≤ 1000) : Calls Try.prog 40 #[.pointer (some ⟨t, 0, none⟩), .pointer (some ⟨g, 0, none⟩)] w fun e w' => e = .returned (.bool true) ∧ Below w.heap.size w w' := by
  have HALL : Hid (∀ V, Below w.heap.size w V → Calls Try.prog 43 #[.pointer (some ⟨t, 0, none⟩)] V fun e w' => AllOut V S e w') := Lib.hid fun V hV => by
    obtain ⟨b, L, h1, h2⟩ := h.below hV
    refine (hsall h1).mono ?_
    rintro e w' ⟨S', s1, s2, s3⟩
    obtain rfl : S' = S := Srt.eq s2 hs ((s1.trans h2).trans hp.symm)
    exact s3
  have HLN : Hid ((M.length : Int) = (S.length : Int)) := Lib.hid (by rw [hp.length_eq])
  obtain ⟨A0, c0, rfl, _, _, _⟩ := q.sh
  obtain ⟨n, hn⟩ : ∃ n, n = S.length := ⟨_, rfl⟩
  have HN := Lib.hid hn
  have HM := Lib.hid h
  have HQ := Lib.hid q
  have hgz := heap_lt q.tab
  clear h q hp hs hn
  have hW0 : Below w.heap.size w (((w.alloc (.cells #[.pointer (some ⟨g, 0, none⟩)] 64)).alloc (.cells #[.bool false] 4)).alloc (.cells #[.int .i64 0] 3)) := (((Below.refl _ w).alloc (Nat.le_refl _) _).alloc (by simp) _).alloc (by simp; omega) _
  have hx0 : Boxed (((w.alloc (.cells #[.pointer (some ⟨g, 0, none⟩)] 64)).alloc (.cells #[.bool false] 4)).alloc (.cells #[.int .i64 0] 3)) w.heap.size 64 (.pointer (some ⟨g, 0, none⟩)) := ((Boxed.new w 64 _).alloc _).alloc _
  have hr0 : Boxed (((w.alloc (.cells #[.pointer (some ⟨g, 0, none⟩)] 64)).alloc (.cells #[.bool false] 4)).alloc (.cells #[.int .i64 0] 3)) (w.heap.size + 1) 4 (.bool false) := by
    have := Boxed.new (w.alloc (.cells #[.pointer (some ⟨g, 0, none⟩)] 64)) 4 (.bool false)
    rw [World.size_alloc] at this
    exact this.alloc _
  have hc0 : Boxed (((w.alloc (.cells #[.pointer (some ⟨g, 0, none⟩)] 64)).alloc (.cells #[.bool false] 4)).alloc (.cells #[.int .i64 0] 3)) (w.heap.size + 1 + 1) 3 (.int .i64 0) := by
    have := Boxed.new ((w.alloc (.cells #[.pointer (some ⟨g, 0, none⟩)] 64)).alloc (.cells #[.bool false] 4)) 3 (.int .i64 0)
    rw [World.size_alloc, World.size_alloc] at this
    exact this
  have hz0 : (((w.alloc (.cells #[.pointer (some ⟨g, 0, none⟩)] 64)).alloc (.cells #[.bool false] 4)).alloc (.cells #[.int .i64 0] 3)).heap.size = w.heap.size + 3 := by simp
  refine (callsIn_wide (n := 4)).1 ?_
  refine callsIn_of_wp_marks Try.func40 rfl trivial ?_ rfl
  simp only [Try.ntmps40, List.size_toArray, List.length_cons, List.length_nil, Nat.reduceAdd, Nat.reduceSub, Array.replicate_succ, Array.replicate_zero, List.push_toArray, List.append_toArray, List.nil_append, List.cons_append]
  gi_upto_region 2 with fail
  generalize hV0 : (((w.alloc (.cells #[.pointer (some ⟨g, 0, none⟩)] 64)).alloc (.cells #[.bool false] 4)).alloc (.cells #[.int .i64 0] 3)) = V0 at *
  clear hV0
  gi_wp2_with (refine ⟨trivial, ?_⟩; gi_at_call 43; refine (callsIn_wide.2 (HALL.out _ hW0)).mono ?_; rintro e w3 ⟨rfl, A3, c3, hb3, hr3, hg3, x3⟩)
  have bb3 : Below w.heap.size w w3 := hW0.trans (x3.mono hW0.size)
  have hx3 := Boxed.below hx0 x3 (Boxed.lt hx0)
  have hc3 := Boxed.below hc0 x3 (Boxed.lt hc0)
  have hR3 := Boxed.below hr0 x3 (Boxed.lt hr0)
  have hz3 := x3.size
  rw [hz0] at hz3 hb3
  have HNA : Hid (0 < S.length → ∃ b o, A3 = some ⟨b, o, none⟩ ∧ b ≠ w.heap.size + 1 + 1) := Lib.hid fun h0 => by
    obtain ⟨b, o, e, hb, hc⟩ := hr3 h0
    refine ⟨b, o, e, fun e2 => ?_⟩
    obtain ⟨x, hx⟩ : ∃ x, S[0]? = some x := ⟨_, List.getElem?_eq_getElem h0⟩
    have h1 := hc 0 x hx 0 (.bool true) rfl
    have h2 : w3.heap[w.heap.size + 1 + 1]? = some (.cells #[.int .i64 0] 3 (0, 0)) := hc3
    rw [e2, cell_of_row _ _ _ _ _ _ h2] at h1
    rcases Nat.eq_zero_or_pos o with e3 | e3
    · subst e3; simp at h1
    · rw [Array.getElem?_eq_none (by simp; omega)] at h1; cases h1
  have hseq := all2_seq _ c3 _ A3 S w3 hb3.cell hr3 (Nat.le_refl _) (by omega) (4 - 1) (by decide)
  have HSQ := Lib.hid hseq
  clear hx0 hr0 hc0 hb3 hr3 hg3 hseq
  refine range_told (by omega) (gf := 82) (lb := #[.pointer (some ⟨w.heap.size + 3, 0, none⟩)]) (by first | rfl | (rw [← hz0]; rfl)) (enters_of Try.func82 (by kernel_rfl) rfl)
    HSQ.out KeepA.trans (fun V l r r' hl hr => KeepA.loop hr) (Below.refl _ _) (fun _ => rfl)
    (fun pre x V l r r' h _ hl => h)
    (fun pre X => Boxed X (w.heap.size + 1 + 1) 3 (.int .i64 (pre.length : Int)) ∧ (Boxed X w.heap.size 64 (.pointer (some ⟨g, 0, none⟩)) ∧ Boxed X (w.heap.size + 1) 4 (.bool false)) ∧ Below w.heap.size w X)
    (fun _ _ _ => False)
    (fun pre X Y r hs hg hr => ⟨box_keep hs.1 hg hr, ⟨box_keep hs.2.1.1 hg hr, box_keep hs.2.1.2 hg hr⟩, below_keep hs.2.2 hg hr (by omega) (Nat.le_refl _)⟩)
    (fun cd pre X Y r hs hg hr => hs)
    ⟨hc3, ⟨hx3, hR3⟩, bb3⟩
    (fun x => { tmps := #[.pointer (some ⟨t, 0, none⟩), .pointer (some ⟨g, 0, none⟩), undef, .pointer (some ⟨w.heap.size, 0, none⟩), .pointer (some ⟨w.heap.size + 1, 0, none⟩), .pointer (some ⟨w.heap.size + 1 + 1, 0, none⟩), .string (strB x.key), .int .i64 x.n, .pointer (some ⟨t, 0, none⟩), .func (.func 82) #[] #[.pointer (some ⟨w.heap.size + 3, 0, none⟩)], .string (strB x.key), .int .i64 x.n, undef, undef, undef, undef, undef, undef, undef, undef, undef, undef, undef, undef, undef, undef, undef, undef, undef, undef, undef, undef, undef, undef, undef, undef, undef, undef, undef, undef, undef, undef, undef, undef, undef, undef, undef, undef, undef, undef, undef, undef, undef, undef, undef, undef, undef, undef], defers := [] }) ?assign ?body ?done ?stop
  case assign =>
    intro l x X K hK
    dsimp only [encE]
    gi_wp2
    exact hK
  case body =>
    rintro l pre x Y ⟨hcY, ⟨hxY, hRY⟩, hBY⟩ ⟨more, hmore⟩
    obtain ⟨m, hm⟩ : ∃ m, m = pre.length := ⟨_, rfl⟩
    have hmn : m < n := by rw [hm, HN.out, hmore]; simp
    have hget : S[m]? = some x := by rw [hmore, hm]; simp
    obtain ⟨b3, o3, e3, hb3⟩ := HNA.out (by rw [← HN.out]; omega)
    subst e3
    rw [← hm] at hcY
    have hqY := HQ.out.below hBY
    obtain ⟨b, e0, hrow⟩ := hqY.at_ hget
    subst e0
    rw [← HN.out] at hqY
    have hY0 := heap_lt hqY.tab
    have KN : Hid (∀ V, Below Y.heap.size Y V → V.cell? ⟨w.heap.size + 1 + 1, 0, none⟩ = some (.int .i64 (m : Int))) := Lib.hid fun V hV => (hV.cell (p := ⟨w.heap.size + 1 + 1, 0, none⟩) (Boxed.lt hcY)).trans hcY.cell
    have KX : Hid (∀ V, Below Y.heap.size Y V → V.cell? ⟨w.heap.size, 0, none⟩ = some (.pointer (some ⟨g, 0, none⟩))) := Lib.hid fun V hV => (hV.cell (p := ⟨w.heap.size, 0, none⟩) (Boxed.lt hxY)).trans hxY.cell
    have KT : Hid (∀ V, Below Y.heap.size Y V → V.cell? ⟨g, 0, none⟩ = some (.slice (some ⟨b, 0, none⟩) n c0)) := Lib.hid fun V hV => cells_at (i := 0) ((hV.block g hY0).trans hqY.tab) rfl
    have KR : ∀ V, Below Y.heap.size Y V → V.rangeAt b (m * 2) (clQ x) := fun V hV => by
      have h9 := (HQ.out.below hBY).below hV
      obtain ⟨b9, e9, h9⟩ := h9.at_ hget
      injection e9 with e9
      injection e9 with e9 _ _
      rw [e9]; exact h9
    have KK : Hid (∀ V, Below Y.heap.size Y V → V.cell? ⟨b, m * 2, none⟩ = some (.string (strB x.key))) := Lib.hid fun V hV => by simpa using KR V hV 0 _ rfl
    have KV : Hid (∀ V, Below Y.heap.size Y V → V.cell? ⟨b, m * 2 + 1, none⟩ = some (.int .i64 x.n)) := Lib.hid fun V hV => by simpa using KR V hV 1 _ rfl
    have HM2 := Lib.hid hm
    have dm : decide (n ≤ m) = false := by simp; omega
    have dm' : decide ((n : Int) ≤ (m : Int)) = false := by simp; omega
    have dk : ((strB x.key).toList == (strB x.key).toList) = true := by simp
    have hn1 : n ≤ 1000 := by rw [HN.out]; exact hS
    have cn : Y.drew.cell? ⟨w.heap.size + 1 + 1, 0, none⟩ = some (.int .i64 (m : Int)) := hcY.cell
    have fn_ : Y.drew.frozen? ⟨w.heap.size + 1 + 1, 0, none⟩ = false := hcY.frozen
    clear hmore hget hm hqY hrow KR hS
    gi_upto_region 5 with fail
    refine region_roundH (S := fun w' => Below Y.heap.size Y w') (by kernel_rfl) (by kernel_rfl) (fun h => by obtain ⟨_, _, h⟩ := h; exact h) (Below.refl _ Y).drew (fun hS => ?_)
    refine held_pure (i := 0) (oi := ⟨some 12, _, _, _, _, _⟩) rfl (by kernel_rfl) (by kernel_rfl) (by kernel_rfl) (fun _ _ _ h => h) (by rfl) (fun w hSw => run_load_int rfl rfl (KN.out _ hSw)) hS (fun hS => ?_)
    try go_frame
    refine held_pure (i := 1) (oi := ⟨some 13, _, _, _, _, _⟩) rfl (by kernel_rfl) (by kernel_rfl) (by kernel_rfl) (fun _ _ _ h => h) (by rfl) (fun w hSw => run_load_rq rfl rfl (KX.out _ hSw)) hS (fun hS => ?_)
    try go_frame
    refine held_pure (i := 2) (oi := ⟨some 14, _, _, _, _, _⟩) rfl (by kernel_rfl) (by kernel_rfl) (by kernel_rfl) (fun _ _ _ h => h) (by rfl) (v := ?_) (fun w hSw => ?_) hS (fun hS => ?_)
    rotate_left
    · go_simp; try with_reducible rfl
    try go_frame
    refine held_pure (i := 3) (oi := ⟨some 15, _, _, _, _, _⟩) rfl (by kernel_rfl) (by kernel_rfl) (by kernel_rfl) (fun _ _ _ h => h) (by rfl) (v := ?_) (fun w hSw => ?_) hS (fun hS => ?_)
    rotate_left
    · go_simp; try with_reducible rfl
    try go_frame
    refine held_pure (i := 4) (oi := ⟨some 16, _, _, _, _, _⟩) rfl (by kernel_rfl) (by kernel_rfl) (by kernel_rfl) (fun _ _ _ h => h) (by rfl) (fun w hSw => run_load_qs rfl rfl (KT.out _ hSw)) hS (fun hS => ?_)
    try go_frame
    refine held_pure (i := 5) (oi := ⟨some 17, _, _, _, _, _⟩) rfl (by kernel_rfl) (by kernel_rfl) (by kernel_rfl) (fun _ _ _ h => h) (by rfl) (v := ?_) (fun w hSw => ?_) hS (fun hS => ?_)
    rotate_left
    · go_simp; try with_reducible rfl
    try go_frame
    refine held_pure (i := 6) (oi := ⟨some 18, _, _, _, _, _⟩) rfl (by kernel_rfl) (by kernel_rfl) (by kernel_rfl) (fun _ _ _ h => h) (by rfl) (v := .bool false) (fun w hSw => by go_simp; try exact dm') hS (fun hS => ?_)
    try go_frame
    refine held_pure (i := 7) (oi := ⟨some 19, _, _, _, _, _⟩) rfl (by kernel_rfl) (by kernel_rfl) (by kernel_rfl) (fun _ _ _ h => h) (by rfl) (v := ?_) (fun w hSw => ?_) hS (fun hS => ?_)
    rotate_left
    · go_simp; try with_reducible rfl
    try go_frame
    refine held_pure (i := 8) (oi := ⟨some 20, _, _, _, _, _⟩) rfl (by kernel_rfl) (by kernel_rfl) (by kernel_rfl) (fun _ _ _ h => h) (by rfl) (fun w hSw => run_load_rq rfl rfl (KX.out _ hSw)) hS (fun hS => ?_)
    try go_frame
    refine held_pure (i := 9) (oi := ⟨some 21, _, _, _, _, _⟩) rfl (by kernel_rfl) (by kernel_rfl) (by kernel_rfl) (fun _ _ _ h => h) (by rfl) (v := ?_) (fun w hSw => ?_) hS (fun hS => ?_)
    rotate_left
    · go_simp; try with_reducible rfl
    try go_frame
    refine held_pure (i := 10) (oi := ⟨some 22, _, _, _, _, _⟩) rfl (by kernel_rfl) (by kernel_rfl) (by kernel_rfl) (fun _ _ _ h => h) (by rfl) (v := ?_) (fun w hSw => ?_) hS (fun hS => ?_)
    rotate_left
    · go_simp; try with_reducible rfl
    try go_frame
    refine held_pure (i := 11) (oi := ⟨some 23, _, _, _, _, _⟩) rfl (by kernel_rfl) (by kernel_rfl) (by kernel_rfl) (fun _ _ _ h => h) (by rfl) (fun w hSw => run_load_qs rfl rfl (KT.out _ hSw)) hS (fun hS => ?_)
    try go_frame
    refine held_pure (i := 12) (oi := ⟨some 24, _, _, _, _, _⟩) rfl (by kernel_rfl) (by kernel_rfl) (by kernel_rfl) (fun _ _ _ h => h) (by rfl) (fun w hSw => run_load_int rfl rfl (KN.out _ hSw)) hS (fun hS => ?_)
    try go_frame
    refine held_pure (i := 13) (oi := ⟨some 25, _, _, _, _, _⟩) rfl (by kernel_rfl) (by kernel_rfl) (by kernel_rfl) (fun _ _ _ h => h) (by rfl) (v := .pointer (some ⟨b, m * 2, none⟩)) (fun w hSw => by go_simp; try exact fun h => absurd h (by omega)) hS (fun hS => ?_)
    try go_frame
    refine held_pure (i := 14) (oi := ⟨some 26, _, _, _, _, _⟩) rfl (by kernel_rfl) (by kernel_rfl) (by kernel_rfl) (fun _ _ _ h => h) (by rfl) (v := ?_) (fun w hSw => ?_) hS (fun hS => ?_)
    rotate_left
    · go_simp; try with_reducible rfl
    try go_frame
    refine held_pure (i := 15) (oi := ⟨some 27, _, _, _, _, _⟩) rfl (by kernel_rfl) (by kernel_rfl) (by kernel_rfl) (fun _ _ _ h => h) (by rfl) (fun w hSw => run_load_strq rfl rfl (KK.out _ hSw)) hS (fun hS => ?_)
    try go_frame
    refine held_pure (i := 16) (oi := ⟨some 28, _, _, _, _, _⟩) rfl (by kernel_rfl) (by kernel_rfl) (by kernel_rfl) (fun _ _ _ h => h) (by rfl) (v := ?_) (fun w hSw => ?_) hS (fun hS => ?_)
    rotate_left
    · go_simp; try with_reducible rfl
    try go_frame
    refine held_pure (i := 17) (oi := ⟨some 29, _, _, _, _, _⟩) rfl (by kernel_rfl) (by kernel_rfl) (by kernel_rfl) (fun _ _ _ h => h) (by rfl) (v := .bool false) (fun w hSw => by go_simp; try exact dk) hS (fun hS => ?_)
    try go_frame
    refine held_pure (i := 18) (oi := ⟨some 30, _, _, _, _, _⟩) rfl (by kernel_rfl) (by kernel_rfl) (by kernel_rfl) (fun _ _ _ h => h) (by rfl) (v := ?_) (fun w hSw => ?_) hS (fun hS => ?_)
    rotate_left
    · go_simp; try with_reducible rfl
    try go_frame
    refine held_pure (i := 19) (oi := ⟨some 31, _, _, _, _, _⟩) rfl (by kernel_rfl) (by kernel_rfl) (by kernel_rfl) (fun _ _ _ h => h) (by rfl) (v := ?_) (fun w hSw => ?_) hS (fun hS => ?_)
    rotate_left
    · go_simp; try with_reducible rfl
    try go_frame
    refine held_pure (i := 20) (oi := ⟨some 32, _, _, _, _, _⟩) rfl (by kernel_rfl) (by kernel_rfl) (by kernel_rfl) (fun _ _ _ h => h) (by rfl) (fun w hSw => run_load_rq rfl rfl (KX.out _ hSw)) hS (fun hS => ?_)
    try go_frame
    refine held_pure (i := 21) (oi := ⟨some 33, _, _, _, _, _⟩) rfl (by kernel_rfl) (by kernel_rfl) (by kernel_rfl) (fun _ _ _ h => h) (by rfl) (v := ?_) (fun w hSw => ?_) hS (fun hS => ?_)
    rotate_left
    · go_simp; try with_reducible rfl
    try go_frame
    refine held_pure (i := 22) (oi := ⟨some 34, _, _, _, _, _⟩) rfl (by kernel_rfl) (by kernel_rfl) (by kernel_rfl) (fun _ _ _ h => h) (by rfl) (v := ?_) (fun w hSw => ?_) hS (fun hS => ?_)
    rotate_left
    · go_simp; try with_reducible rfl
    try go_frame
    refine held_pure (i := 23) (oi := ⟨some 35, _, _, _, _, _⟩) rfl (by kernel_rfl) (by kernel_rfl) (by kernel_rfl) (fun _ _ _ h => h) (by rfl) (fun w hSw => run_load_qs rfl rfl (KT.out _ hSw)) hS (fun hS => ?_)
    try go_frame
    refine held_pure (i := 24) (oi := ⟨some 36, _, _, _, _, _⟩) rfl (by kernel_rfl) (by kernel_rfl) (by kernel_rfl) (fun _ _ _ h => h) (by rfl) (fun w hSw => run_load_int rfl rfl (KN.out _ hSw)) hS (fun hS => ?_)
    try go_frame
    refine held_pure (i := 25) (oi := ⟨some 37, _, _, _, _, _⟩) rfl (by kernel_rfl) (by kernel_rfl) (by kernel_rfl) (fun _ _ _ h => h) (by rfl) (v := .pointer (some ⟨b, m * 2, none⟩)) (fun w hSw => by go_simp; try exact fun h => absurd h (by omega)) hS (fun hS => ?_)
    try go_frame
    refine held_pure (i := 26) (oi := ⟨some 38, _, _, _, _, _⟩) rfl (by kernel_rfl) (by kernel_rfl) (by kernel_rfl) (fun _ _ _ h => h) (by rfl) (v := ?_) (fun w hSw => ?_) hS (fun hS => ?_)
    rotate_left
    · go_simp; try with_reducible rfl
    try go_frame
    refine held_pure (i := 27) (oi := ⟨some 39, _, _, _, _, _⟩) rfl (by kernel_rfl) (by kernel_rfl) (by kernel_rfl) (fun _ _ _ h => h) (by rfl) (fun w hSw => run_load_int rfl rfl (KV.out _ hSw)) hS (fun hS => ?_)
    try go_frame
    refine held_pure (i := 28) (oi := ⟨some 40, _, _, _, _, _⟩) rfl (by kernel_rfl) (by kernel_rfl) (by kernel_rfl) (fun _ _ _ h => h) (by rfl) (v := ?_) (fun w hSw => ?_) hS (fun hS => ?_)
    rotate_left
    · go_simp; try with_reducible rfl
    try go_frame
    refine held_pure (i := 29) (oi := ⟨some 41, _, _, _, _, _⟩) rfl (by kernel_rfl) (by kernel_rfl) (by kernel_rfl) (fun _ _ _ h => h) (by rfl) (v := .bool false) (fun w hSw => by go_simp) hS (fun hS => ?_)
    try go_frame
    refine held_pure (i := 30) (oi := ⟨some 42, _, _, _, _, _⟩) rfl (by kernel_rfl) (by kernel_rfl) (by kernel_rfl) (fun _ _ _ h => h) (by rfl) (v := ?_) (fun w hSw => ?_) hS (fun hS => ?_)
    rotate_left
    · go_simp; try with_reducible rfl
    try go_frame
    refine wpAnyH_done (by kernel_rfl) ?_ _
    gi_wp2
    have hk := (KeepsOthers.setCell Y ⟨w.heap.size + 1 + 1, 0, none⟩ (.int .i64 ((m : Int) + 1))).from w3.heap.size
    have hne : ∀ B : Nat, B ≠ w.heap.size + 1 + 1 → (Y.setCell ⟨w.heap.size + 1 + 1, 0, none⟩ (.int .i64 ((m : Int) + 1))).heap[B]? = Y.heap[B]? := fun B hB => heap_setCell_other Y ⟨w.heap.size + 1 + 1, 0, none⟩ B _ hB
    refine ⟨⟨hk.size, hk.same⟩, KeepA.of_heap (fun g9 e9 => by injection e9 with e9; rw [← e9]; exact hne b3 hb3), ?_, ⟨(hne w.heap.size (by omega)).trans hxY, (hne (w.heap.size + 1) (by omega)).trans hRY⟩, (hBY.setCell (p := ⟨w.heap.size + 1 + 1, 0, none⟩) (by show w.heap.size ≤ w.heap.size + 1 + 1; omega) _).drew⟩
    rw [show ((pre ++ [x]).length : Int) = (m : Int) + 1 from by rw [HM2.out]; simp]
    exact Boxed.set _ hcY
  case stop =>
    rintro D cd pre X hD _ hf hK
    exact hf.elim
  case done =>
    rintro D xs X hD hxs ⟨hcX, hxX, hBX⟩ hK
    subst hxs
    have hm1 : Marks w3.heap.size X.heap.size [{ target := .collected D, args := #[] }] X := (Marks.push (hi := D) (ds := []) trivial (Nat.le_refl _) hD hK).more (heap_lt hK)
    have hqX := HQ.out.below hBX
    rw [← HN.out] at hcX hqX
    have hgX := heap_lt hqX.tab
    have HRX := Lib.hid hxX.2
    have KN : Hid (∀ V, Kept (fun k => k = w.heap.size + 1) X V → V.cell? ⟨w.heap.size + 1 + 1, 0, none⟩ = some (.int .i64 (n : Int))) := Lib.hid fun V hV => (hV.box hcX (by omega)).cell
    have KX : Hid (∀ V, Kept (fun k => k = w.heap.size + 1) X V → V.cell? ⟨w.heap.size, 0, none⟩ = some (.pointer (some ⟨g, 0, none⟩))) := Lib.hid fun V hV => (hV.box hxX.1 (by omega)).cell
    have KT : Hid (∀ V, Kept (fun k => k = w.heap.size + 1) X V → V.cell? ⟨g, 0, none⟩ = some (.slice A0 n c0)) := Lib.hid fun V hV => cells_at (i := 0) ((hV.block g hgX (by omega)).trans hqX.tab) rfl
    have HLEN : Hid (∀ V, Kept (fun k => k = w.heap.size + 1) X V → Calls Try.prog 42 #[.pointer (some ⟨t, 0, none⟩)] V fun e w' => e = .returned (.int .i64 (n : Int)) ∧ V = w') := Lib.hid fun V hV => by
      have := hm_len ((HM.out.below hBX).kept hV (show X.heap[w.heap.size + 1]? = some (.cells #[.bool false] 4 (0, 0)) from HRX.out) (nat_ne (by kernel_rfl)) (nat_ne (by kernel_rfl)))
      rw [HLN.out, ← HN.out] at this
      exact this
    clear hqX HSQ hxX
    gi_upto_region 8 with fail
    refine wpIn_mono (Q := noPanic _) ?_ noPanic_to
    refine wpIn_wide.2 ?_
    refine wp_region_held_drew (S := Kept (fun k => k = w.heap.size + 1) X) (by kernel_rfl) (Kept.drew X) (fun hS => ?_)
    refine held_pure (i := 0) (oi := ⟨some 45, _, _, _, _, _⟩) rfl (by kernel_rfl) (by kernel_rfl) (by kernel_rfl) (fun _ _ _ h => h) (by rfl) (fun w hSw => run_load_int rfl rfl (KN.out _ hSw)) hS (fun hS => ?_)
    try go_frame
    refine held_pure (i := 1) (oi := ⟨some 46, _, _, _, _, _⟩) rfl (by kernel_rfl) (by kernel_rfl) (by kernel_rfl) (fun _ _ _ h => h) (by rfl) (fun w hSw => run_load_rq rfl rfl (KX.out _ hSw)) hS (fun hS => ?_)
    try go_frame
    refine held_pure (i := 2) (oi := ⟨some 47, _, _, _, _, _⟩) rfl (by kernel_rfl) (by kernel_rfl) (by kernel_rfl) (fun _ _ _ h => h) (by rfl) (v := ?_) (fun w hSw => ?_) hS (fun hS => ?_)
    rotate_left
    · go_simp; try with_reducible rfl
    try go_frame
    refine held_pure (i := 3) (oi := ⟨some 48, _, _, _, _, _⟩) rfl (by kernel_rfl) (by kernel_rfl) (by kernel_rfl) (fun _ _ _ h => h) (by rfl) (v := ?_) (fun w hSw => ?_) hS (fun hS => ?_)
    rotate_left
    · go_simp; try with_reducible rfl
    try go_frame
    refine held_pure (i := 4) (oi := ⟨some 49, _, _, _, _, _⟩) rfl (by kernel_rfl) (by kernel_rfl) (by kernel_rfl) (fun _ _ _ h => h) (by rfl) (fun w hSw => run_load_qs rfl rfl (KT.out _ hSw)) hS (fun hS => ?_)
    try go_frame
    refine held_pure (i := 5) (oi := ⟨some 50, _, _, _, _, _⟩) rfl (by kernel_rfl) (by kernel_rfl) (by kernel_rfl) (fun _ _ _ h => h) (by rfl) (v := ?_) (fun w hSw => ?_) hS (fun hS => ?_)
    rotate_left
    · go_simp; try with_reducible rfl
    try go_frame
    refine held_pure (i := 6) (oi := ⟨some 51, _, _, _, _, _⟩) rfl (by kernel_rfl) (by kernel_rfl) (by kernel_rfl) (fun _ _ _ h => h) (by rfl) (v := .bool true) (fun w hSw => by go_simp) hS (fun hS => ?_)
    try go_frame
    refine held_pure (i := 7) (oi := ⟨some 52, _, _, _, _, _⟩) rfl (by kernel_rfl) (by kernel_rfl) (by kernel_rfl) (fun _ _ _ h => h) (by rfl) (v := ?_) (fun w hSw => ?_) hS (fun hS => ?_)
    rotate_left
    · go_simp; try with_reducible rfl
    try go_frame
    refine held_pure (i := 8) (oi := ⟨some 53, _, _, _, _, _⟩) rfl (by kernel_rfl) (by kernel_rfl) (by kernel_rfl) (fun _ _ _ h => h) (by rfl) (v := ?_) (fun w hSw => ?_) hS (fun hS => ?_)
    rotate_left
    · go_simp; try with_reducible rfl
    try go_frame
    refine held_pure (i := 10) (oi := ⟨some 55, _, _, _, _, _⟩) rfl (by kernel_rfl) (by kernel_rfl) (by kernel_rfl) (fun _ _ _ h => h) (by rfl) (fun w hSw => run_load_int rfl rfl (KN.out _ hSw)) hS (fun hS => ?_)
    try go_frame
    refine wpAnyH_ready (rs := [9]) (by kernel_rfl) (by simp) (AllReadyH.cons (o := ⟨some 54, _, _, _, _, _⟩) rfl (fun K hK => ?_) AllReadyH.nil)
    rw [if_pos (by rfl)]
    go_simp
    refine (HLEN.out _ hS).mono ?_
    rintro e w9 ⟨rfl, rfl⟩
    show K _ _
    refine hK.out _ _ hS (fun hS => ?_)
    clear hK K
    try go_frame
    refine held_pure (i := 11) (oi := ⟨some 56, _, _, _, _, _⟩) rfl (by kernel_rfl) (by kernel_rfl) (by kernel_rfl) (fun _ _ _ h => h) (by rfl) (v := .bool true) (fun w hSw => by go_simp) hS (fun hS => ?_)
    try go_frame
    refine held_pure (i := 12) (oi := ⟨some 57, _, _, _, _, _⟩) rfl (by kernel_rfl) (by kernel_rfl) (by kernel_rfl) (fun _ _ _ h => h) (by rfl) (v := ?_) (fun w hSw => ?_) hS (fun hS => ?_)
    rotate_left
    · go_simp; try with_reducible rfl
    try go_frame
    refine wpAnyH_ready (rs := [13]) (by kernel_rfl) (by simp) (AllReadyH.cons (o := ⟨none, _, _, _, _, _⟩) rfl (fun K hK => ?_) AllReadyH.nil)
    rw [if_pos (by rfl)]
    have kr : Boxed X.drew (w.heap.size + 1) 4 (.bool false) := HRX.out
    have fr := kr.frozen
    have kc := kr.cell
    refine store_bool_wp rfl rfl rfl kc fr ?_
    refine hK.out _ _ (hS.trans (T := fun k => k = w.heap.size + 1) (Kept.setCell _ _ 0 _) (fun _ _ h => h)) (fun hS => ?_)
    clear hK K
    try go_frame
    refine wpAnyH_done (by kernel_rfl) ?_ _
    refine noPanic_normal ?_
    gi_wp2
    have hkr : Boxed X.drew (w.heap.size + 1) 4 (.bool false) := HRX.out
    have hmr : Marks w3.heap.size X.heap.size [{ target := .collected D, args := #[] }] (X.drew.setCell ⟨w.heap.size + 1, 0, none⟩ (.bool true)) :=
      hm1.keep (fun k h1 h2 => Below.heap_setCell X.drew _ _ _ (by simp; omega))
    refine leaves_marks w3.heap.size (fun Y => Boxed Y (w.heap.size + 1) 4 (.bool true) ∧ Below w.heap.size w Y)
      (fun Y D hY h1 h2 => ⟨box_keep (n := w3.heap.size) hY.1 (grownBy_putObj' Y D _) (fun k e => by cases e; exact ⟨h1, _, h2, rfl⟩), hY.2.trans (belowK_b (w := w) (Nat.le_refl _) Y D _ _ (by omega) h2 rfl rfl)⟩)
      (fun Y hY => ⟨_, cell1h rfl rfl hY.1, rfl, hY.2⟩) _ _ _ hmr ⟨Boxed.set _ hkr, hBX.drew.setCell (p := ⟨w.heap.size + 1, 0, none⟩) (by show w.heap.size ≤ w.heap.size + 1; omega) _⟩
end
end Go.Proofs.Ythdaclbgandmcaa

/-
  A call of layer 18's code beside the document's: both answer the same, and hold the same. Conditions are each theorem's own.
-/
namespace Go.Proofs.Ythdaclbgandmcaa
open Go.RowKit Go.Shelf
theorem first_at {key : List UInt8} : ∀ {S : List Ent}, (∃ x ∈ S, x.key = key) → ∃ (i : Nat) (x : Ent), S[i]? = some x ∧ x.key = key ∧ ∀ j y, j < i → S[j]? = some y → y.key ≠ key
  | [], h => by obtain ⟨x, hx, _⟩ := h; cases hx
  | z :: S, h => by
    by_cases hz : z.key = key
    · exact ⟨0, z, rfl, hz, fun j y hj => by omega⟩
    · obtain ⟨i, x, h1, h2, h3⟩ := first_at (S := S) (by
        obtain ⟨x, hx, e⟩ := h
        rcases List.mem_cons.1 hx with rfl | hx
        · exact absurd e hz
        · exact ⟨x, hx, e⟩)
      refine ⟨i + 1, x, h1, h2, fun j y hj hy => ?_⟩
      cases j with
      | zero => simp at hy; rw [← hy]; exact hz
      | succ j => exact h3 j y (by omega) hy
section
variable {key : List UInt8} {S M R : List Ent} {x : Ent}
theorem Srt.keys (h : Srt S) : S.Pairwise fun a b => a.key ≠ b.key := List.Pairwise.imp (fun h e => by rw [e] at h; exact List.lt_irrefl _ h) h
theorem outQ_no (h : ∀ y ∈ S, y.key ≠ key) : outQ key S = S := List.filter_eq_self.2 fun y hy => decide_eq_true (h y hy)
theorem outQ_mem {y : Ent} (h : y ∈ outQ key S) : y.key ≠ key := of_decide_eq_true (List.mem_filter.1 h).2
theorem outQ_srt (h : Srt S) : Srt (outQ key S) := List.Pairwise.filter _ h
theorem outQ_take (hp : S.Perm M) (hs : Srt S) (hm : M.Perm (x :: R)) (hx : x.key = key) : (outQ key S).Perm R := by
  have h1 := (hp.trans hm).pairwise hs.keys (fun e => e.symm)
  have h2 : (outQ key S).Perm (outQ key (x :: R)) := (hp.trans hm).filter _
  have h3 : outQ key (x :: R) = R := by
    have : outQ key (x :: R) = outQ key R := by unfold outQ; rw [List.filter_cons_of_neg (by simp [hx])]
    rw [this]
    exact outQ_no fun y hy e => (List.pairwise_cons.1 h1).1 y hy (hx.trans e.symm)
  rw [h3] at h2
  exact h2
end
theorem put_both {most : Int} {M S : List Ent} (hp : S.Perm M) (hs : Srt S) (hS : S.length ≤ 1000) (key : List UInt8) (n : Int) (hk : key.length ≤ 1000000) : ∃ (r : Int) (M' S' : List Ent), S'.Perm M' ∧ Srt S' ∧ S'.length ≤ S.length + 1 ∧
    (∀ (w : World) (B0 t : Nat), HM w B0 t most M → B0 ≤ w.heap.size → Calls Try.prog 34 #[.pointer (some ⟨t, 0, none⟩), .string (strB key), .int .i64 n] w fun e w' => e = .returned (.int .i64 r) ∧ HM w' B0 t most M' ∧ Below B0 w w' ∧ KH w w') ∧
    (∀ (w : World) (g : Nat) (v : Value), Rq w g v most S → Calls Try.prog 35 #[.pointer (some ⟨g, 0, none⟩), .string (strB key), .int .i64 n] w fun e w' => e = .returned (.int .i64 r) ∧ ∃ v', Rq w' g v' most S' ∧ Kept (fun k => k = g) w w') := by
  have hso : Srt (insQ (outQ key S) ⟨key, n⟩) := insQ_srt (outQ_srt hs) (fun y hy => outQ_mem hy)
  by_cases hx : ∃ x ∈ S, x.key = key
  · obtain ⟨i, x, h1, h2, h3⟩ := first_at hx
    obtain ⟨y, hy, ey⟩ := hx
    obtain ⟨z, R, ez, hz⟩ := perm_split (M := M) ⟨y, hp.mem_iff.1 hy, ey⟩
    have hq : (insQ (outQ key S) ⟨key, n⟩).Perm (⟨key, n⟩ :: R) := (insQ_perm _ _).trans ((outQ_take hp hs hz ez).cons _)
    refine ⟨0, _, _, hq, hso, ?_, fun w B0 t h hB => ?_, fun w g v h => r18put_yes h ⟨h1, h2⟩ h3 hS n⟩
    · rw [hq.length_eq, List.length_cons, hp.length_eq, hz.length_eq, List.length_cons]; omega
    · have := hk_put_old h hz n (by rw [ez]; exact hk) hB
      rw [ez] at this
      exact this
  · have hno : ∀ y ∈ S, y.key ≠ key := fun y hy e => hx ⟨y, hy, e⟩
    have hnm : ∀ y ∈ M, y.key ≠ key := fun y hy => hno y (hp.mem_iff.2 hy)
    by_cases hm : (S.length : Int) < most
    · have hq : (insQ (outQ key S) ⟨key, n⟩).Perm (⟨key, n⟩ :: M) := (insQ_perm _ _).trans (by rw [outQ_no hno]; exact hp.cons _)
      refine ⟨0, _, _, hq, hso, ?_, fun w B0 t h hB => hk_put_new h hnm (by rw [← hp.length_eq]; exact hm) n hk hB, fun w g v h => r18put_no h hno hm hS n⟩
      rw [hq.length_eq, List.length_cons, hp.length_eq]; exact Nat.le_refl _
    · refine ⟨7, M, S, hp, hs, by omega, fun w B0 t h hB => hk_put_full h hnm (by rw [← hp.length_eq]; omega) n hk hB, fun w g v h => ?_⟩
      refine (r18put_full h hno (by omega) hS n).mono ?_
      rintro e w' ⟨rfl, hb⟩
      exact ⟨rfl, v, h.below hb, Kept.of_below hb⟩
theorem del_both {most : Int} {M S : List Ent} (hp : S.Perm M) (hs : Srt S) (hS : S.length ≤ 1000) (key : List UInt8) (hk : key.length ≤ 1000000) : ∃ (r : Bool) (M' S' : List Ent), S'.Perm M' ∧ Srt S' ∧ S'.length ≤ S.length + 1 ∧
    (∀ (w : World) (B0 t : Nat), HM w B0 t most M → B0 ≤ w.heap.size → Calls Try.prog 36 #[.pointer (some ⟨t, 0, none⟩), .string (strB key)] w fun e w' => e = .returned (.bool r) ∧ HM w' B0 t most M' ∧ Below B0 w w' ∧ KH w w') ∧
    (∀ (w : World) (g : Nat) (v : Value), Rq w g v most S → Calls Try.prog 37 #[.pointer (some ⟨g, 0, none⟩), .string (strB key)] w fun e w' => e = .returned (.bool r) ∧ ∃ v', Rq w' g v' most S' ∧ Kept (fun k => k = g) w w') := by
  have hle : (outQ key S).length ≤ S.length := outQ_len
  by_cases hx : ∃ x ∈ S, x.key = key
  · obtain ⟨y, hy, ey⟩ := hx
    obtain ⟨z, R, ez, hz⟩ := perm_split (M := M) ⟨y, hp.mem_iff.1 hy, ey⟩
    have hq := outQ_take hp hs hz ez
    have hlt : (outQ key S).length < S.length := by rw [hq.length_eq, hp.length_eq, hz.length_eq, List.length_cons]; omega
    refine ⟨true, R, outQ key S, hq, outQ_srt hs, by omega, fun w B0 t h hB => ?_, fun w g v h => ?_⟩
    · have := hk_del_yes h hz (by rw [ez]; exact hk) hB
      rw [ez] at this
      exact this
    · have := r18del h hS key
      rw [decide_eq_true hlt] at this
      exact this
  · have hno : ∀ y ∈ S, y.key ≠ key := fun y hy e => hx ⟨y, hy, e⟩
    have hnm : ∀ y ∈ M, y.key ≠ key := fun y hy => hno y (hp.mem_iff.2 hy)
    refine ⟨false, M, S, hp, hs, by omega, fun w B0 t h hB => hk_del_no h hnm hk hB, fun w g v h => ?_⟩
    have := r18del h hS key
    rw [outQ_no hno, decide_eq_false (Nat.lt_irrefl _)] at this
    exact this
theorem get_both {most : Int} {M S : List Ent} (hp : S.Perm M) (hS : S.length ≤ 1000) (key : List UInt8) (hk : key.length ≤ 1000000) : ∃ (a : Int) (b : Bool),
    (∀ (w : World) (B0 t : Nat), HM w B0 t most M → Calls Try.prog 38 #[.pointer (some ⟨t, 0, none⟩), .string (strB key)] w fun e w' => e = .returned (.tuple #[.int .i64 a, .bool b]) ∧ Below w.heap.size w w') ∧
    (∀ (w : World) (g : Nat) (v : Value), Rq w g v most S → Calls Try.prog 39 #[.pointer (some ⟨g, 0, none⟩), .string (strB key)] w fun e w' => e = .returned (.tuple #[.int .i64 a, .bool b]) ∧ Below w.heap.size w w') := by
  by_cases hx : ∃ x ∈ S, x.key = key
  · obtain ⟨i, x, h1, rfl, h3⟩ := first_at hx
    exact ⟨x.n, true, fun w B0 t h => hm_get_yes h (hp.mem_iff.1 (List.mem_of_getElem? h1)) hk, fun w g v h => r18get_yes h h1 h3 hS⟩
  · have hno : ∀ y ∈ S, y.key ≠ key := fun y hy e => hx ⟨y, hy, e⟩
    exact ⟨0, false, fun w B0 t h => hm_get_no h (fun y hy => hno y (hp.mem_iff.2 hy)) hk, fun w g v h => r18get_no h hno hS⟩
end Go.Proofs.Ythdaclbgandmcaa
