/-
  Contracts and lemmas on which the proofs of this seat stand (several texts in one). Conditions are each theorem's own.
-/
import Derived.Test.YtpoigngpdcmipaaNc8
import Derived.Test.YtpoigngpdcmipaaNc5
import Derived.WalkMore
import Derived.Test.YtpoigngpdcmipaaNc2
import Derived.OrdersIn
import Derived.Sort.CutIn

/-
  All of layer 34 where a network was made: slices.Clone at items, All. Conditions are each theorem's own.
-/
namespace Go.Proofs.Ytpoigngpdcmipaa
open Go.RowKit Go.Shelf
set_option maxRecDepth 100000 in
/-- append onto a row of items of the call's own, of a source that reads as items. -/
theorem append_itL {w : World} {ops : Array Oper} {rest : List Oper} {o : Oper} {a : Act} {Q : Exit → Act → World → Prop} (hgd : o.guard = none) (s x : Operand)
    (ho : o.op = .call { callee := .builtin .append, args := #[s, x], argTypes := #[55, 55] })
    (base : Nat) (v : Value) (n : Nat) (xs : List Value) (hs : a.eval s = v) (hown : w.ownsRow base 33 3 v n xs)
    (B : Nat) (ad : Addr) (m c : Nat) (l : List IT) (hx : a.eval x = .slice (some ad) m c) (hm : m = l.length) (hr : RdS clI 3 w B (some ad) l)
    (hlen : n + m ≤ 1000000) (hbase : base ≤ w.heap.size)
    (h : ∀ v' w', w'.ownsRow base 33 3 v' (n + m) (xs ++ l.flatMap clI) → w.grownBy w' v.ownBlock → wpList Try.prog ops Q rest (a.put o.dst v') w') : wpList Try.prog ops Q (o :: rest) a w := by
  obtain ⟨i0, hi, hz0, hz1, hz2⟩ := info_parts info_itC
  subst hm
  refine wpList_append_own w hgd s x 55 ho base 33 i0 (.agg #[.int .i64 0, .bool false, .slice none 0 0]) 3 40 Try.underlying55 hi hz0 hz1 hz2 rfl (by decide) v n xs hs hown ad l.length c (l.flatMap clI) hx
    (clI_flat l) (rds_srcI hr) (ones_I l) (by unfold maxLen; omega) (by omega) hbase (fun v' w' h1 h2 _ => h v' w' h1 h2)
set_option maxRecDepth 100000 in
theorem ntcloneS (A : Option Addr) (n c B : Nat) (L : List IT) (w : World) (hn : n = L.length) (hn1 : n ≤ 100000) (hA : A = none → c = 0) (hr : RdS clI 3 w B A L) (hB : B ≤ w.heap.size) :
    Calls Try.prog 23 #[.slice A n c] w fun e w' => ∃ A' c', e = .returned (.slice A' n c') ∧ w'.ownsRow w.heap.size 33 3 (.slice A' n c') n (L.flatMap clI) ∧ Below w.heap.size w w' := by
  have q71 : ∀ (w : World) (a : Option Addr) (n c n' c' : Nat), (binOp .eql 55 (.slice a n c) (.slice none n' c')).run Try.prog w = .ok (.bool a.isNone) w := fun w a n c n' c' => Lib.run_eql_slice_nil w _ _ a n c n' c' Try.underlying55
  rcases A with _ | ad
  · have h0 : L = [] := by
      rcases Nat.eq_zero_or_pos L.length with e | e
      · exact List.eq_nil_of_length_eq_zero e
      · obtain ⟨_, _, e', _⟩ := hr e; cases e'
    subst h0
    obtain rfl := hA rfl
    obtain rfl : n = 0 := hn
    clear hr
    go_enter Try.func23, Try.ntmps23
    go_wp2
    go_ret
    exact ⟨none, 0, rfl, World.ownsRow_nil _ _ _ _, Below.refl _ _⟩
  · have HN := Lib.hid hn
    have HR := Lib.hid hr
    clear hn hr hA
    go_enter Try.func23, Try.ntmps23
    go_wp2_with (at_builtin; refine append_itL rfl _ _ rfl w.heap.size _ _ _ rfl (World.ownsRow_made w #[] 0 (Nat.le_refl _) (Nat.zero_le _) rfl) B ad n c L rfl HN.out (HR.out.below ((Below.refl _ w).alloc hB _)) (by omega) (by simp) ?_; intro v' w' hown hgrow; rw [Nat.zero_add, List.nil_append] at hown; obtain ⟨A', c', rfl⟩ := own_slice hown)
    go_ret
    exact ⟨A', c', rfl, hown, ((Below.refl _ w).alloc (Nat.le_refl _) _).grown hgrow (by simp) (fun k hk => own_block_ge (World.ownsRow_made (e := 33) (size := 3) w #[] 0 (Nat.le_refl _) (Nat.zero_le _) rfl) k hk)⟩
theorem own_noneN {w : World} {base e s n c m : Nat} {A : Option Addr} {xs : List Value} (h : w.ownsRow base e s (.slice A m c) n xs) : A = none → c = 0 := by
  intro hA
  subst hA
  rcases h.2 with ⟨e1, _⟩ | ⟨g, cap, cur, e1, _⟩
  · injection e1
  · injection e1 with e2; cases e2
theorem ntall {w : World} {B0 g : Nat} {v : Value} {room : Int} {L : List IT} (h : Nt w B0 g v room L) :
    Calls Try.prog 17 #[.pointer (some ⟨g, 0, none⟩)] w fun e w' => ∃ B A c, e = .returned (.func (.func 24) #[] #[.pointer (some ⟨B, 0, none⟩)]) ∧ Boxed w' B 55 (.slice A L.length c) ∧ Row34 33 w' 0 (.slice A L.length c) L ∧ w.heap.size ≤ B ∧ Below w.heap.size w w' := by
  obtain ⟨V, hV⟩ : ∃ V, V = w.alloc (.cells #[.slice none 0 0] 55) := ⟨_, rfl⟩
  have bV : Below w.heap.size w V := by rw [hV]; exact (Below.refl _ w).alloc (Nat.le_refl _) _
  have hxV : Boxed V w.heap.size 55 (.slice none 0 0) := by rw [hV]; exact Boxed.new w _ _
  have hV2 := h.below bV
  obtain ⟨A, c, rfl, hrd, hcp⟩ := hV2.row.shape
  have HM := Lib.hid (ntmade hV2)
  have HV := Lib.hid hV
  have hlen : L.length ≤ 100000 := by have := h.n; have := h.m; omega
  have hnone : A = none → c = 0 := own_noneN hV2.row.r
  have HC := Lib.hid (ntcloneS A L.length c V.heap.size L V rfl hlen hnone hrd (Nat.le_refl _))
  have k2 : V.cell? ⟨g, 2, none⟩ = some (.slice A L.length c) := cells_at (i := 2) hV2.ob rfl
  have HR := Lib.hid hV2.row
  have HX := Lib.hid hxV
  clear hV hV2 hrd hcp hnone hlen h hxV
  go_enter Try.func17, Try.ntmps17
  go_upto_region 2 with fail
  rw [← HV.out]
  go_wp2_with (first
    | (go_at_call 22; (with_reducible refine HM.out.mono ?_); rintro e w1 ⟨rfl, rfl⟩)
    | (go_at_call 23; (with_reducible refine HC.out.mono ?_); rintro e w2 ⟨A2, c2, rfl, o2, x2⟩; have O2 := Lib.hid o2; have X2 := Lib.hid x2; have hx2 := Boxed.below HX.out x2 (Boxed.lt HX.out); have HX2 := Lib.hid hx2; have kx := Boxed.cell hx2; have fx := Boxed.frozen hx2; clear o2 x2 hx2))
  go_ret
  have hR : Row34 33 w2 0 (.slice A2 L.length c2) L := ⟨own_base O2.out (Nat.zero_le _), fun y hy => own_base (own_below (HR.out.o y hy) X2.out) (Nat.zero_le _)⟩
  have aw : AwayT w2 (fun i => i = w.heap.size) (fun t => t = 55) := fun k hk cs ty fr hg => by
    subst hk
    have h1 : w2.heap[w.heap.size]? = some (.cells #[.slice none 0 0] 55 (0, 0)) := HX2.out
    rw [hg] at h1
    injection h1 with h1
    injection h1 with _ e _
  exact ⟨_, A2, c2, rfl, Boxed.set _ HX2.out, hR.kept (Kept.setCell w2 w.heap.size 0 (.slice A2 L.length c2)) aw (nat_ne (by kernel_rfl)) (nat_ne (by kernel_rfl)), Nat.le_refl _, (bV.trans (X2.out.mono bV.size)).setCell (p := ⟨w.heap.size, 0, none⟩) (by simp) _⟩
end Go.Proofs.Ytpoigngpdcmipaa

/-
  The iterator that All of layer 34 hands out: each item, with bytes of its own. Conditions are each theorem's own.
-/
namespace Go.Proofs.Ytpoigngpdcmipaa
open Go.RowKit Go.Shelf
attribute [local go_sem] Oper.semAt_some
def encY (y : IT) : Array Value := #[.agg (clI y).toArray]
/-- What is known of an item when it comes. -/
def GY (L : List PI34) (pre : List IT) (y : IT) (X : World) : Prop := (∃ more, L = pre.map (·.x) ++ y.x :: more) ∧ Arg X X.heap.size y.A y.c y.x.b
theorem Row34.keepS {e : TypeId} {X Y : World} {base : Nat} {v : Value} {l : List IT} (h : Row34 e X base v l) (k : KeepS 3 3 0 X Y) (he : e ≠ 3) : Row34 e Y base v l :=
  ⟨KeepS.own h.r k he he, fun y hy => KeepS.own (h.o y hy) k (nat_ne (by kernel_rfl)) (nat_ne (by kernel_rfl))⟩
theorem run_load_nisA {o : Oper} {a : Act} {w : World} {x : Operand} {g i : Nat} {cs : List Value} (ho : o.op = .load 33 x) (hx : a.eval x = .pointer (some ⟨g, i, none⟩)) (hr : w.rangeAt g i cs) (hl : cs.length = 3) :
    (execOp a.eval o).run Try.prog w = .ok (.value (.agg cs.toArray)) w := by
  have h := run_loadVar_mid (P := Try.prog) w g i 33 cs _ hr Try.underlying33 rfl (by rw [hl]; kernel_rfl)
  unfold execOp
  simp only [ho, hx, Instr.loadAt, Instr.sureAddr, Sem.run_bind, Sem.run_pure, Result.andThen_ok, h]
set_option maxRecDepth 100000 in
set_option maxHeartbeats 4000000 in
theorem ntall1_in (m : Nat) (hm : 1 ≤ m) (l t c : Nat) (A : Option Addr) (L : List IT) (J Jx : List IT → World → Prop) (W : World) (hJA0 : AbidesFrom W.heap.size J)
    (hY : ∀ pre y X, J pre X → GY (L.map (·.x)) pre y X → YieldAt Fence.wide (m - 1) Try.prog l (encY y) X fun e Y =>
      (e = .returned (.bool true) ∧ J (pre ++ [y]) Y ∧ KeepS 3 3 0 X Y) ∨ (e = .returned (.bool false) ∧ Jx (pre ++ [y]) Y))
    (hbox0 : Boxed W t 55 (.slice A L.length c)) (hr0 : Row34 33 W 0 (.slice A L.length c) L) (hn1 : L.length ≤ 100000) (hlb : ∀ y ∈ L, y.x.b.length ≤ 1000000) (hJ : J [] W) :
    CallsIn Fence.wide m Try.prog 24 #[.func (.yield l) #[] #[], .pointer (some ⟨t, 0, none⟩)] W fun e W' => (∃ v, e = .returned v) ∧
      ((∃ xs, xs.map (·.x) = L.map (·.x) ∧ J xs W') ∨ (∃ pre, Jx pre W')) := by
  have hJA := hJA0
  obtain ⟨n, hn⟩ : ∃ n, n = L.length := ⟨_, rfl⟩
  rw [← hn] at hbox0 hr0 hn1
  have HN := Lib.hid hn
  have HO := Lib.hid hr0
  have HB := Lib.hid hbox0
  have HLB := Lib.hid hlb
  obtain ⟨T, hT⟩ : ∃ T, T = L.map (·.x) := ⟨_, rfl⟩
  rw [← hT] at hY ⊢
  have HT := Lib.hid hT
  clear hJA0 hn hr0 hT hlb
  have hbc := hbox0.cell
  refine callsIn_of_wp Try.func24 rfl trivial ?_ rfl
  simp only [Try.ntmps24, List.size_toArray, List.length_cons, List.length_nil, Nat.reduceAdd, Nat.reduceSub, Array.replicate_succ, Array.replicate_zero, List.push_toArray, List.append_toArray, List.nil_append, List.cons_append]
  gi_wp2
  gi_loopw [7] (fun i wr => ∃ (k : Nat) (pre : List IT), k ≤ n ∧ i = .int .i64 (k : Int) ∧ Hid (pre.map (·.x) = T.take k) ∧ J pre wr ∧ KeepS 3 3 0 W wr)
    (fun i _ => n - (intOf i).toNat)
  case atStart => exact ⟨0, [], Nat.zero_le _, rfl, Lib.hid rfl, hJ, KeepS.refl _⟩
  case round =>
    obtain ⟨k, pre, hk, rfl, HP, hJs, hKW⟩ := hrel
    by_cases hlt : k < n
    · obtain ⟨x, hx⟩ : ∃ x, L[k]? = some x := ⟨_, List.getElem?_eq_getElem (by rw [← HN.out]; exact hlt)⟩
      have hrow := HO.out.keepS hKW (nat_ne (by kernel_rfl))
      rw [HN.out] at hrow
      obtain ⟨b1, o1, c1, e1, hrng, hb1⟩ := hrow.at_ hx
      injection e1 with e1 _ ec
      subst e1
      subst ec
      obtain ⟨V, hV⟩ : ∃ V, V = wr.alloc (.cells (clI x).toArray 33) := ⟨_, rfl⟩
      have HV := Lib.hid hV
      have bV : Below wr.heap.size wr V := by rw [hV]; exact (Below.refl _ wr).alloc (Nat.le_refl _) _
      have hbV : V.heap[wr.heap.size]? = some (.cells (clI x).toArray 33 (0, 0)) := by rw [hV]; exact World.alloc_heap_new wr _
      have hax := (arg_own (hrow.o x (List.mem_of_getElem? hx))).below bV
      have HC := Lib.hid (ntclone x V.heap.size V (hax.more bV.size) (Nat.le_refl _) (HLB.out x (List.mem_of_getElem? hx)))
      have HX := Lib.hid hx
      have HBV := Lib.hid hbV
      have HRG := Lib.hid hrng
      clear hV hx hrow hax hbV hrng
      gi_upto_region 2 with fail
      refine wpIn_wide.2 ?_
      go_wp2_with (first
        | ((with_reducible show wpList _ _ _ (Oper.mk _ (Op.load 33 _) _ _ _ _ :: _) _ _); refine wpList_val rfl (run_load_nisA rfl rfl HRG.out rfl) ?_)
        | ((with_reducible show wpList _ _ _ (Oper.mk _ (Op.store 33 _ _) _ _ _ _ :: _) _ _); refine nis_store_new (cs := (clI x).toArray) rfl rfl rfl rfl (clI_all _) ?_; rw [← HV.out]))
      have hJV := hJA pre wr V none hJs (grown_none bV) (fun r e => by cases e)
      have HT1 : Hid (T[k]? = some x.x) := Lib.hid (by rw [HT.out, List.getElem?_map, HX.out]; rfl)
      have HTK : Hid (∃ more, T = pre.map (·.x) ++ x.x :: more) := Lib.hid ⟨(T.drop (k + 1)), by
        have h1 : T[k]? = some x.x := by rw [HT.out, List.getElem?_map, HX.out]; rfl
        obtain ⟨hk1, hk2⟩ := List.getElem?_eq_some_iff.1 h1
        rw [HP.out, ← hk2, ← List.drop_eq_getElem_cons hk1, List.take_append_drop]⟩
      gi_wp2_with (first
        | ((with_reducible show wpListIn _ _ _ _ _ (Oper.mk _ (Op.load 33 _) _ _ _ _ :: _) _ _); refine listW_val rfl (fun c h => by cases h) (run_load_nis rfl rfl (range_heap HBV.out) rfl) ?_)
        | (refine ⟨trivial, ?_⟩; gi_at_call 19; refine (callsIn_wide.2 HC.out).mono ?_; rintro e w5 ⟨P, p, rfl, o5, x5⟩; obtain ⟨fn, tmps, assign, body, hy, hR⟩ := hY pre ⟨x.x, P, p⟩ w5 (hJA pre V w5 none hJV (grown_none x5) (fun r e => by cases e)) ⟨HTK.out, arg_own o5⟩; dsimp only [encY] at hy; have X5 := Lib.hid x5; clear o5 x5))
      refine hR.mono ?_
      rintro e W3 (⟨rfl, hJ3, hk3⟩ | ⟨rfl, hJx3⟩)
      · clear hy hR
        gi_wp2
        go_roundw
        case rel => exact ⟨k + 1, pre ++ [⟨x.x, P, p⟩], by omega, by simp, Lib.hid (by rw [List.map_append, HP.out, List.take_add_one, HT1.out]; rfl), hJ3, (hKW.trans (KeepS.of_below (bV.trans (X5.out.mono bV.size)))).trans hk3⟩
        case measure => simp [intOf]; omega
      · clear hy hR
        gi_wp2
        refine bodyPost_ret (results_none rfl _ _ _) rfl ?_
        exact ⟨⟨_, rfl⟩, .inr ⟨_, hJx3⟩⟩
    · obtain rfl : n = k := by omega
      gi_wp2
      try rw [Exit.noGoto_normal]
      go_end0
      exact ⟨⟨_, rfl⟩, .inl ⟨pre, by rw [HP.out, List.take_of_length_le (by rw [HT.out, List.length_map, ← HN.out]; exact Nat.le_refl _), HT.out], hJs⟩⟩
/-- What the iterator promises. -/
def SeqY (L : List PI34) (m B : Nat) (w : World) : Prop := SeqTold m Try.prog 24 #[.pointer (some ⟨B, 0, none⟩)] encY (GY L) (KeepS 3 3 0) (fun xs => xs.map (·.x) = L) (fun _ => True) w
theorem ntall1_seq (m : Nat) (hm : 1 ≤ m) (t c : Nat) (A : Option Addr) (L : List IT) (w : World) (hb : Boxed w t 55 (.slice A L.length c)) (hr : Row34 33 w 0 (.slice A L.length c) L) (hn1 : L.length ≤ 100000) (hlb : ∀ y ∈ L, y.x.b.length ≤ 1000000) : SeqY (L.map (·.x)) m t w := by
  intro l J Jx W hW hJ _ hY hJ0
  refine (ntall1_in m hm l t c A L J Jx W hJ hY (Boxed.below hb hW (Boxed.lt hb)) (hr.below hW) hn1 hlb hJ0).mono ?_
  rintro e Y ⟨hv, ⟨xs, h1, h2⟩ | ⟨pre, h2⟩⟩
  · exact ⟨hv, .inl ⟨xs, h1, h2⟩⟩
  · exact ⟨hv, .inr ⟨pre, trivial, h2⟩⟩
end Go.Proofs.Ytpoigngpdcmipaa

/-
  Layer 34: both sides over a list of items: Look, Take, Put, Len, whatever comes. Conditions are each theorem's own.
-/
namespace Go.Proofs.Ytpoigngpdcmipaa
open Go.RowKit Go.Shelf
def lkI (a : Int) (M : List PI34) : PI34 := M.getD (plN a M.length) ⟨0, false, []⟩
def okI (M : List PI34) : Bool := !M.isEmpty
def tkI (a : Int) (M : List PI34) : List PI34 := M.eraseIdx (plN a M.length)
def ptE (room : Int) (M : List PI34) (x : PI34) : Int := if x.n < 0 ∨ 64 ≤ x.n then 1 else if room ≤ (M.length : Int) then 7 else 0
def ptM (room : Int) (M : List PI34) (x : PI34) : List PI34 := if ptE room M x = 0 then M ++ [x] else M
/-- The code's side holds M; its row's block is one of N. -/
def CsN (N : Nat → Prop) (W : World) (g : Nat) (room : Int) (M : List PI34) : Prop := ∃ v L, Nt W g g v room L ∧ L.map (·.x) = M ∧ ∀ b, v.ownBlock = some b → N b
/-- The document's side. -/
def RsN (N : Nat → Prop) (W : World) (g : Nat) (room : Int) (M : List PI34) : Prop := ∃ v L, Nr W g g v room L ∧ L.map (·.x) = M ∧ ∀ b, v.ownBlock = some b → N b
theorem row34_lt {e : TypeId} {W : World} {base : Nat} {v : Value} {l : List IT} (h : Row34 e W base v l) : ∀ b, v.ownBlock = some b → b < W.heap.size := by
  intro b hb
  rcases h.r.2 with ⟨e1, _⟩ | ⟨g, cap, cur, e1, _, hh, _⟩
  · rw [e1] at hb; simp [Value.ownBlock] at hb
  · rw [e1] at hb
    simp [Value.ownBlock] at hb
    subst hb
    exact heap_lt hh
theorem okI_of {M : List PI34} (h : 0 < M.length) : okI M = true := by
  cases M with
  | nil => exact absurd h (by decide)
  | cons a l => rfl
theorem lkI_of {L : List IT} {a : Int} {y : IT} (hy : L[plN a L.length]? = some y) : lkI a (L.map (·.x)) = y.x := by
  unfold lkI
  rw [List.length_map, List.getD_eq_getElem?_getD, List.getElem?_map, hy]; rfl
theorem tkI_of (a : Int) (L : List IT) : (L.eraseIdx (plN a L.length)).map (·.x) = tkI a (L.map (·.x)) := by
  unfold tkI
  rw [List.length_map, List.eraseIdx_eq_take_drop_succ, List.eraseIdx_eq_take_drop_succ, List.map_append, List.map_take, List.map_drop]
section
variable {N : Nat → Prop} {W X : World} {g B : Nat} {room : Int} {M : List PI34}
theorem CsN.below (h : CsN N W g room M) (k : Below W.heap.size W X) : CsN N X g room M := by
  obtain ⟨v, L, h1, h2, h3⟩ := h; exact ⟨v, L, h1.below k, h2, h3⟩
theorem RsN.below (h : RsN N W g room M) (k : Below W.heap.size W X) : RsN N X g room M := by
  obtain ⟨v, L, h1, h2, h3⟩ := h; exact ⟨v, L, h1.below k, h2, h3⟩
theorem CsN.kept (h : CsN N W g room M) (k : Kept (NNb TNr B W) W X) : CsN N X g room M := by
  obtain ⟨v, L, h1, h2, h3⟩ := h; exact ⟨v, L, h1.kept k, h2, h3⟩
theorem RsN.kept (h : RsN N W g room M) (k : Kept (NNb TNc B W) W X) : RsN N X g room M := by
  obtain ⟨v, L, h1, h2, h3⟩ := h; exact ⟨v, L, h1.kept k, h2, h3⟩
theorem CsN.now (h : CsN N W g room M) : CsN (fun b => b < W.heap.size) W g room M := by
  obtain ⟨v, L, h1, h2, _⟩ := h; exact ⟨v, L, h1, h2, row34_lt h1.row⟩
theorem RsN.now (h : RsN N W g room M) : RsN (fun b => b < W.heap.size) W g room M := by
  obtain ⟨v, L, h1, h2, _⟩ := h; exact ⟨v, L, h1, h2, row34_lt h1.row⟩
theorem CsN.box {x : Nat} {cs : Array Value} {fr : Nat × Nat} (h : CsN N W g room M) (hx : W.heap[x]? = some (.cells cs 33 fr)) (hn : ¬ N x) (k : Kept (fun i => i = x) W X) : CsN N X g room M := by
  obtain ⟨v, L, h1, h2, h3⟩ := h; exact ⟨v, L, h1.boxI hx (fun e => hn (h3 x e)) k, h2, h3⟩
theorem Nr.boxI {w w' : World} {B0 : Nat} {v : Value} {L : List IT} {x : Nat} {cs : Array Value} {fr : Nat × Nat} (h : Nr w B0 g v room L) (hx : w.heap[x]? = some (.cells cs 38 fr)) (hne : v.ownBlock ≠ some x) (k : Kept (fun i => i = x) w w') : Nr w' B0 g v room L := by
  have hT : AwayT w (fun i => i = x) (fun ty => ty = 38) := fun j hj cs ty fr hjj => by
    subst hj
    rw [hx] at hjj
    injection hjj with hjj
    injection hjj with _ e _
    exact e.symm
  refine ⟨(k.block g (heap_lt h.ob) (fun e => ?_)).trans h.ob, ⟨own_keptB h.row.r k (fun i hi e => hne (by rw [hi, e])), fun z hz => own_keptA (h.row.o z hz) k hT (nat_ne (by kernel_rfl))⟩, h.gB, h.n, h.m⟩
  rw [← e, h.ob] at hx
  injection hx with hx
  injection hx with _ e _
  exact absurd e (nat_ne (by kernel_rfl))
theorem RsN.box {x : Nat} {cs : Array Value} {fr : Nat × Nat} (h : RsN N W g room M) (hx : W.heap[x]? = some (.cells cs 38 fr)) (hn : ¬ N x) (k : Kept (fun i => i = x) W X) : RsN N X g room M := by
  obtain ⟨v, L, h1, h2, h3⟩ := h; exact ⟨v, L, h1.boxI hx (fun e => hn (h3 x e)) k, h2, h3⟩
theorem cs_len (h : CsN N W g room M) : Calls Try.prog 16 #[.pointer (some ⟨g, 0, none⟩)] W fun e w' => e = .returned (.int .i64 (M.length : Int)) ∧ W = w' := by
  obtain ⟨v, L, h1, rfl, _⟩ := h
  rw [List.length_map]; exact ntlen h1
theorem cs_look (h : CsN N W g room M) (hs : ∀ x ∈ M, x.b.length ≤ 2000) (a : Int) : Calls Try.prog 9 #[.pointer (some ⟨g, 0, none⟩), .int .i64 a] W fun e w' =>
    ∃ P p, Hid (e = .returned (.tuple #[.agg (clI ⟨lkI a M, P, p⟩).toArray, .bool (okI M)])) ∧ OwnI w' 0 ⟨lkI a M, P, p⟩ ∧ Below W.heap.size W w' := by
  obtain ⟨v, L, h1, rfl, _⟩ := h
  rcases Nat.eq_zero_or_pos L.length with h0 | hp
  · obtain rfl := List.eq_nil_of_length_eq_zero h0
    refine (ntlook_none h1 h0 a).mono ?_
    rintro e w' ⟨rfl, hb⟩
    exact ⟨none, 0, Lib.hid rfl, World.ownsRow_nil _ _ _ _, hb⟩
  · obtain ⟨y, hy⟩ : ∃ y, L[plN a L.length]? = some y := ⟨_, List.getElem?_eq_getElem (plN_eq a hp).2.1⟩
    refine (ntlook h1 hp a hy (Nat.le_trans (hs y.x (List.mem_map.2 ⟨y, List.mem_of_getElem? hy, rfl⟩)) (by decide))).mono ?_
    rintro e w' ⟨P, p, he, ho, hb⟩
    rw [lkI_of hy, okI_of (by rw [List.length_map]; exact hp)]
    exact ⟨P, p, he, own_base ho (Nat.zero_le _), hb⟩
theorem rs_look (h : RsN N W g room M) (a : Int) : Calls Try.prog 10 #[.pointer (some ⟨g, 0, none⟩), .int .i64 a] W fun e w' =>
    ∃ P p, Hid (e = .returned (.tuple #[.agg (clI ⟨lkI a M, P, p⟩).toArray, .bool (okI M)])) ∧ OwnI w' 0 ⟨lkI a M, P, p⟩ ∧ Below W.heap.size W w' := by
  obtain ⟨v, L, h1, rfl, _⟩ := h
  rcases Nat.eq_zero_or_pos L.length with h0 | hp
  · obtain rfl := List.eq_nil_of_length_eq_zero h0
    refine (nrlook_none h1 h0 a).mono ?_
    rintro e w' ⟨rfl, hb⟩
    exact ⟨none, 0, Lib.hid rfl, World.ownsRow_nil _ _ _ _, hb⟩
  · obtain ⟨y, hy⟩ : ∃ y, L[plN a L.length]? = some y := ⟨_, List.getElem?_eq_getElem (plN_eq a hp).2.1⟩
    refine (nrlook h1 hp a hy).mono ?_
    rintro e w' ⟨he, hb⟩
    rw [lkI_of hy, okI_of (by rw [List.length_map]; exact hp)]
    exact ⟨y.A, y.c, he, own_base (own_below (h1.row.o y (List.mem_of_getElem? hy)) hb) (Nat.zero_le _), hb⟩
theorem cs_take {K : Nat} (h : CsN (fun b => b < K) W g room M) (hg : g < K) (hs : ∀ x ∈ M, x.b.length ≤ 2000) (a : Int) : Calls Try.prog 12 #[.pointer (some ⟨g, 0, none⟩), .int .i64 a] W fun e w' =>
    ∃ P p, Hid (e = .returned (.tuple #[.agg (clI ⟨lkI a M, P, p⟩).toArray, .bool (okI M)])) ∧ OwnI w' 0 ⟨lkI a M, P, p⟩ ∧ CsN (fun b => b < K) w' g room (tkI a M) ∧ Kept (fun i => i < K ∧ NNb TNc g W i) W w' := by
  obtain ⟨v, L, h1, rfl, h3⟩ := h
  rcases Nat.eq_zero_or_pos L.length with h0 | hp
  · obtain rfl := List.eq_nil_of_length_eq_zero h0
    refine (nttake_none h1 h0 a).mono ?_
    rintro e w' ⟨rfl, hb⟩
    exact ⟨none, 0, Lib.hid rfl, World.ownsRow_nil _ _ _ _, ⟨v, [], h1.below hb, rfl, h3⟩, Kept.of_below hb⟩
  · obtain ⟨y, hy⟩ : ∃ y, L[plN a L.length]? = some y := ⟨_, List.getElem?_eq_getElem (plN_eq a hp).2.1⟩
    refine (nttakeX h1 hp a hy (Nat.le_trans (hs y.x (List.mem_map.2 ⟨y, List.mem_of_getElem? hy, rfl⟩)) (by decide))).mono ?_
    rintro e w' ⟨P, p, he, ho, ⟨v', n1, hv⟩, k⟩
    rw [lkI_of hy, okI_of (by rw [List.length_map]; exact hp), ← tkI_of]
    refine ⟨P, p, he, own_base ho (Nat.zero_le _), ⟨v', _, n1, rfl, fun b e => h3 b (by rw [← hv]; exact e)⟩, k.mono (fun i _ hi => ⟨?_, hi.1⟩)⟩
    rcases hi.2 with e | e
    · rw [e]; exact hg
    · exact h3 i e
theorem rs_take (h : RsN N W g room M) (a : Int) : Calls Try.prog 13 #[.pointer (some ⟨g, 0, none⟩), .int .i64 a] W fun e w' =>
    ∃ P p, Hid (e = .returned (.tuple #[.agg (clI ⟨lkI a M, P, p⟩).toArray, .bool (okI M)])) ∧ OwnI w' 0 ⟨lkI a M, P, p⟩ ∧ RsN (fun b => N b ∨ W.heap.size ≤ b) w' g room (tkI a M) ∧ Kept (fun i => i = g) W w' := by
  obtain ⟨v, L, h1, rfl, h3⟩ := h
  rcases Nat.eq_zero_or_pos L.length with h0 | hp
  · obtain rfl := List.eq_nil_of_length_eq_zero h0
    refine (nrtake_none h1 h0 a).mono ?_
    rintro e w' ⟨rfl, hb⟩
    exact ⟨none, 0, Lib.hid rfl, World.ownsRow_nil _ _ _ _, ⟨v, [], h1.below hb, rfl, fun b e => .inl (h3 b e)⟩, Kept.of_below hb⟩
  · obtain ⟨y, hy⟩ : ∃ y, L[plN a L.length]? = some y := ⟨_, List.getElem?_eq_getElem (plN_eq a hp).2.1⟩
    refine (nrtakeX h1 hp a hy).mono ?_
    rintro e w' ⟨he, ⟨v', n1, hv⟩, k⟩
    rw [lkI_of hy, okI_of (by rw [List.length_map]; exact hp), ← tkI_of]
    have hT : AwayT W (fun i => i = g) (fun ty => ty = 47) := fun j hj cs ty fr hjj => by
      subst hj
      rw [h1.ob] at hjj
      injection hjj with hjj
      injection hjj with _ e _
      exact e.symm
    exact ⟨y.A, y.c, he, own_base (own_keptA (h1.row.o y (List.mem_of_getElem? hy)) k hT (nat_ne (by kernel_rfl))) (Nat.zero_le _), ⟨v', _, n1, rfl, fun b e => .inr (hv b e)⟩, k⟩
theorem cs_put (h : CsN N W g room M) (y : IT) (hA : Arg W W.heap.size y.A y.c y.x.b) (hl : y.x.b.length ≤ 2000) : Calls Try.prog 14 #[.pointer (some ⟨g, 0, none⟩), .agg (clI y).toArray] W fun e w' =>
    e = .returned (.int .i64 (ptE room M y.x)) ∧ CsN (fun _ => True) w' g room (ptM room M y.x) ∧ Kept (NNb TNc g W) W w' := by
  obtain ⟨v, L, h1, rfl, h3⟩ := h
  by_cases hn : y.x.n < 0 ∨ 64 ≤ y.x.n
  · have e1 : ptE room (L.map (·.x)) y.x = 1 := by unfold ptE; rw [if_pos hn]
    have e2 : ptM room (L.map (·.x)) y.x = L.map (·.x) := by unfold ptM; rw [e1]; rfl
    rw [e1, e2]
    refine (ntput_arg h1 y hn).mono ?_
    rintro e w' ⟨rfl, hb⟩
    exact ⟨rfl, ⟨v, L, h1.below hb, rfl, fun _ _ => trivial⟩, Kept.of_below hb⟩
  · have hy : 0 ≤ y.x.n ∧ y.x.n < 64 := by omega
    by_cases hr : room ≤ (L.length : Int)
    · have e1 : ptE room (L.map (·.x)) y.x = 7 := by unfold ptE; rw [if_neg hn, List.length_map, if_pos hr]
      have e2 : ptM room (L.map (·.x)) y.x = L.map (·.x) := by unfold ptM; rw [e1]; rfl
      rw [e1, e2]
      refine (ntput_full h1 y hy (by omega) hr).mono ?_
      rintro e w' ⟨rfl, hb⟩
      exact ⟨rfl, ⟨v, L, h1.below hb, rfl, fun _ _ => trivial⟩, Kept.of_below hb⟩
    · have e1 : ptE room (L.map (·.x)) y.x = 0 := by unfold ptE; rw [if_neg hn, List.length_map, if_neg hr]
      have e2 : ptM room (L.map (·.x)) y.x = L.map (·.x) ++ [y.x] := by unfold ptM; rw [e1]; rfl
      rw [e1, e2]
      refine (ntput h1 y hA hy (by omega) (by omega)).mono ?_
      rintro e w' ⟨rfl, v', P, p, n1, k⟩
      exact ⟨rfl, ⟨v', _, n1, by rw [List.map_append]; rfl, fun _ _ => trivial⟩, k⟩
theorem rs_put (h : RsN N W g room M) (y : IT) (hA : Arg W W.heap.size y.A y.c y.x.b) (hl : y.x.b.length ≤ 2000) : Calls Try.prog 15 #[.pointer (some ⟨g, 0, none⟩), .agg (clI y).toArray] W fun e w' =>
    e = .returned (.int .i64 (ptE room M y.x)) ∧ RsN (fun _ => True) w' g room (ptM room M y.x) ∧ Kept (NNb TNr g W) W w' := by
  obtain ⟨v, L, h1, rfl, h3⟩ := h
  by_cases hn : y.x.n < 0 ∨ 64 ≤ y.x.n
  · have e1 : ptE room (L.map (·.x)) y.x = 1 := by unfold ptE; rw [if_pos hn]
    have e2 : ptM room (L.map (·.x)) y.x = L.map (·.x) := by unfold ptM; rw [e1]; rfl
    rw [e1, e2]
    refine (nrput_arg y g W hn).mono ?_
    rintro e w' ⟨rfl, hb⟩
    exact ⟨rfl, ⟨v, L, h1.below hb, rfl, fun _ _ => trivial⟩, Kept.of_below hb⟩
  · have hy : 0 ≤ y.x.n ∧ y.x.n < 64 := by omega
    by_cases hr : room ≤ (L.length : Int)
    · have e1 : ptE room (L.map (·.x)) y.x = 7 := by unfold ptE; rw [if_neg hn, List.length_map, if_pos hr]
      have e2 : ptM room (L.map (·.x)) y.x = L.map (·.x) := by unfold ptM; rw [e1]; rfl
      rw [e1, e2]
      refine (nrput_full h1 y hy (by omega) hr).mono ?_
      rintro e w' ⟨rfl, hb⟩
      exact ⟨rfl, ⟨v, L, h1.below hb, rfl, fun _ _ => trivial⟩, Kept.of_below hb⟩
    · have e1 : ptE room (L.map (·.x)) y.x = 0 := by unfold ptE; rw [if_neg hn, List.length_map, if_neg hr]
      have e2 : ptM room (L.map (·.x)) y.x = L.map (·.x) ++ [y.x] := by unfold ptM; rw [e1]; rfl
      rw [e1, e2]
      refine (nrput h1 y hA hy (by omega) (by omega)).mono ?_
      rintro e w' ⟨rfl, v', P, p, n1, k⟩
      exact ⟨rfl, ⟨v', _, n1, by rw [List.map_append]; rfl, fun _ _ => trivial⟩, k⟩
end
/-- Items that are no longer than the statement lets them be, and not too many. -/
def SmI (M : List PI34) : Prop := ∀ x ∈ M, x.b.length ≤ 2000
theorem SmI.tk {M : List PI34} (h : SmI M) (a : Int) : SmI (tkI a M) := fun x hx => h x (List.mem_of_mem_eraseIdx hx)
theorem SmI.pt {M : List PI34} (h : SmI M) (room : Int) {x : PI34} (hx : x.b.length ≤ 2000) : SmI (ptM room M x) := by
  unfold ptM
  split
  · intro z hz
    rcases List.mem_append.1 hz with h1 | h1
    · exact h z h1
    · rw [List.mem_singleton.1 h1]; exact hx
  · exact h
/-- The law's own boxes. -/
structure BxL (w : World) (b7 : Nat) (p7 : Value) (X : World) : Prop where
  res : Boxed X w.heap.size 4 (.bool false)
  ref : Boxed X b7 28 p7
  bel : Below w.heap.size w X
  lt : w.heap.size < b7
section
variable {w X Y : World} {b7 B : Nat} {p7 : Value} {S : Nat → Prop}
theorem BxL.below (h : BxL w b7 p7 X) (k : Below X.heap.size X Y) : BxL w b7 p7 Y :=
  ⟨Boxed.below h.res k (Boxed.lt h.res), Boxed.below h.ref k (Boxed.lt h.ref), h.bel.trans (k.mono h.bel.size), h.lt⟩
theorem BxL.kept (h : BxL w b7 p7 X) (k : Kept S X Y) (hS : ∀ i, S i → w.heap.size < i ∧ i ≠ b7) : BxL w b7 p7 Y :=
  ⟨(k.block _ (heap_lt h.res) (fun e => by have := (hS _ e).1; omega)).trans h.res, (k.block _ (heap_lt h.ref) (fun e => (hS _ e).2 rfl)).trans h.ref,
   ⟨k.os.trans h.bel.os, k.tape.trans h.bel.tape, k.output.trans h.bel.output, Nat.le_trans h.bel.size k.size, fun i hi => (k.block i (Nat.lt_of_lt_of_le hi h.bel.size) (fun e => by have := (hS _ e).1; omega)).trans (h.bel.block i hi)⟩, h.lt⟩
theorem BxL.no {T : TypeId → Prop} (h : BxL w b7 p7 X) (hB : w.heap.size < B) (hT : ¬ T 28) : ∀ i, NNb T B X i → w.heap.size < i ∧ i ≠ b7 := fun i hi => ⟨Nat.lt_of_lt_of_le hB hi.1, fun e => by
  obtain ⟨_, cs, ty, fr, e1, e2⟩ := hi
  have h1 : X.heap[b7]? = some (.cells #[p7] 28 (0, 0)) := h.ref
  rw [e, h1] at e1
  injection e1 with e1
  injection e1 with _ e1 _
  rw [← e1] at e2
  exact hT e2⟩
end
theorem tn_ptr : ¬ TNc 28 ∧ ¬ TNr 28 := by
  refine ⟨?_, ?_⟩ <;> (rintro (h | h) <;> exact absurd h (nat_ne (by kernel_rfl)))
end Go.Proofs.Ytpoigngpdcmipaa

/-
  A range over an iterator whose round first lays its element in a box of its own; a region that draws its order within a round. Conditions are each theorem's own.
-/
namespace Go.Proofs.Ytpoigngpdcmipaa
open Go.RowKit Go.Shelf
theorem grown_noneA {w w' : World} (h : Below w.heap.size w w') : w.grownBy w' none := ⟨h.os, h.tape, h.output, h.size, fun k hk _ => h.block k hk⟩
section
variable {l n : Nat} {P : Program} {ops : Array Oper} {Q : Exit → Act → World → Prop} {md : Region.Mode}
/-- No operation is a defer statement. -/
def noDeferA (ops : Array Oper) : Bool := ops.all fun o => match o.op with | .defer _ => false | _ => true
theorem noDefer_atA {i : Nat} {o : Oper} (h : noDeferA ops = true) (hi : ops[i]? = some o) : ∀ c, o.op ≠ .defer c := by
  intro c e
  obtain ⟨hlt, rfl⟩ := Array.getElem?_eq_some_iff.1 hi
  have := Array.all_eq_true.1 h i hlt
  rw [e] at this; cases this
theorem oper_roundA {o : Oper} {a : Act} {w : World} {K : Act → World → Prop} (hd : ∀ c, o.op ≠ .defer c) (h : o.wp P a w K Q) : o.wpIn (Fence.wide.inRound l) n P a w K Q := by
  refine ⟨fun _ _ => trivial, ?_⟩
  rw [Fence.inRound_round, Oper.semAt_some l _ o hd]
  unfold Oper.wp at h
  generalize (execOp a.eval o).run P w = r at *
  cases r with
  | ok x w' =>
    cases x <;> simp only [Oper.upon, Oper.uponIn] at h ⊢ <;>
      first
        | exact h
        | exact ⟨fun e => absurd e (by simp [Fence.wide]), ((callsIn_wide (n := n - 1)).2 h).inRound l⟩
        | exact ⟨fun e => absurd e (by simp [Fence.wide]), fun c cs _ => by obtain ⟨v, w2, r, s⟩ := h c cs; exact ⟨v, w2, r, stepsIn_wide.2 s⟩⟩
        | exact h.elim
  | halt x w' => cases x <;> simp only [Oper.upon, Oper.uponIn] at h ⊢ <;> exact h
theorem op_roundA {i : Nat} {a : Act} {w : World} {K : Act → World → Prop} (hd : noDeferA ops = true) (hno : ¬ LetsOut Q) (h : wpOp P ops Q i K a w) : wpOpIn (Fence.wide.inRound l) n P ops Q i K a w := by
  unfold wpOp at h
  unfold wpOpIn
  split
  · rename_i e; simpa [e] using h
  · rename_i o e
    simp only [e] at h
    split
    · rename_i hw
      simp only [hw, if_true] at h
      rcases h with h | ⟨_, h⟩
      · exact oper_roundA (noDefer_atA hd e) h
      · exact absurd h hno
    · rename_i hw
      simp only [hw] at h
      exact ⟨fun _ _ => trivial, h⟩
theorem any_roundA (hd : noDeferA ops = true) (hno : ¬ LetsOut Q) : ∀ (fuel : Nat) (listed : Array Bool) (a : Act) (w : World), wpAny P md ops Q fuel listed a w → wpAnyIn (Fence.wide.inRound l) n P md ops Q fuel listed a w
  | 0, _, _, _, h => h
  | fuel + 1, _, _, _, h => ⟨h.1, fun i hi => wpOpIn_mono (fun a' w' h' => any_roundA hd hno fuel _ a' w' h') (op_roundA hd hno (h.2 i hi))⟩
theorem region_roundA {S : World → Prop} {id : Nat} {a : Act} {w : World} (hm : P.follows .mixedOrders = true) (hd : noDeferA ops = true) (hno : ¬ LetsOut Q) (hS : S w.drew)
    (h : S w.drew → wpAnyH P .any ops Q S ops.size (Array.replicate ops.size false) a w.drew) : (Code.region id ops true).wpIn (Fence.wide.inRound l) n P Q a w :=
  wpIn_region_any hm (any_roundA hd hno _ _ _ _ (wpAny_of_held _ _ _ _ (h hS)))
end
theorem range_toldA {α : Type} {n : Nat} {P : Program} {g : Operand} {ps : Array Tmp} {assign body : Code} {Q : Exit → Act → World → Prop} {a : Act} {w : World} (h1 : 1 ≤ n)
    {gf : Nat} {lb : Array Value} (hg : a.eval g = .func (.func gf) #[] lb) (eg : ∀ args w, (callFunc gf args).run P w = .ok (.enter gf args) w)
    {encs : α → Array Value} {G : List α → α → World → Prop} {Kp : World → World → Prop} {S Sp : List α → Prop} {w0 : World} (hseq : SeqTold (n - 1) P gf lb encs G Kp S Sp w0)
    (hKt : ∀ {A B C : World}, Kp A B → Kp B C → Kp A C) (hKb : ∀ (W : World) (l : Nat) (r r' : Loop), w.heap.size ≤ l → W.heap[l]? = some (.loop r) → Kp W (W.putObj l (.loop r')))
    (hb0 : Below w0.heap.size w0 w) (hps : ∀ x, (encs x).size = ps.size)
    (I : List α → World → Prop) (Ix : Code → List α → World → Prop) (hI : OwnFrom w.heap.size I) (hIx : ∀ c, OwnFrom w.heap.size (Ix c)) (h0 : I [] w) (A : List α → α → Act → World → Prop)
    (hKbel : ∀ X Y : World, Below X.heap.size X Y → Kp X Y)
    (hA : ∀ (pre : List α) (x : α) (c : Act) (W : World) (l : Nat) (r r' : Loop), A pre x c W → w.heap.size ≤ l → W.heap[l]? = some (.loop r) → A pre x c (W.putObj l (.loop r')))
    (hassign : ∀ (l : Nat) (pre : List α) (x : α) (W : World) (K : Act → World → Prop), I pre W → G pre x W → (∀ (c : Act) (Y : World), Below W.heap.size W Y → A pre x c Y → K c Y) →
      assign.wpIn (Fence.wide.inRound l) (n - 1 - 1) P (Exit.then K (fun _ _ _ => False)) { tmps := (ps.zip (encs x)).foldl (fun t (p, v) => t.setIfInBounds p v) a.tmps, defers := [] } W)
    (hbody : ∀ (l : Nat) (pre : List α) (x : α) (c : Act) (W : World), I pre W → A pre x c W → body.wpIn (Fence.wide.inRound l) (n - 1 - 1) P (ownPostG w.heap.size Kp I Ix (pre ++ [x]) W) c W)
    (hdone : ∀ (D : Nat) (xs : List α) (W : World), w.heap.size ≤ D → S xs → I xs W → W.heap[D]? = some (.deferred (some [])) → Q .normal { a with defers := { target := .collected D, args := #[] } :: a.defers } W)
    (hstop : ∀ (D : Nat) (c : Code) (pre : List α) (W : World), w.heap.size ≤ D → Sp pre → Ix c pre W → W.heap[D]? = some (.deferred (some [])) → c.wpIn Fence.wide n P Q { a with defers := { target := .collected D, args := #[] } :: a.defers } W) :
    (Code.rangeFunc g ps assign body).wpIn Fence.wide n P Q a w := by
  refine wpIn_rangeFunc fun fn _ => ?_
  have t1 := Two.first w (recd fn a ps assign body w.heap.size .ready none)
  have b1 : Below w0.heap.size w0 ((w.alloc (.deferred (some []))).alloc (.loop (recd fn a ps assign body w.heap.size .ready none))) := (hb0.alloc hb0.size _).alloc (by have := hb0.size; simp; omega) _
  have i1 : I [] ((w.alloc (.deferred (some []))).alloc (.loop (recd fn a ps assign body w.heap.size .ready none))) := hI.alloc _ (hI.alloc _ h0)
  have z1 : w.heap.size ≤ ((w.alloc (.deferred (some []))).alloc (.loop (recd fn a ps assign body w.heap.size .ready none))).heap.size := by simp; omega
  obtain ⟨W1, hW1⟩ : ∃ W1, W1 = (w.alloc (.deferred (some []))).alloc (.loop (recd fn a ps assign body w.heap.size .ready none)) := ⟨_, rfl⟩
  rw [← hW1] at t1 b1 i1 z1
  refine ⟨w.heap.size + 1, [{ target := .collected w.heap.size, args := #[] }], W1, { target := .fn (.func gf) lb, args := #[.func (.yield (w.heap.size + 1)) #[] #[]] }, W1, gf, #[.func (.yield (w.heap.size + 1)) #[] #[]] ++ lb, W1,
    ?_, ?_, fun _ _ => trivial, ?_, fun _ => h1, ?_⟩
  · rw [hW1]; exact run_enterLoop_outer fn a.tmps ps assign body
  · simp only [resolve, hg]; simp [go_sem]
  · simp [invoke, go_sem, eg]
  · refine (hseq (w.heap.size + 1) (fun pre W => I pre W ∧ Two W w.heap.size (recd fn a ps assign body w.heap.size .ready none))
      (fun pre W => ∃ c, Ix c pre W ∧ Two W w.heap.size (recd fn a ps assign body w.heap.size .done (some c))) _ b1 ?_ ?_ ?_ ⟨i1, t1⟩).mono ?_
    · rintro s A B row ⟨hi, ht⟩ hgr hr
      exact ⟨hI s A B row hi hgr fun r e => by obtain ⟨hB, o, ho, hw⟩ := hr r e; exact ⟨by omega, o, ho, Obj.not_cells_of_walk hw⟩, ht.abides hgr fun r e => (hr r e).2⟩
    · rintro s A B row ⟨c, hi, ht⟩ hgr hr
      exact ⟨c, hIx c s A B row hi hgr fun r e => by obtain ⟨hB, o, ho, hw⟩ := hr r e; exact ⟨by omega, o, ho, Obj.not_cells_of_walk hw⟩, ht.abides hgr fun r e => (hr r e).2⟩
    · rintro pre x X ⟨hi, ht⟩ hgx
      refine ⟨fn, _, assign, body, run_yield ht.rec_ (hps x), roundIn_of_wpIn trivial (hassign _ pre x X _ hi hgx (fun c X' hb hA' => ?_))⟩
      have ht' : Two X' w.heap.size (recd fn a ps assign body w.heap.size .ready none) := ht.abides (grown_noneA hb) (fun r e => by cases e)
      have hi' := hI pre X X' none hi (grown_noneA hb) (fun r e => by cases e)
      refine ⟨_, run_beginRound ht'.rec_ rfl, ?_⟩
      have hbu := ht'.turn (recd fn a ps assign body w.heap.size .busy none)
      exact wpIn_mono (hbody _ pre x c _ (hI.putObj _ hi' (by omega) ht'.rec_ rfl) (hA pre x c X' _ _ _ hA' (by omega) ht'.rec_))
        (fun e b Y hp => by
          have hk0 : Kp X (X'.putObj (w.heap.size + 1) (.loop (recd fn a ps assign body w.heap.size .busy none))) := hKt (hKbel _ _ hb) (hKb _ _ _ _ (by omega) ht'.rec_)
          exact round_end (P := P) (pre := pre ++ [x]) (Kp := Kp) (I := I) (Ix := Ix) hI hIx hKt hKb X hk0 hbu e b hp)
    · rintro e Y ⟨⟨v, rfl⟩, ⟨xs, hs, hi, ht⟩ | ⟨pre, hs, c, hi, ht⟩⟩
      · exact ⟨none, _, run_endLoop ht.rec_ (by simp [recd]), hdone _ xs _ (Nat.le_refl _) hs (hI.putObj _ hi (by omega) ht.rec_ rfl) (ht.turn _).calls⟩
      · exact ⟨some c, _, run_endLoop ht.rec_ (by simp [recd]), hstop _ c pre _ (Nat.le_refl _) hs ((hIx c).putObj _ hi (by omega) ht.rec_ rfl) (ht.turn _).calls⟩
end Go.Proofs.Ytpoigngpdcmipaa

/-
  Layer 34: what the law's range keeps; All, whatever comes. Conditions are each theorem's own.
-/
namespace Go.Proofs.Ytpoigngpdcmipaa
open Go.RowKit Go.Shelf
section
variable {N : Nat → Prop} {w W X Y : World} {g b7 : Nat} {room : Int} {M : List PI34} {p7 : Value}
theorem csn_any (h : CsN N W g room M) : CsN (fun _ => True) W g room M := by
  obtain ⟨v, L, h1, h2, _⟩ := h; exact ⟨v, L, h1, h2, fun _ _ => trivial⟩
theorem rsn_any (h : RsN N W g room M) : RsN (fun _ => True) W g room M := by
  obtain ⟨v, L, h1, h2, _⟩ := h; exact ⟨v, L, h1, h2, fun _ _ => trivial⟩
theorem CsN.len (h : CsN N W g room M) : M.length ≤ 4096 := by
  obtain ⟨v, L, h1, rfl, _⟩ := h
  have := h1.n; have := h1.m
  rw [List.length_map]; omega
theorem cs_all (h : CsN N W g room M) (hs : SmI M) : Calls Try.prog 17 #[.pointer (some ⟨g, 0, none⟩)] W fun e w' => ∃ B, e = .returned (.func (.func 24) #[] #[.pointer (some ⟨B, 0, none⟩)]) ∧ (∀ m, 1 ≤ m → SeqY M m B w') ∧ Below W.heap.size W w' := by
  have hl := h.len
  obtain ⟨v, L, h1, rfl, _⟩ := h
  rw [List.length_map] at hl
  refine (ntall h1).mono ?_
  rintro e w' ⟨B, A, c, rfl, hb, hr, _, hx⟩
  exact ⟨B, rfl, fun m hm => ntall1_seq m hm B c A L w' hb hr (by omega) (fun y hy => Nat.le_trans (hs y.x (List.mem_map.2 ⟨y, hy, rfl⟩)) (by decide)), hx⟩
theorem BxL.grown {n : Nat} {r : Option Nat} (h : BxL w b7 p7 X) (hg : X.grownBy Y r) (hr : ∀ k, r = some k → n ≤ k ∧ ∃ o : Obj, X.heap[k]? = some o ∧ o.isCells = false) (hn : w.heap.size ≤ n) : BxL w b7 p7 Y :=
  ⟨box_keep h.res hg hr, box_keep h.ref hg hr, below_keep h.bel hg hr hn (Nat.le_refl _), h.lt⟩
theorem BxL.fin (h : BxL w b7 p7 X) (k : Kept (fun i => i = w.heap.size) X Y) : Below w.heap.size w Y :=
  ⟨k.os.trans h.bel.os, k.tape.trans h.bel.tape, k.output.trans h.bel.output, Nat.le_trans h.bel.size k.size, fun i hi => (k.block i (Nat.lt_of_lt_of_le hi h.bel.size) (by omega)).trans (h.bel.block i hi)⟩
theorem RsN.keptT {S : Nat → Prop} {T : TypeId → Prop} (h : RsN N X g room M) (k : Kept S X Y) (hS : AwayT X S T) (t1 : ¬ T 47) (t2 : ¬ T 38) (t3 : ¬ T 5) : RsN N Y g room M := by
  obtain ⟨v, L, h1, h2, h3⟩ := h
  exact ⟨v, L, ⟨(k.block g (heap_lt h1.ob) (fun e => t1 (hS g e _ _ _ h1.ob))).trans h1.ob, h1.row.kept k hS t2 t3, h1.gB, h1.n, h1.m⟩, h2, h3⟩
theorem RsN.grown {n : Nat} {r : Option Nat} (h : RsN N X g room M) (hg : X.grownBy Y r) (hr : ∀ k, r = some k → n ≤ k ∧ ∃ o : Obj, X.heap[k]? = some o ∧ o.isCells = false) : RsN N Y g room M :=
  h.keptT (T := fun _ => False) (Kept.of_grown hg) (fun k hk cs ty fr hh => by
    obtain ⟨_, o, e, ho⟩ := hr k hk.symm
    rw [hh] at e
    injection e with e
    rw [← e] at ho
    exact absurd ho (by simp [Obj.isCells])) (fun h => h) (fun h => h) (fun h => h)
theorem RsN.setInt {b : Nat} {u v : Value} (h : RsN N X g room M) (hb : Boxed X b 3 u) : RsN N (X.setCell ⟨b, 0, none⟩ v) g room M :=
  h.keptT (T := fun ty => ty = 3) (Kept.setCell X b 0 v) (fun k hk cs ty fr hh => by
    subst hk
    have h1 : X.heap[k]? = some (.cells #[u] 3 (0, 0)) := hb
    rw [hh] at h1
    injection h1 with h1
    injection h1 with _ e _) (nat_ne (by kernel_rfl)) (nat_ne (by kernel_rfl)) (nat_ne (by kernel_rfl))
theorem keepsFrom_kN {S : Nat → Prop} {B : Nat} {X Y : World} (k : Kept S X Y) (hS : ∀ i, S i → (∃ cs ty fr, X.heap[i]? = some (.cells cs ty fr)) ∨ X.heap.size ≤ i) : KeepsFrom B X Y :=
  ⟨k.size, fun i o _ hi ho => by
    have hlt : i < X.heap.size := by
      rcases Nat.lt_or_ge i X.heap.size with h | h
      · exact h
      · rw [Array.getElem?_eq_none h] at hi; cases hi
    refine (k.block i hlt (fun hs => ?_)).trans hi
    rcases hS i hs with ⟨cs, ty, fr, h1⟩ | h1
    · rw [h1] at hi; cases hi; cases ho
    · omega⟩
theorem RsN.head (h : RsN N X g room M) : ∃ A c, X.heap[g]? = some (.cells #[.slice A M.length c, .int .i64 room] 47 (0, 0)) := by
  obtain ⟨v, L, h1, rfl, _⟩ := h
  obtain ⟨A, c, rfl, _⟩ := h1.row.len
  exact ⟨A, c, by rw [List.length_map]; exact h1.ob⟩
theorem CsN.glt (h : CsN N X g room M) : g < X.heap.size := by
  obtain ⟨v, L, h1, _⟩ := h; exact heap_lt h1.ob
theorem RsN.glt (h : RsN N X g room M) : g < X.heap.size := by
  obtain ⟨v, L, h1, _⟩ := h; exact heap_lt h1.ob
theorem CsN.keptT {S : Nat → Prop} {T : TypeId → Prop} (h : CsN N X g room M) (k : Kept S X Y) (hS : AwayT X S T) (t1 : ¬ T 57) (t2 : ¬ T 33) (t3 : ¬ T 5) : CsN N Y g room M := by
  obtain ⟨v, L, h1, h2, h3⟩ := h
  exact ⟨v, L, ⟨(k.block g (heap_lt h1.ob) (fun e => t1 (hS g e _ _ _ h1.ob))).trans h1.ob, h1.row.kept k hS t2 t3, h1.gB, h1.n, h1.m⟩, h2, h3⟩
/-- A block of one type. -/
theorem away_of {x : Nat} {ty : TypeId} {cs : Array Value} {fr : Nat × Nat} (hx : X.heap[x]? = some (.cells cs ty fr)) : AwayT X (fun i => i = x) (fun t => t = ty) := fun j hj cs' ty' fr' hjj => by
  subst hj
  rw [hx] at hjj
  injection hjj with hjj
  injection hjj with _ e _
  exact e.symm
theorem RsN.away (h : RsN N X g room M) : AwayT X (fun i => i = g) (fun t => t = 47) := by
  obtain ⟨A, c, h1⟩ := h.head
  exact away_of h1
theorem blkN {S : Nat → Prop} {b : Nat} {ty : TypeId} {cs : Array Value} {fr : Nat × Nat} (h : X.heap[b]? = some (.cells cs ty fr)) (k : Kept S X Y) (hn : ¬ S b) : Y.heap[b]? = some (.cells cs ty fr) := (k.block b (heap_lt h) hn).trans h
theorem nnb_no {T : TypeId → Prop} {B b : Nat} {ty : TypeId} {cs : Array Value} {fr : Nat × Nat} (h : X.heap[b]? = some (.cells cs ty fr)) (ht : ¬ T ty) : ¬ NNb T B X b := fun e => by
  obtain ⟨_, cs', ty', fr', e1, e2⟩ := e
  rw [h] at e1
  injection e1 with e1
  injection e1 with _ e1 _
  rw [← e1] at e2
  exact ht e2
theorem OwnI.keptT {S : Nat → Prop} {T : TypeId → Prop} {base : Nat} {y : IT} (h : OwnI X base y) (k : Kept S X Y) (hS : AwayT X S T) (ht : ¬ T 5) : OwnI Y base y := own_keptA h k hS ht
theorem OwnI.below {base : Nat} {y : IT} (h : OwnI X base y) (k : Below X.heap.size X Y) : OwnI Y base y := own_below h k
theorem do_item {bd : Nat} {x : Dn} {fr : Nat × Nat} (h : X.heap[bd]? = some (.cells (clDn x).toArray 35 fr)) : X.rangeAt bd 2 (clI x.y) := fun j v hj => by
  rcases j with _ | _ | _ | j
  · exact (cells_at (i := 2) h rfl).trans hj
  · exact (cells_at (i := 3) h rfl).trans hj
  · exact (cells_at (i := 4) h rfl).trans hj
  · simp [clI] at hj
/-- The m-th item of the document's side. -/
theorem RsN.item (h : RsN N X g room M) {m : Nat} {x : PI34} (hx : M[m]? = some x) : ∃ b o c A p, X.heap[g]? = some (.cells #[.slice (some ⟨b, o, none⟩) M.length c, .int .i64 room] 47 (0, 0)) ∧ X.rangeAt b (o + m * 3) (clI ⟨x, A, p⟩) ∧ b < X.heap.size ∧ Arg X X.heap.size A p x.b := by
  obtain ⟨v, L, h1, rfl, _⟩ := h
  rw [List.getElem?_map] at hx
  obtain ⟨y, hy, rfl⟩ := Option.map_eq_some_iff.1 hx
  obtain ⟨b, o, c, rfl, hr, hb⟩ := h1.row.at_ hy
  exact ⟨b, o, c, y.A, y.c, by rw [List.length_map]; exact h1.ob, hr, hb, (h1.row.o y (List.mem_of_getElem? hy)).arg⟩
end
theorem run_load_nirA {o : Oper} {a : Act} {w : World} {x : Operand} {g i : Nat} {cs : List Value} (ho : o.op = .load 38 x) (hx : a.eval x = .pointer (some ⟨g, i, none⟩)) (hr : w.rangeAt g i cs) (hl : cs.length = 3) :
    (execOp a.eval o).run Try.prog w = .ok (.value (.agg cs.toArray)) w := by
  have h := run_loadVar_mid (P := Try.prog) w g i 38 cs _ hr Try.underlying38 rfl (by rw [hl]; kernel_rfl)
  unfold execOp
  simp only [ho, hx, Instr.loadAt, Instr.sureAddr, Sem.run_bind, Sem.run_pure, Result.andThen_ok, h]
theorem run_load_pR {o : Oper} {a : Act} {w : World} {x : Operand} {p : Addr} {q : Value} (ho : o.op = .load 28 x) (hx : a.eval x = .pointer (some p)) (hc : w.cell? p = some q) :
    (execOp a.eval o).run Try.prog w = .ok (.value q) w := by
  unfold execOp
  simp only [ho, hx, Instr.loadAt, Instr.sureAddr, Sem.run_bind, Sem.run_pure, Result.andThen_ok]
  go_simp
theorem run_store_nisN {o : Oper} {a : Act} {w : World} {x y : Operand} {g t : Nat} {cs old : Array Value} (ho : o.op = .store 33 x y) (hx : a.eval x = .pointer (some ⟨g, 0, none⟩)) (hy : a.eval y = .agg cs) (hg : w.heap[g]? = some (.cells old t (0, 0))) (hold : old.size = 3) (hl : cs.size = 3) (h1 : cs.all (·.oneCell') = true) :
    (execOp a.eval o).run Try.prog w = .ok .skip (w.setRow g cs) := by
  have h := run_storeVar_row (P := Try.prog) w g t 33 old cs hg (by rw [hl]; kernel_rfl) (by rw [hold, hl]) h1
  unfold execOp
  simp only [ho, hx, hy, Instr.storeAt, Instr.sureAddr, Sem.run_bind, Sem.run_pure, Result.andThen_ok, h]
theorem listN_skip {l n : Nat} {P : Program} {ops : Array Oper} {rest : List Oper} {o : Oper} {a : Act} {w w' : World} {Q : Exit → Act → World → Prop} (hg : o.guard = none) (hd : ∀ c, o.op ≠ .defer c) (hrun : (execOp a.eval o).run P w = .ok .skip w')
    (h : wpListIn (Fence.wide.inRound l) n P ops Q rest (a.put o.dst undef) w') : wpListIn (Fence.wide.inRound l) n P ops Q (o :: rest) a w :=
  wpListIn_plain hg fun K hK => ⟨fun _ _ => trivial, by rw [Oper.semAt_plain _ _ _ hd, hrun]; exact hK _ _ h⟩
theorem wpIn_calmN {F : Fence} {n : Nat} {P : Program} {c : Code} {K : Act → World → Prop} {Q : Exit → Act → World → Prop} {a : Act} {w : World} (h : c.wpIn F n P (Exit.then K (fun _ _ _ => False)) a w) : c.wpIn F n P (Exit.then K Q) a w :=
  wpIn_mono h (fun e b Y hp => by cases e <;> first | exact hp | exact (False.elim hp))
theorem tnc_do : ¬ TNc 35 ∧ ¬ TNr 35 := by
  refine ⟨?_, ?_⟩ <;> (rintro (h | h) <;> exact absurd h (nat_ne (by kernel_rfl)))
theorem GY.turn {L : List PI34} {pre : List IT} {y : IT} {W : World} {l : Nat} {r r' : Loop} (h : GY L pre y W) (hl : W.heap[l]? = some (.loop r)) : GY L pre y (W.putObj l (.loop r')) := by
  refine ⟨h.1, ⟨fun hn => ?_, h.2.cap, h.2.none_⟩⟩
  obtain ⟨b0, off, e, hb, hc⟩ := h.2.rd hn
  exact ⟨b0, off, e, by simpa using hb, fun j hj => cell_putLoop (hc j hj) hl⟩
end Go.Proofs.Ytpoigngpdcmipaa
