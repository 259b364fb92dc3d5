/-
  Contracts and lemmas on which the proofs of this seat stand (several texts in one). Conditions are each theorem's own.
-/
import Derived.Test.YtghbliabmecbcaaMa14
import Derived.Test.YtghbliabmecbcaaMa11
import Derived.Test.YtghbliabmecbcaaMa12
import Derived.Sort.Walk0

/-
  The document's Add of layer 16, where the key's buffer is not there. Conditions are each theorem's own.
-/
namespace Go.Proofs.Ytghbliabmecbcaa
open Go.RowKit Go.Shelf
theorem append_bLs {w : World} {ops : Array Oper} {rest : List Oper} {o : Oper} {a : Act} {Q : Exit → Act → World → Prop} (hgd : o.guard = none) (s x : Operand) (ho : o.op = .call { callee := .builtin .append, args := #[s, x], argTypes := #[42, 42] })
    (base : Nat) (v : Value) (m : Nat) (xs : List Value) (hs : a.eval s = v) (hown : w.ownsRow base 82 5 v m xs)
    (B : Nat) (A : Option Addr) (k c : Nat) (l : List XB) (hx : a.eval x = .slice A k c) (hk : k = l.length) (hA : A = none → c = 0) (hr : RdS clB 5 w B A l)
    (hlen : m + k ≤ 1000000) (hbase : base ≤ w.heap.size)
    (h : ∀ v' w', w'.ownsRow base 82 5 v' (m + k) (xs ++ l.flatMap clB) → w.grownBy w' v.ownBlock → wpList Try.prog ops Q rest (a.put o.dst v') w') : wpList Try.prog ops Q (o :: rest) a w := by
  obtain ⟨i0, hi, hz0, hz1, hz2⟩ := info_parts info_b
  subst hk
  rcases A with _ | ad
  · have h0 : l = [] := by
      rcases Nat.eq_zero_or_pos l.length with e | e
      · exact List.eq_nil_of_length_eq_zero e
      · obtain ⟨_, _, e', _⟩ := hr e; cases e'
    subst h0
    obtain rfl := hA rfl
    have hrun := run_append_owned_none (P := Try.prog) (w := w) base 42 o.type 82 i0 5 Try.underlying42 hi v m xs hown
    refine list_growB (v := v) (w' := w) hgd ?_ (h v w (by simpa using hown) (World.grownBy.refl w _))
    simp [execOp, ho, resolve, invoke, builtin, hs, hx, hrun, Result.andThen]
  · obtain ⟨v', w', hrun, h1, h2, _⟩ := run_append_own (P := Try.prog) w base 42 o.type 82 i0 _ 5 72 Try.underlying42 hi hz0 hz1 hz2 rfl (by decide) v m xs hown ad l.length c (l.flatMap clB)
      (flatB_len l) (rds_srcB hr) (ones_B l) (by unfold maxLen; omega) (by omega) hbase
    refine list_growB (v := v') (w' := w') hgd ?_ (h v' w' h1 h2)
    simp [execOp, ho, resolve, invoke, builtin, hs, hx, hrun, Result.andThen]
/-- What is left behind an answer. -/
def AddR16 (w : World) (g : Nat) (v : Value) (most mb wait : Int) (r : List Bf × AnsJ) (e : Ending) (w' : World) : Prop :=
  ∃ v' t' V, e = .returned (.tuple #[.string (strB r.2.1), V, .bool r.2.2.2.1, .int .i64 r.2.2.2.2]) ∧ Rj w' g v' t' most mb wait ∧ tbE t' = r.1 ∧
    w'.ownsRow w.heap.size 5 1 V r.2.2.1.length (row r.2.2.1) ∧ Kept (fun j => j = g ∨ v.ownBlock = some j) w w' ∧ ∀ j, v'.ownBlock = some j → v.ownBlock = some j ∨ w.heap.size ≤ j
section
variable {w0 : World} {g : Nat} {t0 : List XB} {v0 : Value} {most mb wait : Int}
theorem notJ {key : List UInt8} (hnf : ¬ findJ (tbE t0) key < t0.length) : (tbE t0)[findJ (tbE t0) key]? = none ∧ fndI (tbE t0) key = -1 := by
  have e : (tbE t0).length = t0.length := by rw [tbE, List.length_map]
  exact ⟨List.getElem?_eq_none (by omega), by rw [fndI, if_neg (by rw [e]; exact hnf)]⟩
set_option maxRecDepth 100000 in
set_option maxHeartbeats 4000000 in
theorem r16add_full (h0 : Rj w0 g v0 t0 most mb wait) (key : List UInt8) (off : Int) (more : Bool) (vb : Value) (s head : List UInt8) (now : Int)
    (hnf : ¬ findJ (tbE t0) key < t0.length) (hmo : (t0.length : Int) ≥ most) :
    Calls Try.prog 17 #[.pointer (some ⟨g, 0, none⟩), .string (strB key), .int .i64 off, .bool more, vb, .string (strB head), .int .i64 now] w0
      fun e w' => AddOut16 w0 g v0 most mb wait t0 key ⟨off, more, s⟩ head now e w' := by
  obtain ⟨A0, c0, rfl, hTb0, hnn0⟩ := h0.sh
  obtain ⟨hf1, hf2⟩ := notJ hnf
  have HR : Hid (addJ most mb (tbE t0) key ⟨off, more, s⟩ head now = (tbE t0, [], [], false, 7)) := Lib.hid (by
    rw [addJ, hf1]
    show (if ((tbE t0).length : Int) ≥ most then _ else _) = _
    rw [if_pos (by rw [tbE, List.length_map]; exact hmo)])
  have hfd := r16find _ c0 t0 w0.heap.size g 0 most mb wait key w0 hTb0 (Nat.le_refl _)
  rw [hf2] at hfd
  have HFD := Lib.hid hfd
  obtain ⟨n0, hn0⟩ : ∃ n0, n0 = t0.length := ⟨_, rfl⟩
  have dm0 : decide (most ≤ (n0 : Int)) = true := decide_eq_true (by omega)
  have HT : Hid (∀ V, Below w0.heap.size w0 V → Rj V g (.slice A0 t0.length c0) t0 most mb wait) := Lib.hid fun V hV => h0.below hV
  have HT0 : Hid (∀ V, Below w0.heap.size w0 V → V.cell? ⟨g, 0, none⟩ = some (.slice A0 n0 c0) ∧ V.cell? ⟨g, 1, none⟩ = some (.int .i64 most)) := Lib.hid fun V hV => ⟨by rw [hn0]; exact cells_at (i := 0) (HT.out V hV).tab rfl, cells_at (i := 1) (HT.out V hV).tab rfl⟩
  clear h0 hTb0 hf1 hf2 hfd hnf hmo hn0
  go_enter Try.func17, Try.ntmps17
  go_upto_region 4 with (go_at_call 45; refine HFD.out.mono ?_; rintro e u1 ⟨rfl, y1⟩)
  have HT0 := Lib.hid (fun (V : World) (hV : Below u1.heap.size u1 V) => HT0.out V (y1.trans (hV.mono y1.size)))
  refine wp_region_held_drew (S := fun w' => Below u1.heap.size u1 w') (by kernel_rfl) (Below.refl _ _).drew (fun hS => ?_)
  refine held_pure (i := 0) (oi := ⟨some 31, _, _, _, _, _⟩) rfl (by kernel_rfl) (by kernel_rfl) (by kernel_rfl) (fun _ _ _ h => h) (by rfl) (v := ?_) (fun w hSw => ?_) hS (fun hS => ?_)
  rotate_left
  · go_simp; try with_reducible rfl
  try go_frame
  refine held_pure (i := 1) (oi := ⟨some 32, _, _, _, _, _⟩) rfl (by kernel_rfl) (by kernel_rfl) (by kernel_rfl) (fun _ _ _ h => h) (by rfl) (v := ?_) (fun w hSw => ?_) hS (fun hS => ?_)
  rotate_left
  · go_simp; try with_reducible rfl
  try go_frame
  refine held_pure (i := 2) (oi := ⟨some 33, _, _, _, _, _⟩) rfl (by kernel_rfl) (by kernel_rfl) (by kernel_rfl) (fun _ _ _ h => h) (by rfl) (v := ?_) (fun w hSw => ?_) hS (fun hS => ?_)
  rotate_left
  · go_simp; try with_reducible rfl
  try go_frame
  refine held_pure (i := 3) (oi := ⟨some 34, _, _, _, _, _⟩) rfl (by kernel_rfl) (by kernel_rfl) (by kernel_rfl) (fun _ _ _ h => h) (by rfl) (fun w hSw => run_load_bs rfl rfl (HT0.out _ hSw).1) hS (fun hS => ?_)
  try go_frame
  refine held_pure (i := 4) (oi := ⟨some 35, _, _, _, _, _⟩) rfl (by kernel_rfl) (by kernel_rfl) (by kernel_rfl) (fun _ _ _ h => h) (by rfl) (v := ?_) (fun w hSw => ?_) hS (fun hS => ?_)
  rotate_left
  · go_simp; try with_reducible rfl
  try go_frame
  refine held_pure (i := 5) (oi := ⟨some 36, _, _, _, _, _⟩) rfl (by kernel_rfl) (by kernel_rfl) (by kernel_rfl) (fun _ _ _ h => h) (by rfl) (v := ?_) (fun w hSw => ?_) hS (fun hS => ?_)
  rotate_left
  · go_simp; try with_reducible rfl
  try go_frame
  refine held_pure (i := 6) (oi := ⟨some 37, _, _, _, _, _⟩) rfl (by kernel_rfl) (by kernel_rfl) (by kernel_rfl) (fun _ _ _ h => h) (by rfl) (v := ?_) (fun w hSw => ?_) hS (fun hS => ?_)
  rotate_left
  · go_simp; try with_reducible rfl
  try go_frame
  refine held_pure (i := 7) (oi := ⟨some 38, _, _, _, _, _⟩) rfl (by kernel_rfl) (by kernel_rfl) (by kernel_rfl) (fun _ _ _ h => h) (by rfl) (v := ?_) (fun w hSw => ?_) hS (fun hS => ?_)
  rotate_left
  · go_simp; try with_reducible rfl
  try go_frame
  refine held_pure (i := 8) (oi := ⟨some 39, _, _, _, _, _⟩) rfl (by kernel_rfl) (by kernel_rfl) (by kernel_rfl) (fun _ _ _ h => h) (by rfl) (fun w hSw => run_load_int rfl rfl (HT0.out _ hSw).2) hS (fun hS => ?_)
  try go_frame
  refine held_pure (i := 9) (oi := ⟨some 40, _, _, _, _, _⟩) rfl (by kernel_rfl) (by kernel_rfl) (by kernel_rfl) (fun _ _ _ h => h) (by rfl) (v := .bool true) (fun w hSw => by go_simp; try exact dm0) hS (fun hS => ?_)
  try go_frame
  refine wpAnyH_done (by kernel_rfl) ?_ _
  go_wp2
  refine bodyPost_ret (results_tmp4r rfl _ _ _) rfl ?_
  exact ⟨_, t0, .slice none 0 0, by rw [HR.out]; rfl, HT.out _ (y1.trans (hS.mono y1.size)), by rw [HR.out], by rw [HR.out]; exact World.ownsRow_nil _ _ _ _, Kept.of_below (y1.trans (hS.mono y1.size)), fun j hj => .inl hj⟩
set_option maxRecDepth 100000 in
set_option maxHeartbeats 8000000 in
theorem r16add_new (h0 : Rj w0 g v0 t0 most mb wait) (hn9 : t0.length < 1000) (key : List UInt8) (off : Int) (more : Bool) (A' : Option Addr) (c' : Nat) (s head : List UInt8) (now : Int)
    (hnf : ¬ findJ (tbE t0) key < t0.length) (hmo : (t0.length : Int) < most) {B1 : Nat} (hB1 : B1 ≤ g) (hA' : Arg w0 B1 A' c' s) (hsl : s.length ≤ 1000000) (ho : -9223372036854775808 ≤ off ∧ off ≤ 9223372036854775807)
    (hby : bytesJ (tbE t0) ≤ 1073741824) (hrm : 0 ≤ roomP [] off s ∧ roomP [] off s ≤ 1000000) :
    Calls Try.prog 17 #[.pointer (some ⟨g, 0, none⟩), .string (strB key), .int .i64 off, .bool more, .slice A' s.length c', .string (strB head), .int .i64 now] w0
      fun e w' => AddOut16 w0 g v0 most mb wait t0 key ⟨off, more, s⟩ head now e w' := by
  obtain ⟨A0, c0, rfl, hTb0, hnn0⟩ := h0.sh
  obtain ⟨hf1, hf2⟩ := notJ hnf
  have hfd := r16find _ c0 t0 w0.heap.size g 0 most mb wait key w0 hTb0 (Nat.le_refl _)
  rw [hf2] at hfd
  have HFD := Lib.hid hfd
  obtain ⟨RR, hRR⟩ : ∃ RR, RR = addJ most mb (tbE t0) key ⟨off, more, s⟩ head now := ⟨_, rfl⟩
  obtain ⟨k, hk0⟩ : ∃ k, k = t0.length := ⟨_, rfl⟩
  have HJ0 : Hid (RR = putJ mb (tbE t0) (tbE (t0 ++ [(⟨key, clampJ now, none, 0, [], [], false⟩ : XB)])) k (bfE (⟨key, clampJ now, none, 0, [], [], false⟩ : XB)) ⟨off, more, s⟩ head) := Lib.hid (by
    rw [hRR, addJ, hf1]
    show (if ((tbE t0).length : Int) ≥ most then _ else _) = _
    have e : (tbE t0).length = t0.length := by rw [tbE, List.length_map]
    rw [if_neg (by rw [e]; omega), e, hk0, tbE, tbE, List.map_append]
    rfl)
  have HAO : Hid (∀ e w', AddR16 w0 g (.slice A0 t0.length c0) most mb wait RR e w' → AddOut16 w0 g (.slice A0 t0.length c0) most mb wait t0 key ⟨off, more, s⟩ head now e w') := Lib.hid (by rw [hRR]; exact fun e w' h => h)
  have dm0 : decide (most ≤ (k : Int)) = false := decide_eq_false (by omega)
  have HBT : Hid (bytesJ (tbE (t0 ++ [(⟨key, clampJ now, none, 0, [], [], false⟩ : XB)])) ≤ 1073741824) := Lib.hid (by
    have e : bytesJ (tbE (t0 ++ [(⟨key, clampJ now, none, 0, [], [], false⟩ : XB)])) = bytesJ (tbE t0) := by
      rw [tbE, List.map_append]
      show bytesJ (tbE t0 ++ [bfE _]) = _
      generalize tbE t0 = T
      induction T with
      | nil => rfl
      | cons y T ih => show bytesP y.l + bytesJ (T ++ _) = bytesP y.l + bytesJ T; rw [ih]
    rw [e]; exact hby)
  have HK0 := Lib.hid hk0
  have HT : Hid (∀ V, Below w0.heap.size w0 V → Rj V g (.slice A0 t0.length c0) t0 most mb wait) := Lib.hid fun V hV => h0.below hV
  have HT0 : Hid (∀ V, Below w0.heap.size w0 V → V.cell? ⟨g, 0, none⟩ = some (.slice A0 k c0) ∧ V.cell? ⟨g, 1, none⟩ = some (.int .i64 most)) := Lib.hid fun V hV => ⟨by rw [hk0]; exact cells_at (i := 0) (HT.out V hV).tab rfl, cells_at (i := 1) (HT.out V hV).tab rfl⟩
  have HNN0 := Lib.hid hnn0
  have HARG := Lib.hid hA'
  have HRM := Lib.hid hrm
  have hk1 : k < 1000 := by omega
  clear h0 hTb0 hf1 hf2 hfd hnf hmo hnn0 hA' hrm hby hRR hn9 hk0
  go_enter Try.func17, Try.ntmps17
  go_upto_region 4 with (go_at_call 45; refine HFD.out.mono ?_; rintro e u1 ⟨rfl, y1⟩)
  have Y1 := Lib.hid y1
  have HT0 := Lib.hid (fun (V : World) (hV : Below u1.heap.size u1 V) => HT0.out V (Y1.out.trans (hV.mono Y1.out.size)))
  refine wp_region_held_drew (S := fun w' => Below u1.heap.size u1 w') (by kernel_rfl) (Below.refl _ _).drew (fun hS => ?_)
  refine held_pure (i := 0) (oi := ⟨some 31, _, _, _, _, _⟩) rfl (by kernel_rfl) (by kernel_rfl) (by kernel_rfl) (fun _ _ _ h => h) (by rfl) (v := ?_) (fun w hSw => ?_) hS (fun hS => ?_)
  rotate_left
  · go_simp; try with_reducible rfl
  try go_frame
  refine held_pure (i := 1) (oi := ⟨some 32, _, _, _, _, _⟩) rfl (by kernel_rfl) (by kernel_rfl) (by kernel_rfl) (fun _ _ _ h => h) (by rfl) (v := ?_) (fun w hSw => ?_) hS (fun hS => ?_)
  rotate_left
  · go_simp; try with_reducible rfl
  try go_frame
  refine held_pure (i := 2) (oi := ⟨some 33, _, _, _, _, _⟩) rfl (by kernel_rfl) (by kernel_rfl) (by kernel_rfl) (fun _ _ _ h => h) (by rfl) (v := ?_) (fun w hSw => ?_) hS (fun hS => ?_)
  rotate_left
  · go_simp; try with_reducible rfl
  try go_frame
  refine held_pure (i := 3) (oi := ⟨some 34, _, _, _, _, _⟩) rfl (by kernel_rfl) (by kernel_rfl) (by kernel_rfl) (fun _ _ _ h => h) (by rfl) (fun w hSw => run_load_bs rfl rfl (HT0.out _ hSw).1) hS (fun hS => ?_)
  try go_frame
  refine held_pure (i := 4) (oi := ⟨some 35, _, _, _, _, _⟩) rfl (by kernel_rfl) (by kernel_rfl) (by kernel_rfl) (fun _ _ _ h => h) (by rfl) (v := ?_) (fun w hSw => ?_) hS (fun hS => ?_)
  rotate_left
  · go_simp; try with_reducible rfl
  try go_frame
  refine held_pure (i := 5) (oi := ⟨some 36, _, _, _, _, _⟩) rfl (by kernel_rfl) (by kernel_rfl) (by kernel_rfl) (fun _ _ _ h => h) (by rfl) (v := ?_) (fun w hSw => ?_) hS (fun hS => ?_)
  rotate_left
  · go_simp; try with_reducible rfl
  try go_frame
  refine held_pure (i := 6) (oi := ⟨some 37, _, _, _, _, _⟩) rfl (by kernel_rfl) (by kernel_rfl) (by kernel_rfl) (fun _ _ _ h => h) (by rfl) (v := ?_) (fun w hSw => ?_) hS (fun hS => ?_)
  rotate_left
  · go_simp; try with_reducible rfl
  try go_frame
  refine held_pure (i := 7) (oi := ⟨some 38, _, _, _, _, _⟩) rfl (by kernel_rfl) (by kernel_rfl) (by kernel_rfl) (fun _ _ _ h => h) (by rfl) (v := ?_) (fun w hSw => ?_) hS (fun hS => ?_)
  rotate_left
  · go_simp; try with_reducible rfl
  try go_frame
  refine held_pure (i := 8) (oi := ⟨some 39, _, _, _, _, _⟩) rfl (by kernel_rfl) (by kernel_rfl) (by kernel_rfl) (fun _ _ _ h => h) (by rfl) (fun w hSw => run_load_int rfl rfl (HT0.out _ hSw).2) hS (fun hS => ?_)
  try go_frame
  refine held_pure (i := 9) (oi := ⟨some 40, _, _, _, _, _⟩) rfl (by kernel_rfl) (by kernel_rfl) (by kernel_rfl) (fun _ _ _ h => h) (by rfl) (v := .bool false) (fun w hSw => by go_simp; try exact dm0) hS (fun hS => ?_)
  try go_frame
  refine wpAnyH_done (by kernel_rfl) ?_ _
  clear dm0
  have hb2 := Y1.out.trans (hS.mono Y1.out.size)
  have HB2 := Lib.hid hb2
  have hz2 := hb2.size
  have kt := (HT0.out _ hS).1
  have hq2 := HT.out _ hb2
  have hrd2 : RdS clB 5 u1.drew u1.drew.heap.size A0 t0 := by
    obtain ⟨A9, c9, e9, hT9, _⟩ := hq2.sh
    injection e9 with e9
    rw [e9]; exact hT9.rd
  have hnil := World.ownsRow_nil u1.drew u1.drew.heap.size 82 5
  generalize hW2 : u1.drew = w2 at *
  clear hW2 y1 hS
  go_upto_region 8 with (first
    | (at_builtin; refine append_bLs rfl _ _ rfl w2.heap.size (.slice none 0 0) 0 [] rfl hnil w2.heap.size A0 k c0 t0 rfl HK0.out HNN0.out hrd2 (by omega) (Nat.le_refl _) ?_; intro v3 w3 own3 grow3; rw [Nat.zero_add, List.nil_append] at own3; have x3 := (Below.refl w2.heap.size w2).grown grow3 (Nat.le_refl _) (fun _ hk => by cases hk); have hz3 := x3.size)
    | ((with_reducible show wpList _ _ _ (Oper.mk _ (Op.buildSlice _ _ _) _ _ _ _ :: _) _ _); refine list_growB rfl (run_bsB (cs := (clB (⟨key, clampJ now, none, 0, [], [], false⟩ : XB)).toArray) rfl rfl rfl) ?_; have x4 := x3.alloc hz3 (.cells (clB (⟨key, clampJ now, none, 0, [], [], false⟩ : XB)).toArray 82); have own4 := own3.alloc (.cells (clB (⟨key, clampJ now, none, 0, [], [], false⟩ : XB)).toArray 82); have hr4 : (w3.alloc (.cells (clB (⟨key, clampJ now, none, 0, [], [], false⟩ : XB)).toArray 82)).rangeAt w3.heap.size 0 (clB (⟨key, clampJ now, none, 0, [], [], false⟩ : XB)) := range_heap (World.alloc_heap_new w3 _); generalize w3.alloc (.cells (clB (⟨key, clampJ now, none, 0, [], [], false⟩ : XB)).toArray 82) = w4 at *; have hz4 := x4.size)
    | (at_builtin; rw [HK0.out] at own4; refine append_bL rfl _ _ rfl w2.heap.size v3 t0 rfl own4 w3.heap.size (⟨key, clampJ now, none, 0, [], [], false⟩ : XB) rfl hr4 (by rw [← HK0.out]; omega) hz4 ?_; intro v5 w5 own5 grow5; have x5 := x4.grown grow5 hz4 (fun k hk => own_block_ge own4 k hk); obtain ⟨A5, c5, e5, _, _⟩ := own_rds own5 rfl rfl (fun x _ => clB_len x); have hl5 : (t0 ++ [(⟨key, clampJ now, none, 0, [], [], false⟩ : XB)]).length = k + 1 := (by rw [List.length_append, HK0.out]; rfl); rw [hl5] at e5; subst e5; have hq5 := hq2.below x5; have k5 := cells_at (i := 0) hq5.tab rfl; have f5 := heap_frozen hq5.tab 0))
  -- the table with the new buffer
  have HX5 := Lib.hid x5
  have hpx : ∀ y ∈ t0 ++ [(⟨key, clampJ now, none, 0, [], [], false⟩ : XB)], XO w5 y := fun y hy => by
    rcases List.mem_append.1 hy with hy | hy
    · exact hq5.parts y hy
    · rw [List.mem_singleton.1 hy]
      exact ⟨World.ownsRow_nil _ _ _ _, (fun y hy => by cases hy), (fun y hy => by cases hy), by simp⟩
  have h := Rj.put (v := .slice A0 t0.length c0) hq5.tab own5 hpx (by rw [hl5]; omega)
  have HFIN0 : Hid (Kept (fun j => j = g) w0 (w5.setCell ⟨g, 0, none⟩ (.slice A5 (k + 1) c5))) := Lib.hid ((Kept.of_below (HB2.out.trans (x5.mono HB2.out.size))).trans (Kept.setCell w5 g 0 _) (fun _ _ e => e))
  have HBW : Hid (Below B1 w0 (w5.setCell ⟨g, 0, none⟩ (.slice A5 (k + 1) c5))) := Lib.hid (((HB2.out.trans (x5.mono HB2.out.size)).mono (by have := heap_lt hq5.tab; have := heap_lt (HT.out w0 (Below.refl _ _)).tab; omega)).setCell (p := ⟨g, 0, none⟩) hB1 _)
  have HGE : Hid (∀ j, (Value.slice A5 (k + 1) c5).ownBlock = some j → w0.heap.size ≤ j) := Lib.hid (fun j hj => Nat.le_trans HB2.out.size (own_block_ge own5 j hj))
  obtain ⟨t, ht⟩ : ∃ t, t = t0 ++ [(⟨key, clampJ now, none, 0, [], [], false⟩ : XB)] := ⟨_, rfl⟩
  obtain ⟨x, hxd⟩ : ∃ x : XB, x = ⟨key, clampJ now, none, 0, [], [], false⟩ := ⟨_, rfl⟩
  have hx : t[k]? = some x := by rw [ht, hxd, HK0.out, List.getElem?_append_right (Nat.le_refl _), Nat.sub_self]; rfl
  have HERA : Hid (tbE (t.eraseIdx k) = tbE t0) := Lib.hid (by rw [ht, HK0.out, List.eraseIdx_append_of_length_le (Nat.le_refl _), Nat.sub_self]; simp)
  have HJ : Hid (RR = putJ mb (tbE t0) (tbE t) k (bfE x) ⟨off, more, s⟩ head) := Lib.hid (by rw [ht, hxd]; exact HJ0.out)
  have hby := HBT.out
  rw [← ht] at h hby
  have hn : k + 1 = t.length := by rw [ht]; exact hl5.symm
  have hxn : x.l.length + 1 ≤ 1000 := by rw [hxd]; simp
  have hwf : wfP (piE x.l) := by rw [hxd]; exact wfP_nil
  have hrm : 0 ≤ roomP (piE x.l) off s ∧ roomP (piE x.l) off s ≤ 1000000 := by rw [hxd]; exact HRM.out
  have hA0' := HARG.out
  obtain ⟨n, hnd⟩ : ∃ n, n = k + 1 := ⟨_, rfl⟩
  rw [← hnd] at h
  rw [← hnd] at hn HFIN0 HGE HBW ⊢
  obtain ⟨b, rfl, _⟩ := h.at_ hx
  generalize hc5 : c5 = c at *
  generalize hWW : w5.setCell ⟨g, 0, none⟩ (.slice (some ⟨b, 0, none⟩) n c) = w at *
  have hzw : w0.heap.size ≤ w.heap.size := HFIN0.out.size
  have hA' : Arg w w.heap.size A' c' s := (HARG.out.below HBW.out).more (by have := heap_lt h.tab; omega)
  have HFIN : Hid (∀ e w', AddR16 w g (.slice (some ⟨b, 0, none⟩) n c) most mb wait RR e w' → AddOut16 w0 g (.slice A0 t0.length c0) most mb wait t0 key ⟨off, more, s⟩ head now e w') := Lib.hid (fun e w' => by
    rintro ⟨v', t', V, q1, q2, q3, q4, q5, q6⟩
    refine HAO.out e w' ⟨v', t', V, q1, q2, q3, own_baseU q4 hzw, (HFIN0.out.trans q5 (fun j hj hS => ?_)).mono (fun _ _ e => .inl e), fun j hj => .inr ?_⟩
    · rcases hS with hS | hS
      · exact hS
      · have := HGE.out j hS; omega
    · rcases q6 j hj with hS | hS
      · exact HGE.out j hS
      · exact Nat.le_trans hzw hS)
  clear hq2 hrd2 hnil own3 grow3 x3 hz3 x4 own4 hr4 hz4 own5 grow5 x5 hq5 k5 f5 hpx ht hxd hnd hl5 hWW hc5 hb2 hz2 kt
  have hkn : k < n := by rw [hn]; exact (List.getElem?_eq_some_iff.1 hx).1
  have hn1 : n ≤ 1000 := by rw [hn]; exact h.n
  have HN := Lib.hid hn
  have HADD : Hid _ := Lib.hid (show (bytesJ (tbE t) + roomP (piE x.l) off s > mb → RR = (tbE t0, [], [], false, 7)) ∧
      (¬ bytesJ (tbE t) + roomP (piE x.l) off s > mb → addE (piE x.l) ⟨off, more, s⟩ ≠ 0 → RR = ((tbE t).eraseIdx k, [], [], false, addE (piE x.l) ⟨off, more, s⟩)) ∧
      (¬ bytesJ (tbE t) + roomP (piE x.l) off s > mb → addE (piE x.l) ⟨off, more, s⟩ = 0 → doneB (addL (piE x.l) ⟨off, more, s⟩) = true → RR = ((tbE t).eraseIdx k, (upJ (bfE x) ⟨off, more, s⟩ head).head, doneP (addL (piE x.l) ⟨off, more, s⟩), true, 0)) ∧
      (¬ bytesJ (tbE t) + roomP (piE x.l) off s > mb → addE (piE x.l) ⟨off, more, s⟩ = 0 → doneB (addL (piE x.l) ⟨off, more, s⟩) = false → RR = ((tbE t).set k (upJ (bfE x) ⟨off, more, s⟩ head), [], [], false, 0)) from by
    rw [HJ.out]
    exact putJ_ways (mb := mb) (t0 := tbE t0) (T := tbE t) (k := k) (x := bfE x) (p := ⟨off, more, s⟩) (head := head))
  obtain ⟨A0, c0, e0, hTb, _⟩ := h.sh
  injection e0 with e1 e2 e3
  subst e1; subst e3
  obtain ⟨BY, hBY⟩ : ∃ z, z = bytesJ (tbE t) := ⟨_, rfl⟩
  obtain ⟨RO, hRO⟩ : ∃ z, z = roomP (piE x.l) off s := ⟨_, rfl⟩
  obtain ⟨E, hEE⟩ : ∃ z, z = addE (piE x.l) ⟨off, more, s⟩ := ⟨_, rfl⟩
  rw [← hBY, ← hRO, ← hEE] at HADD
  have hBY0 : 0 ≤ BY := by rw [hBY]; exact bytesJ_nn _
  have HBY : Hid (∀ {W V : World}, Below w.heap.size w W → Below W.heap.size W V → Calls Try.prog 20 #[.pointer (some ⟨g, 0, none⟩)] V fun e w' => e = .returned (.int .i64 BY) ∧ Below V.heap.size V w') := Lib.hid fun hW hV => by
    rw [hBY]
    obtain ⟨A9, c9, e9, hT9, _⟩ := ((h.below hW).below hV).sh
    exact r16bytes _ _ _ _ _ _ _ _ _ _ hT9 (Nat.le_refl _)
  have HRO : Hid (∀ {W V : World}, Below w.heap.size w W → Below W.heap.size W V → Calls Try.prog 46 #[.pointer (some ⟨b, k * 5 + 2, none⟩), .int .i64 off, .slice A' s.length c'] V fun e w' => e = .returned (.int .i64 RO) ∧ Below V.heap.size V w') := Lib.hid fun hW hV => by
    rw [hRO]
    have hV' := hW.trans (hV.mono hW.size)
    exact r16room ((h.below hW).below hV) hx off A' s c' ((hA'.below hV').more hV'.size).rd
  have HPART : Hid (∀ {V : World}, Below w.heap.size w V → Calls Try.prog 48 #[.pointer (some ⟨b, k * 5 + 2, none⟩), .int .i64 off, .bool more, .slice A' s.length c'] V fun e w' => e = .returned (.int .i64 E) ∧
      ∃ x1, Rj w' g (.slice (some ⟨b, 0, none⟩) n c) (t.set k x1) most mb wait ∧ bfE x1 = { bfE x with l := addL (piE x.l) ⟨off, more, s⟩ } ∧ x1.l.length ≤ x.l.length + 1 ∧ Kept (fun k => k = b) V w') := Lib.hid fun hV => by
    rw [hEE]
    exact r16part (h.below hV) hn hx off more A' s c' ((hA'.below hV).more hV.size) hsl ho hxn
  have HQ : Hid (∀ {V : World}, Below w.heap.size w V → Rj V g (.slice (some ⟨b, 0, none⟩) n c) t most mb wait) := Lib.hid fun hV => h.below hV
  have HWF := Lib.hid (addL_wf (p := ⟨off, more, s⟩) hwf)
  have hRO0 : 0 ≤ RO ∧ RO ≤ 1000000 := by rw [hRO]; exact hrm
  rw [← hBY] at hby
  have HWS := Lib.hid (IntWalk.i64_in (BY + RO) (by omega))
  have hgz := heap_lt h.tab
  have HTW := Lib.hid h.tab
  have hcn : n ≤ c := by rw [hn]; exact hTb.cap
  clear h hn hx hTb hA' hwf hrm hBY hRO hEE e2
  obtain ⟨w1, hw1⟩ : ∃ w1, w1 = w := ⟨_, rfl⟩
  have x1 : Below w.heap.size w w1 := by rw [hw1]; exact Below.refl _ _
  rw [← hw1]
  clear hw1
  have kt := cells_at (i := 0) ((x1.block g hgz).trans HTW.out) rfl
  go_upto_region 9 with fail
  have hTW1 := (x1.block g hgz).trans HTW.out
  have hgz1 := heap_lt hTW1
  have HT1 := Lib.hid hTW1
  have KM : Hid (∀ V, Below w1.heap.size w1 V → V.cell? ⟨g, 2, none⟩ = some (.int .i64 mb)) := Lib.hid fun V hV => cells_at (i := 2) ((hV.block g hgz1).trans HT1.out) rfl
  have HBY := Lib.hid (fun (V : World) (hV : Below w1.heap.size w1 V) => HBY.out x1 hV)
  have HRO := Lib.hid (fun (V : World) (hV : Below w1.heap.size w1 V) => HRO.out x1 hV)
  clear hTW1
  by_cases hroom : BY + RO > mb
  · have dm : decide (mb < BY + RO) = true := decide_eq_true (by omega)
    refine wp_region_held_drew (S := fun w' => Below w1.heap.size w1 w') (by kernel_rfl) (Below.refl _ _).drew (fun hS => ?_)
    refine held_pure (i := 0) (oi := ⟨some 68, _, _, _, _, _⟩) rfl (by kernel_rfl) (by kernel_rfl) (by kernel_rfl) (fun _ _ _ h => h) (by rfl) (v := ?_) (fun w hSw => ?_) hS (fun hS => ?_)
    rotate_left
    · go_simp; try with_reducible rfl
    try go_frame
    refine held_pure (i := 2) (oi := ⟨some 70, _, _, _, _, _⟩) rfl (by kernel_rfl) (by kernel_rfl) (by kernel_rfl) (fun _ _ _ h => h) (by rfl) (v := ?_) (fun w hSw => ?_) hS (fun hS => ?_)
    rotate_left
    · go_simp; try with_reducible rfl
    try go_frame
    refine held_pure (i := 3) (oi := ⟨some 71, _, _, _, _, _⟩) rfl (by kernel_rfl) (by kernel_rfl) (by kernel_rfl) (fun _ _ _ h => h) (by rfl) (v := ?_) (fun w hSw => ?_) hS (fun hS => ?_)
    rotate_left
    · go_simp; try with_reducible rfl
    try go_frame
    refine held_pure (i := 4) (oi := ⟨some 72, _, _, _, _, _⟩) rfl (by kernel_rfl) (by kernel_rfl) (by kernel_rfl) (fun _ _ _ h => h) (by rfl) (v := ?_) (fun w hSw => ?_) hS (fun hS => ?_)
    rotate_left
    · go_simp; try with_reducible rfl
    try go_frame
    refine held_pure (i := 5) (oi := ⟨some 73, _, _, _, _, _⟩) rfl (by kernel_rfl) (by kernel_rfl) (by kernel_rfl) (fun _ _ _ h => h) (by rfl) (v := ?_) (fun w hSw => ?_) hS (fun hS => ?_)
    rotate_left
    · go_simp; try with_reducible rfl
    try go_frame
    refine held_pure (i := 6) (oi := ⟨some 74, _, _, _, _, _⟩) rfl (by kernel_rfl) (by kernel_rfl) (by kernel_rfl) (fun _ _ _ h => h) (by rfl) (v := ?_) (fun w hSw => ?_) hS (fun hS => ?_)
    rotate_left
    · go_simp; try with_reducible rfl
    try go_frame
    refine held_pure (i := 9) (oi := ⟨some 77, _, _, _, _, _⟩) rfl (by kernel_rfl) (by kernel_rfl) (by kernel_rfl) (fun _ _ _ h => h) (by rfl) (v := ?_) (fun w hSw => ?_) hS (fun hS => ?_)
    rotate_left
    · go_simp; try with_reducible rfl
    try go_frame
    refine held_pure (i := 10) (oi := ⟨some 78, _, _, _, _, _⟩) rfl (by kernel_rfl) (by kernel_rfl) (by kernel_rfl) (fun _ _ _ h => h) (by rfl) (v := ?_) (fun w hSw => ?_) hS (fun hS => ?_)
    rotate_left
    · go_simp; try with_reducible rfl
    try go_frame
    refine held_pure (i := 11) (oi := ⟨some 79, _, _, _, _, _⟩) rfl (by kernel_rfl) (by kernel_rfl) (by kernel_rfl) (fun _ _ _ h => h) (by rfl) (v := ?_) (fun w hSw => ?_) hS (fun hS => ?_)
    rotate_left
    · go_simp; try with_reducible rfl
    try go_frame
    refine held_pure (i := 12) (oi := ⟨some 80, _, _, _, _, _⟩) rfl (by kernel_rfl) (by kernel_rfl) (by kernel_rfl) (fun _ _ _ h => h) (by rfl) (fun w hSw => run_load_int rfl rfl (KM.out _ hSw)) hS (fun hS => ?_)
    try go_frame
    refine wpAnyH_ready (rs := [1]) (by kernel_rfl) (by simp) (AllReadyH.cons (o := ⟨some 69, _, _, _, _, _⟩) rfl (fun K hK => ?_) AllReadyH.nil)
    rw [if_pos (by rfl)]
    go_simp
    refine (HBY.out _ hS).mono ?_
    rintro e y1 ⟨rfl, s1⟩
    show K _ _
    refine hK.out _ _ (below_step hS s1) (fun hS => ?_)
    clear hK K
    try go_frame
    refine wpAnyH_ready (rs := [7]) (by kernel_rfl) (by simp) (AllReadyH.cons (o := ⟨some 75, _, _, _, _, _⟩) rfl (fun K hK => ?_) AllReadyH.nil)
    rw [if_pos (by rfl)]
    go_simp
    refine (HRO.out _ hS).mono ?_
    rintro e y7 ⟨rfl, s7⟩
    show K _ _
    refine hK.out _ _ (below_step hS s7) (fun hS => ?_)
    clear hK K
    try go_frame
    refine held_pure (i := 8) (oi := ⟨some 76, _, _, _, _, _⟩) rfl (by kernel_rfl) (by kernel_rfl) (by kernel_rfl) (fun _ _ _ h => h) (by rfl) (v := .int .i64 (BY + RO)) (fun w hSw => by go_simp; try exact HWS.out) hS (fun hS => ?_)
    try go_frame
    refine held_pure (i := 13) (oi := ⟨some 81, _, _, _, _, _⟩) rfl (by kernel_rfl) (by kernel_rfl) (by kernel_rfl) (fun _ _ _ h => h) (by rfl) (v := .bool true) (fun w hSw => by go_simp; try exact dm) hS (fun hS => ?_)
    try go_frame
    refine wpAnyH_done (by kernel_rfl) ?_ _
    go_wp2_with (go_at_call 47; refine (r16without (HQ.out (x1.trans (hS.mono x1.size))) k (by rw [← HN.out]; exact hkn)).mono ?_; rintro e z4 ⟨rfl, v4, q4, k4, b4⟩; have Q4 := Lib.hid q4; have K4 := Lib.hid k4; have HV4 := Lib.hid b4; clear q4 k4 b4)
    refine bodyPost_ret (results_tmp4r rfl _ _ _) rfl (HFIN.out _ _ ?_)
    exact ⟨v4, t.eraseIdx k, .slice none 0 0, by rw [HADD.out.1 hroom]; rfl, Q4.out, by rw [HADD.out.1 hroom, HERA.out], by rw [HADD.out.1 hroom]; exact World.ownsRow_nil _ _ _ _, (Kept.of_below (x1.trans (hS.mono x1.size))).trans K4.out (fun _ _ h => .inl h), fun j hj => .inr (Nat.le_trans (x1.trans (hS.mono x1.size)).size (HV4.out j hj))⟩
  · have dm : decide (mb < BY + RO) = false := decide_eq_false (by omega)
    refine wp_region_held_drew (S := fun w' => Below w1.heap.size w1 w') (by kernel_rfl) (Below.refl _ _).drew (fun hS => ?_)
    refine held_pure (i := 0) (oi := ⟨some 68, _, _, _, _, _⟩) rfl (by kernel_rfl) (by kernel_rfl) (by kernel_rfl) (fun _ _ _ h => h) (by rfl) (v := ?_) (fun w hSw => ?_) hS (fun hS => ?_)
    rotate_left
    · go_simp; try with_reducible rfl
    try go_frame
    refine held_pure (i := 2) (oi := ⟨some 70, _, _, _, _, _⟩) rfl (by kernel_rfl) (by kernel_rfl) (by kernel_rfl) (fun _ _ _ h => h) (by rfl) (v := ?_) (fun w hSw => ?_) hS (fun hS => ?_)
    rotate_left
    · go_simp; try with_reducible rfl
    try go_frame
    refine held_pure (i := 3) (oi := ⟨some 71, _, _, _, _, _⟩) rfl (by kernel_rfl) (by kernel_rfl) (by kernel_rfl) (fun _ _ _ h => h) (by rfl) (v := ?_) (fun w hSw => ?_) hS (fun hS => ?_)
    rotate_left
    · go_simp; try with_reducible rfl
    try go_frame
    refine held_pure (i := 4) (oi := ⟨some 72, _, _, _, _, _⟩) rfl (by kernel_rfl) (by kernel_rfl) (by kernel_rfl) (fun _ _ _ h => h) (by rfl) (v := ?_) (fun w hSw => ?_) hS (fun hS => ?_)
    rotate_left
    · go_simp; try with_reducible rfl
    try go_frame
    refine held_pure (i := 5) (oi := ⟨some 73, _, _, _, _, _⟩) rfl (by kernel_rfl) (by kernel_rfl) (by kernel_rfl) (fun _ _ _ h => h) (by rfl) (v := ?_) (fun w hSw => ?_) hS (fun hS => ?_)
    rotate_left
    · go_simp; try with_reducible rfl
    try go_frame
    refine held_pure (i := 6) (oi := ⟨some 74, _, _, _, _, _⟩) rfl (by kernel_rfl) (by kernel_rfl) (by kernel_rfl) (fun _ _ _ h => h) (by rfl) (v := ?_) (fun w hSw => ?_) hS (fun hS => ?_)
    rotate_left
    · go_simp; try with_reducible rfl
    try go_frame
    refine held_pure (i := 9) (oi := ⟨some 77, _, _, _, _, _⟩) rfl (by kernel_rfl) (by kernel_rfl) (by kernel_rfl) (fun _ _ _ h => h) (by rfl) (v := ?_) (fun w hSw => ?_) hS (fun hS => ?_)
    rotate_left
    · go_simp; try with_reducible rfl
    try go_frame
    refine held_pure (i := 10) (oi := ⟨some 78, _, _, _, _, _⟩) rfl (by kernel_rfl) (by kernel_rfl) (by kernel_rfl) (fun _ _ _ h => h) (by rfl) (v := ?_) (fun w hSw => ?_) hS (fun hS => ?_)
    rotate_left
    · go_simp; try with_reducible rfl
    try go_frame
    refine held_pure (i := 11) (oi := ⟨some 79, _, _, _, _, _⟩) rfl (by kernel_rfl) (by kernel_rfl) (by kernel_rfl) (fun _ _ _ h => h) (by rfl) (v := ?_) (fun w hSw => ?_) hS (fun hS => ?_)
    rotate_left
    · go_simp; try with_reducible rfl
    try go_frame
    refine held_pure (i := 12) (oi := ⟨some 80, _, _, _, _, _⟩) rfl (by kernel_rfl) (by kernel_rfl) (by kernel_rfl) (fun _ _ _ h => h) (by rfl) (fun w hSw => run_load_int rfl rfl (KM.out _ hSw)) hS (fun hS => ?_)
    try go_frame
    refine wpAnyH_ready (rs := [1]) (by kernel_rfl) (by simp) (AllReadyH.cons (o := ⟨some 69, _, _, _, _, _⟩) rfl (fun K hK => ?_) AllReadyH.nil)
    rw [if_pos (by rfl)]
    go_simp
    refine (HBY.out _ hS).mono ?_
    rintro e y1 ⟨rfl, s1⟩
    show K _ _
    refine hK.out _ _ (below_step hS s1) (fun hS => ?_)
    clear hK K
    try go_frame
    refine wpAnyH_ready (rs := [7]) (by kernel_rfl) (by simp) (AllReadyH.cons (o := ⟨some 75, _, _, _, _, _⟩) rfl (fun K hK => ?_) AllReadyH.nil)
    rw [if_pos (by rfl)]
    go_simp
    refine (HRO.out _ hS).mono ?_
    rintro e y7 ⟨rfl, s7⟩
    show K _ _
    refine hK.out _ _ (below_step hS s7) (fun hS => ?_)
    clear hK K
    try go_frame
    refine held_pure (i := 8) (oi := ⟨some 76, _, _, _, _, _⟩) rfl (by kernel_rfl) (by kernel_rfl) (by kernel_rfl) (fun _ _ _ h => h) (by rfl) (v := .int .i64 (BY + RO)) (fun w hSw => by go_simp; try exact HWS.out) hS (fun hS => ?_)
    try go_frame
    refine held_pure (i := 13) (oi := ⟨some 81, _, _, _, _, _⟩) rfl (by kernel_rfl) (by kernel_rfl) (by kernel_rfl) (fun _ _ _ h => h) (by rfl) (v := .bool false) (fun w hSw => by go_simp; try exact dm) hS (fun hS => ?_)
    try go_frame
    refine wpAnyH_done (by kernel_rfl) ?_ _

    have HB7 : Hid (Below w.heap.size w y7) := Lib.hid (x1.trans (hS.mono x1.size))
    have HPT := Lib.hid (HPART.out HB7.out)
    by_cases hE : E = 0
    · have dE : (E == 0) = true := by simpa using hE
      have dE' : (E != 0) = false := by simpa using hE
      by_cases h0 : off = 0
      · cases hh : x.has with
        | true =>
          have d0 : (off == 0) = true := by simpa using h0
          have H0 := Lib.hid h0
          have HHS := Lib.hid hh
          clear h0 hh
          go_upto_region 17 with (go_at_call 48; refine HPT.out.mono ?_; rintro e z1 ⟨rfl, xx, p1, p2, p3, p4⟩)
          obtain ⟨cur1, hb1⟩ := p1.row (List.getElem?_set_self (by rw [← HN.out]; exact hkn))
          have hhas : xx.has = x.has := congrArg Bf.has p2
          have hhead : xx.head = x.head := congrArg Bf.head p2
          have HP1 := Lib.hid p1
          have HP2 := Lib.hid p2
          have HXG1 : Hid ((t.set k xx)[k]? = some xx) := Lib.hid (List.getElem?_set_self (by rw [← HN.out]; exact hkn))
          have kr1 : z1.rangeAt b (k * 5) (clB xx) := by
            obtain ⟨b9, e9, r9⟩ := p1.at_ HXG1.out
            injection e9 with e9
            injection e9 with e9 _ _
            rw [e9]; exact r9
          have k13 : z1.cell? ⟨b, k * 5 + 3, none⟩ = some (.string (strB xx.head)) := by simpa using kr1 3 _ rfl
          have k14 : z1.cell? ⟨b, k * 5 + 4, none⟩ = some (.bool xx.has) := by simpa using kr1 4 _ rfl
          have f13 := heap_frozen hb1 (k * 5 + 3)
          have f14 := heap_frozen hb1 (k * 5 + 4)
          have K1 : Hid (Kept (fun j => j = g ∨ (Value.slice (some ⟨b, 0, none⟩) n c).ownBlock = some j) w z1) := Lib.hid ((Kept.of_below HB7.out).trans p4 (fun _ _ h => .inr (by rw [h]; rfl)))
          clear p1 p2 p3 p4 kr1 hb1
          rw [hhas, HHS.out] at k14
          go_upto_region 19 with fail
          have hu : bfE xx = upJ (bfE x) ⟨off, more, s⟩ head := by
            rw [HP2.out, upJ]
            show Bf.mk _ _ _ _ _ = Bf.mk _ _ _ _ _
            have : (bfE x).has = true := HHS.out
            have h0 := H0.out
            simp [h0, this]; rfl
          have q2 := HP1.out
          have K2 := K1.out
          clear K1 k13 k14 f13 f14 hhas hhead
          generalize xx = x2 at *
          generalize z1 = z2 at *
          have HQ2 := Lib.hid q2
          have HU := Lib.hid hu
          have HK2 := Lib.hid K2
          have HW2 := Lib.hid (show piE x2.l = addL (piE x.l) ⟨off, more, s⟩ from congrArg Bf.l hu)
          have HXG : Hid ((t.set k x2)[k]? = some x2) := Lib.hid (List.getElem?_set_self (by rw [← HN.out]; exact hkn))
          have hd := r16done q2 HXG.out (by rw [HW2.out]; exact HWF.out)
          rw [HW2.out] at hd
          have HD := Lib.hid hd
          clear hd q2 hu K2
          cases hdn : doneB (addL (piE x.l) ⟨off, more, s⟩) with
          | false =>
            rw [hdn] at HD
            go_wp2_with (go_at_call 49; refine HD.out.mono ?_; rintro e z3 ⟨vv, rfl, mk⟩; obtain ⟨_, _, _, _, _, _, s3⟩ := mk)
            refine bodyPost_ret (results_tmp4r rfl _ _ _) rfl (HFIN.out _ _ ?_)
            exact ⟨_, t.set k x2, .slice none 0 0, by rw [HADD.out.2.2.2 hroom hE hdn]; rfl, HQ2.out.below s3, by rw [HADD.out.2.2.2 hroom hE hdn, ← HU.out, tbE, List.map_set]; rfl, by rw [HADD.out.2.2.2 hroom hE hdn]; exact World.ownsRow_nil _ _ _ _, HK2.out.then_below s3, fun j hj => .inl hj⟩
          | true =>
            rw [hdn] at HD
            have HHD := Lib.hid (show x2.head = (upJ (bfE x) ⟨off, more, s⟩ head).head from congrArg Bf.head HU.out)
            have KHD : Hid (∀ V, Below z2.heap.size z2 V → V.cell? ⟨b, k * 5 + 3, none⟩ = some (.string (strB x2.head))) := Lib.hid fun V hV => by
              obtain ⟨b9, e9, r9⟩ := (HQ2.out.below hV).at_ HXG.out
              injection e9 with e9
              injection e9 with e9 _ _
              rw [e9]; simpa using r9 3 _ rfl
            go_wp2_with (first
              | (go_at_call 49; refine HD.out.mono ?_; rintro e z3 ⟨vv, rfl, mk⟩; obtain ⟨A5, c5, rfl, _, _, own3, s3⟩ := mk; have O3 := Lib.hid own3; have S3 := Lib.hid s3; have kh3 := KHD.out _ s3; clear own3)
              | (go_at_call 47; refine (r16without (HQ2.out.below S3.out) k (by rw [List.length_set, ← HN.out]; exact hkn)).mono ?_; rintro e z4 ⟨rfl, v4, q4, k4, b4⟩; have Q4 := Lib.hid q4; have K4 := Lib.hid k4; have HV4 := Lib.hid b4; clear q4 k4 b4))
            refine bodyPost_ret (results_tmp4r rfl _ _ _) rfl (HFIN.out _ _ ?_)
            refine ⟨v4, t.eraseIdx k, _, by rw [HADD.out.2.2.1 hroom hE hdn, ← HHD.out]; rfl, by have := Q4.out; rwa [List.eraseIdx_set_eq] at this, by rw [HADD.out.2.2.1 hroom hE hdn, tbE, tbE, erase_map], ?_, (HK2.out.then_below S3.out).trans K4.out (fun _ _ h => .inl h), fun j hj => .inr (Nat.le_trans (HK2.out.then_below S3.out).size (HV4.out j hj))⟩
            rw [HADD.out.2.2.1 hroom hE hdn]
            have h9 := own_keptO O3.out K4.out (T := fun ty => ty = 44) (fun j hj => by have hj : j = g := hj; subst hj; exact ⟨_, _, (HQ2.out.below S3.out).tab, rfl⟩) neB.2.2
            exact own_baseU h9 HK2.out.size

        | false =>
          have d0 : (off == 0) = true := by simpa using h0
          have H0 := Lib.hid h0
          have HHS := Lib.hid hh
          clear h0 hh
          go_upto_region 17 with (go_at_call 48; refine HPT.out.mono ?_; rintro e z1 ⟨rfl, xx, p1, p2, p3, p4⟩)
          obtain ⟨cur1, hb1⟩ := p1.row (List.getElem?_set_self (by rw [← HN.out]; exact hkn))
          have hhas : xx.has = x.has := congrArg Bf.has p2
          have hhead : xx.head = x.head := congrArg Bf.head p2
          have HP1 := Lib.hid p1
          have HP2 := Lib.hid p2
          have HXG1 : Hid ((t.set k xx)[k]? = some xx) := Lib.hid (List.getElem?_set_self (by rw [← HN.out]; exact hkn))
          have kr1 : z1.rangeAt b (k * 5) (clB xx) := by
            obtain ⟨b9, e9, r9⟩ := p1.at_ HXG1.out
            injection e9 with e9
            injection e9 with e9 _ _
            rw [e9]; exact r9
          have k13 : z1.cell? ⟨b, k * 5 + 3, none⟩ = some (.string (strB xx.head)) := by simpa using kr1 3 _ rfl
          have k14 : z1.cell? ⟨b, k * 5 + 4, none⟩ = some (.bool xx.has) := by simpa using kr1 4 _ rfl
          have f13 := heap_frozen hb1 (k * 5 + 3)
          have f14 := heap_frozen hb1 (k * 5 + 4)
          have K1 : Hid (Kept (fun j => j = g ∨ (Value.slice (some ⟨b, 0, none⟩) n c).ownBlock = some j) w z1) := Lib.hid ((Kept.of_below HB7.out).trans p4 (fun _ _ h => .inr (by rw [h]; rfl)))
          clear p1 p2 p3 p4 kr1 hb1
          rw [hhas, HHS.out] at k14
          have HXX := Lib.hid (HP1.out.parts xx (List.mem_of_getElem? HXG1.out))
          have hq3 := HP1.out.cell (by rw [List.length_set]; exact HN.out) HXG1.out (i := 3) (by omega) (u := .string (strB head)) (x' := { xx with head := head }) rfl ⟨HXX.out.own, HXX.out.byt, HXX.out.ok, HXX.out.n⟩
          rw [List.set_set] at hq3
          have HQ3 := Lib.hid hq3
          have hg3 : (t.set k { xx with head := head })[k]? = some { xx with head := head } := List.getElem?_set_self (by rw [← HN.out]; exact hkn)
          have HX3 := Lib.hid (hq3.parts _ (List.mem_of_getElem? hg3))
          have hq4 := hq3.cell (by rw [List.length_set]; exact HN.out) hg3 (i := 4) (by omega) (u := .bool true) (x' := { xx with head := head, has := true }) rfl ⟨HX3.out.own, HX3.out.byt, HX3.out.ok, HX3.out.n⟩
          rw [List.set_set] at hq4
          have HQ4 := Lib.hid hq4
          have K2' : Hid (Kept (fun j => j = g ∨ (Value.slice (some ⟨b, 0, none⟩) n c).ownBlock = some j) w ((z1.setCell ⟨b, k * 5 + 3, none⟩ (.string (strB head))).setCell ⟨b, k * 5 + 4, none⟩ (.bool true))) := Lib.hid ((K1.out.trans (Kept.setCell z1 b _ _) (fun _ _ h => .inr (by rw [h]; rfl))).trans (Kept.setCell _ b _ _) (fun _ _ h => .inr (by rw [h]; rfl)))
          clear hq3 hg3 hq4
          go_upto_region 19 with fail
          have hu : bfE { xx with head := head, has := true } = upJ (bfE x) ⟨off, more, s⟩ head := by
            have e1 : (bfE xx).l = addL (piE x.l) ⟨off, more, s⟩ := congrArg Bf.l HP2.out
            have e2 : (bfE xx).key = x.key := congrArg Bf.key HP2.out
            have e3 : (bfE xx).since = x.since := congrArg Bf.since HP2.out
            have e4 : (bfE x).has = false := HHS.out
            have h0 := H0.out
            rw [upJ, e4]
            show Bf.mk (bfE xx).key (bfE xx).since (bfE xx).l head true = _
            rw [e1, e2, e3]
            simp [h0]; exact ⟨rfl, rfl, rfl⟩
          have q2 := HQ4.out
          have K2 := K2'.out
          clear K1 K2' HQ3 HQ4 k13 k14 f13 f14 hhas hhead HX3 HXX HXG1 HP2
          generalize hx2 : ({ xx with head := head, has := true } : XB) = x2 at *
          generalize hz2 : (z1.setCell ⟨b, k * 5 + 3, none⟩ (.string (strB head))).setCell ⟨b, k * 5 + 4, none⟩ (.bool true) = z2 at *
          clear hx2 hz2
          have HQ2 := Lib.hid q2
          have HU := Lib.hid hu
          have HK2 := Lib.hid K2
          have HW2 := Lib.hid (show piE x2.l = addL (piE x.l) ⟨off, more, s⟩ from congrArg Bf.l hu)
          have HXG : Hid ((t.set k x2)[k]? = some x2) := Lib.hid (List.getElem?_set_self (by rw [← HN.out]; exact hkn))
          have hd := r16done q2 HXG.out (by rw [HW2.out]; exact HWF.out)
          rw [HW2.out] at hd
          have HD := Lib.hid hd
          clear hd q2 hu K2
          cases hdn : doneB (addL (piE x.l) ⟨off, more, s⟩) with
          | false =>
            rw [hdn] at HD
            go_wp2_with (go_at_call 49; refine HD.out.mono ?_; rintro e z3 ⟨vv, rfl, mk⟩; obtain ⟨_, _, _, _, _, _, s3⟩ := mk)
            refine bodyPost_ret (results_tmp4r rfl _ _ _) rfl (HFIN.out _ _ ?_)
            exact ⟨_, t.set k x2, .slice none 0 0, by rw [HADD.out.2.2.2 hroom hE hdn]; rfl, HQ2.out.below s3, by rw [HADD.out.2.2.2 hroom hE hdn, ← HU.out, tbE, List.map_set]; rfl, by rw [HADD.out.2.2.2 hroom hE hdn]; exact World.ownsRow_nil _ _ _ _, HK2.out.then_below s3, fun j hj => .inl hj⟩
          | true =>
            rw [hdn] at HD
            have HHD := Lib.hid (show x2.head = (upJ (bfE x) ⟨off, more, s⟩ head).head from congrArg Bf.head HU.out)
            have KHD : Hid (∀ V, Below z2.heap.size z2 V → V.cell? ⟨b, k * 5 + 3, none⟩ = some (.string (strB x2.head))) := Lib.hid fun V hV => by
              obtain ⟨b9, e9, r9⟩ := (HQ2.out.below hV).at_ HXG.out
              injection e9 with e9
              injection e9 with e9 _ _
              rw [e9]; simpa using r9 3 _ rfl
            go_wp2_with (first
              | (go_at_call 49; refine HD.out.mono ?_; rintro e z3 ⟨vv, rfl, mk⟩; obtain ⟨A5, c5, rfl, _, _, own3, s3⟩ := mk; have O3 := Lib.hid own3; have S3 := Lib.hid s3; have kh3 := KHD.out _ s3; clear own3)
              | (go_at_call 47; refine (r16without (HQ2.out.below S3.out) k (by rw [List.length_set, ← HN.out]; exact hkn)).mono ?_; rintro e z4 ⟨rfl, v4, q4, k4, b4⟩; have Q4 := Lib.hid q4; have K4 := Lib.hid k4; have HV4 := Lib.hid b4; clear q4 k4 b4))
            refine bodyPost_ret (results_tmp4r rfl _ _ _) rfl (HFIN.out _ _ ?_)
            refine ⟨v4, t.eraseIdx k, _, by rw [HADD.out.2.2.1 hroom hE hdn, ← HHD.out]; rfl, by have := Q4.out; rwa [List.eraseIdx_set_eq] at this, by rw [HADD.out.2.2.1 hroom hE hdn, tbE, tbE, erase_map], ?_, (HK2.out.then_below S3.out).trans K4.out (fun _ _ h => .inl h), fun j hj => .inr (Nat.le_trans (HK2.out.then_below S3.out).size (HV4.out j hj))⟩
            rw [HADD.out.2.2.1 hroom hE hdn]
            have h9 := own_keptO O3.out K4.out (T := fun ty => ty = 44) (fun j hj => by have hj : j = g := hj; subst hj; exact ⟨_, _, (HQ2.out.below S3.out).tab, rfl⟩) neB.2.2
            exact own_baseU h9 HK2.out.size

      · skip
        go_upto_region 17 with (go_at_call 48; refine HPT.out.mono ?_; rintro e z1 ⟨rfl, xx, p1, p2, p3, p4⟩)
        obtain ⟨cur1, hb1⟩ := p1.row (List.getElem?_set_self (by rw [← HN.out]; exact hkn))
        have hhas : xx.has = x.has := congrArg Bf.has p2
        have hhead : xx.head = x.head := congrArg Bf.head p2
        have HP1 := Lib.hid p1
        have HP2 := Lib.hid p2
        have HXG1 : Hid ((t.set k xx)[k]? = some xx) := Lib.hid (List.getElem?_set_self (by rw [← HN.out]; exact hkn))
        have kr1 : z1.rangeAt b (k * 5) (clB xx) := by
          obtain ⟨b9, e9, r9⟩ := p1.at_ HXG1.out
          injection e9 with e9
          injection e9 with e9 _ _
          rw [e9]; exact r9
        have k13 : z1.cell? ⟨b, k * 5 + 3, none⟩ = some (.string (strB xx.head)) := by simpa using kr1 3 _ rfl
        have k14 : z1.cell? ⟨b, k * 5 + 4, none⟩ = some (.bool xx.has) := by simpa using kr1 4 _ rfl
        have f13 := heap_frozen hb1 (k * 5 + 3)
        have f14 := heap_frozen hb1 (k * 5 + 4)
        have K1 : Hid (Kept (fun j => j = g ∨ (Value.slice (some ⟨b, 0, none⟩) n c).ownBlock = some j) w z1) := Lib.hid ((Kept.of_below HB7.out).trans p4 (fun _ _ h => .inr (by rw [h]; rfl)))
        clear p1 p2 p3 p4 kr1 hb1
        have d0 : (off == 0) = false := by simpa using h0
        go_upto_region 19 with fail
        have hu : bfE xx = upJ (bfE x) ⟨off, more, s⟩ head := by
          rw [HP2.out, upJ]
          show Bf.mk _ _ _ _ _ = Bf.mk _ _ _ _ _
          simp [h0]; rfl
        have q2 := HP1.out
        have K2 := K1.out
        clear K1 k13 k14 f13 f14 hhas hhead
        generalize xx = x2 at *
        generalize z1 = z2 at *
        have HQ2 := Lib.hid q2
        have HU := Lib.hid hu
        have HK2 := Lib.hid K2
        have HW2 := Lib.hid (show piE x2.l = addL (piE x.l) ⟨off, more, s⟩ from congrArg Bf.l hu)
        have HXG : Hid ((t.set k x2)[k]? = some x2) := Lib.hid (List.getElem?_set_self (by rw [← HN.out]; exact hkn))
        have hd := r16done q2 HXG.out (by rw [HW2.out]; exact HWF.out)
        rw [HW2.out] at hd
        have HD := Lib.hid hd
        clear hd q2 hu K2
        cases hdn : doneB (addL (piE x.l) ⟨off, more, s⟩) with
        | false =>
          rw [hdn] at HD
          go_wp2_with (go_at_call 49; refine HD.out.mono ?_; rintro e z3 ⟨vv, rfl, mk⟩; obtain ⟨_, _, _, _, _, _, s3⟩ := mk)
          refine bodyPost_ret (results_tmp4r rfl _ _ _) rfl (HFIN.out _ _ ?_)
          exact ⟨_, t.set k x2, .slice none 0 0, by rw [HADD.out.2.2.2 hroom hE hdn]; rfl, HQ2.out.below s3, by rw [HADD.out.2.2.2 hroom hE hdn, ← HU.out, tbE, List.map_set]; rfl, by rw [HADD.out.2.2.2 hroom hE hdn]; exact World.ownsRow_nil _ _ _ _, HK2.out.then_below s3, fun j hj => .inl hj⟩
        | true =>
          rw [hdn] at HD
          have HHD := Lib.hid (show x2.head = (upJ (bfE x) ⟨off, more, s⟩ head).head from congrArg Bf.head HU.out)
          have KHD : Hid (∀ V, Below z2.heap.size z2 V → V.cell? ⟨b, k * 5 + 3, none⟩ = some (.string (strB x2.head))) := Lib.hid fun V hV => by
            obtain ⟨b9, e9, r9⟩ := (HQ2.out.below hV).at_ HXG.out
            injection e9 with e9
            injection e9 with e9 _ _
            rw [e9]; simpa using r9 3 _ rfl
          go_wp2_with (first
            | (go_at_call 49; refine HD.out.mono ?_; rintro e z3 ⟨vv, rfl, mk⟩; obtain ⟨A5, c5, rfl, _, _, own3, s3⟩ := mk; have O3 := Lib.hid own3; have S3 := Lib.hid s3; have kh3 := KHD.out _ s3; clear own3)
            | (go_at_call 47; refine (r16without (HQ2.out.below S3.out) k (by rw [List.length_set, ← HN.out]; exact hkn)).mono ?_; rintro e z4 ⟨rfl, v4, q4, k4, b4⟩; have Q4 := Lib.hid q4; have K4 := Lib.hid k4; have HV4 := Lib.hid b4; clear q4 k4 b4))
          refine bodyPost_ret (results_tmp4r rfl _ _ _) rfl (HFIN.out _ _ ?_)
          refine ⟨v4, t.eraseIdx k, _, by rw [HADD.out.2.2.1 hroom hE hdn, ← HHD.out]; rfl, by have := Q4.out; rwa [List.eraseIdx_set_eq] at this, by rw [HADD.out.2.2.1 hroom hE hdn, tbE, tbE, erase_map], ?_, (HK2.out.then_below S3.out).trans K4.out (fun _ _ h => .inl h), fun j hj => .inr (Nat.le_trans (HK2.out.then_below S3.out).size (HV4.out j hj))⟩
          rw [HADD.out.2.2.1 hroom hE hdn]
          have h9 := own_keptO O3.out K4.out (T := fun ty => ty = 44) (fun j hj => by have hj : j = g := hj; subst hj; exact ⟨_, _, (HQ2.out.below S3.out).tab, rfl⟩) neB.2.2
          exact own_baseU h9 HK2.out.size

    · skip
      have dE : (E == 0) = false := by simpa using hE
      have dE' : (E != 0) = true := by simpa using hE
      go_wp2_with (first
        | (go_at_call 48; refine HPT.out.mono ?_; rintro e z1 ⟨rfl, xx, p1, p2, p3, p4⟩; have P1 := Lib.hid p1; have P4 := Lib.hid p4; clear p1 p2 p3 p4)
        | (go_at_call 47; refine (r16without P1.out k (by rw [List.length_set, ← HN.out]; exact hkn)).mono ?_; rintro e z4 ⟨rfl, v4, q4, k4, b4⟩; have Q4 := Lib.hid q4; have K4 := Lib.hid k4; have HV4 := Lib.hid b4; clear q4 k4 b4))
      refine bodyPost_ret (results_tmp4r rfl _ _ _) rfl (HFIN.out _ _ ?_)
      exact ⟨v4, t.eraseIdx k, .slice none 0 0, by rw [HADD.out.2.1 hroom hE]; rfl, by have := Q4.out; rwa [List.eraseIdx_set_eq] at this, by rw [HADD.out.2.1 hroom hE, tbE, tbE, erase_map], by rw [HADD.out.2.1 hroom hE]; exact World.ownsRow_nil _ _ _ _, ((Kept.of_below HB7.out).trans P4.out (fun _ _ h => .inr (by rw [h]; rfl))).trans K4.out (fun _ _ h => .inl h), fun j hj => .inr (Nat.le_trans (Nat.le_trans HB7.out.size P4.out.size) (HV4.out j hj))⟩

end
end Go.Proofs.Ytghbliabmecbcaa

/-
  Layer 16's buffers of the code and the document's, side by side: the same parts, by keys. No program. Conditions are each theorem's own.
-/
namespace Go.Proofs.Ytghbliabmecbcaa
/-- A buffer of the code is one of the document's. -/
structure SmB (s : Bu) (b : Bf) : Prop where
  key : s.key = b.key
  since : s.began = b.since
  l : Same (piE s.L) b.l
  head : s.head = b.head
  has : s.headed = b.has
def SameT (S : List Bu) (T : List Bf) : Prop := ∃ Z : List (Bu × Bf), S.Perm (Z.map (·.1)) ∧ T = Z.map (·.2) ∧ ∀ z ∈ Z, SmB z.1 z.2
section
variable {S R : List Bu} {T : List Bf} {s : Bu} {key : List UInt8}
theorem SameT.nil : SameT [] [] := ⟨[], List.Perm.refl _, rfl, fun z hz => by cases hz⟩
theorem SameT.len (h : SameT S T) : S.length = T.length := by
  obtain ⟨Z, h1, h2, _⟩ := h
  rw [h1.length_eq, h2, List.length_map, List.length_map]
theorem SameT.perm (h : SameT S T) (hp : R.Perm S) : SameT R T := by
  obtain ⟨Z, h1, h2, h3⟩ := h
  exact ⟨Z, hp.trans h1, h2, h3⟩
theorem sumB_zip : ∀ (Z : List (Bu × Bf)), (∀ z ∈ Z, SmB z.1 z.2) → sumB (Z.map (·.1)) = bytesJ (Z.map (·.2))
  | [], _ => rfl
  | z :: Z, h => by
    have e := sumB_zip Z (fun y hy => h y (List.mem_cons_of_mem _ hy))
    have e2 := (h z (List.mem_cons_self ..)).l.bytes
    show z.1.by + sumB (Z.map (·.1)) = bytesP z.2.l + bytesJ (Z.map (·.2))
    rw [e, ← e2]; rfl
theorem SameT.bytes (h : SameT S T) : sumB S = bytesJ T := by
  obtain ⟨Z, h1, h2, h3⟩ := h
  rw [sumB_perm h1, h2, sumB_zip Z h3]
theorem findJ_at {P Q : List Bf} {x : Bf} (hx : x.key = key) (hn : ∀ y ∈ P, y.key ≠ key) : findJ (P ++ x :: Q) key = P.length := by
  induction P with
  | nil => rw [List.nil_append, findJ_cons, if_pos hx]; rfl
  | cons y P ih =>
    rw [List.cons_append, findJ_cons, if_neg (hn y (List.mem_cons_self ..)), ih (fun z hz => hn z (List.mem_cons_of_mem _ hz))]
    rfl
theorem SameT.hit (h : SameT S T) (hp : S.Perm (s :: R)) (hk : s.key = key) (nd : S.Pairwise (fun a b => a.key ≠ b.key)) :
    ∃ x, T[findJ T key]? = some x ∧ SmB s x ∧ SameT R (T.eraseIdx (findJ T key)) ∧ ∀ s' x', SmB s' x' → SameT (s' :: R) (T.set (findJ T key) x') := by
  obtain ⟨Z, h1, h2, h3⟩ := h
  have hm : s ∈ Z.map (·.1) := (hp.symm.trans h1).mem_iff.1 (List.mem_cons_self ..)
  obtain ⟨z, hz, hzs⟩ := List.mem_map.1 hm
  obtain ⟨P, Q, rfl⟩ := List.append_of_mem hz
  have hzs : z.1 = s := hzs
  have hsm := h3 z hz
  have ndZ : ((P ++ z :: Q).map (·.1)).Pairwise (fun a b => a.key ≠ b.key) := h1.pairwise nd (fun e => e.symm)
  have hzk : z.2.key = key := by rw [← hsm.key, hzs, hk]
  have hno : ∀ y ∈ P.map (·.2), y.key ≠ key := fun y hy => by
    obtain ⟨q, hq, rfl⟩ := List.mem_map.1 hy
    rw [List.map_append] at ndZ
    have := (List.pairwise_append.1 ndZ).2.2 q.1 (List.mem_map.2 ⟨q, hq, rfl⟩) z.1 (by simp)
    rw [(h3 q (by simp [hq])).key, hzs, hk] at this
    exact this
  have eT : T = P.map (·.2) ++ z.2 :: Q.map (·.2) := by rw [h2, List.map_append, List.map_cons]
  have hf : findJ T key = (P.map (·.2)).length := by rw [eT]; exact findJ_at hzk hno
  have hR : R.Perm ((P ++ Q).map (·.1)) := by
    have e := hp.symm.trans h1
    rw [List.map_append, List.map_cons, hzs] at e
    rw [List.map_append]
    exact (e.trans List.perm_middle).cons_inv
  refine ⟨z.2, ?_, ?_, ⟨P ++ Q, hR, ?_, fun y hy => h3 y ?_⟩, fun s' x' hs => ⟨P ++ (s', x') :: Q, ?_, ?_, fun y hy => ?_⟩⟩
  · rw [hf, eT, List.getElem?_append_right (Nat.le_refl _), Nat.sub_self]; rfl
  · rw [← hzs]; exact hsm
  · rw [hf, eT, List.eraseIdx_append_of_length_le (Nat.le_refl _), Nat.sub_self, List.map_append]; rfl
  · rcases List.mem_append.1 hy with hy | hy
    · exact List.mem_append_left _ hy
    · exact List.mem_append_right _ (List.mem_cons_of_mem _ hy)
  · rw [List.map_append, List.map_cons]
    rw [List.map_append] at hR
    exact (hR.cons s').trans List.perm_middle.symm
  · rw [hf, eT, List.set_append_right _ _ (Nat.le_refl _), Nat.sub_self, List.map_append]; rfl
  · rcases List.mem_append.1 hy with hy | hy
    · exact h3 y (List.mem_append_left _ hy)
    · rcases List.mem_cons.1 hy with rfl | hy
      · exact hs
      · exact h3 y (List.mem_append_right _ (List.mem_cons_of_mem _ hy))
theorem findJ_ge : ∀ {T : List Bf}, (∀ y ∈ T, y.key ≠ key) → findJ T key = T.length
  | [], _ => rfl
  | y :: T, h => by rw [findJ_cons, if_neg (h y (List.mem_cons_self ..)), findJ_ge (fun z hz => h z (List.mem_cons_of_mem _ hz))]; rfl
theorem SameT.none (h : SameT S T) (hno : ∀ s ∈ S, s.key ≠ key) : findJ T key = T.length ∧ ∀ s' x', SmB s' x' → SameT (s' :: S) (T ++ [x']) := by
  obtain ⟨Z, h1, h2, h3⟩ := h
  refine ⟨findJ_ge fun y hy => ?_, fun s' x' hs => ⟨Z ++ [(s', x')], ?_, ?_, fun y hy => ?_⟩⟩
  · rw [h2] at hy
    obtain ⟨z, hz, rfl⟩ := List.mem_map.1 hy
    rw [← (h3 z hz).key]
    exact hno z.1 (h1.mem_iff.2 (List.mem_map.2 ⟨z, hz, rfl⟩))
  · rw [List.map_append]
    exact (h1.cons s').trans (List.perm_append_comm (l₁ := [s']))
  · rw [List.map_append, h2]; rfl
  · rcases List.mem_append.1 hy with hy | hy
    · exact h3 y hy
    · rw [List.mem_singleton.1 hy]; exact hs
/-- What the code's call asks, told in the document's words. -/
theorem SameT.hit_or (h : SameT S T) (nd : S.Pairwise (fun a b => a.key ≠ b.key)) (key : List UInt8) : (∃ s R, S.Perm (s :: R) ∧ s.key = key) ∨ (∀ s ∈ S, s.key ≠ key) := by
  by_cases hx : ∃ s ∈ S, s.key = key
  · obtain ⟨s, hs, hk⟩ := hx
    obtain ⟨P, Q, rfl⟩ := List.append_of_mem hs
    exact .inl ⟨s, P ++ Q, List.perm_middle, hk⟩
  · exact .inr fun s hs hk => hx ⟨s, hs, hk⟩
end
end Go.Proofs.Ytghbliabmecbcaa

/-
  Layer 16's code and the document's side by side: neither writes what the other owns. Conditions are each theorem's own.
-/
namespace Go.Proofs.Ytghbliabmecbcaa
open Go.RowKit Go.Shelf Go.Maps
/-- Types of blocks that the code's table writes. -/
def TJ (ty : TypeId) : Prop := ty = 71 ∨ ty = 75 ∨ ty = 133 ∨ ty = 128
/-- Blocks that the code's table may write in w. -/
def NJ (B : Nat) (w : World) : Nat → Prop := fun i => B ≤ i ∧ ∀ cs ty fr, w.heap[i]? = some (.cells cs ty fr) → TJ ty
theorem tj_no : ¬ TJ 44 ∧ ¬ TJ 82 ∧ ¬ TJ 142 ∧ ¬ TJ 5 ∧ ¬ TJ 9 ∧ ¬ TJ 34 := by
  refine ⟨?_, ?_, ?_, ?_, ?_, ?_⟩ <;> (rintro (h | h | h | h) <;> exact absurd h (nat_ne (by kernel_rfl)))
section
variable {w w' : World} {B t bm g : Nat} {tot mb my wt most mb2 wait : Int} {M : List (List UInt8 × Nat)} {S : List Bu} {v : Value} {T : List XB}
theorem NJ.away : AwayT w (NJ B w) TJ := fun _ hk cs ty fr hg => hk.2 cs ty fr hg
theorem nj_new (hB : B ≤ w.heap.size) : ∀ i, w.heap.size ≤ i → NJ B w i := fun i hi => ⟨Nat.le_trans hB hi, fun cs ty fr hg => absurd (heap_lt hg) (by omega)⟩
theorem nj_cells {i : Nat} {cs : Array Value} {ty : TypeId} {fr : Nat × Nat} (hi : B ≤ i) (hg : w.heap[i]? = some (.cells cs ty fr)) (ht : TJ ty) : NJ B w i := ⟨hi, fun cs' ty' fr' h => by
  have := hg.symm.trans h
  simp only [Option.some.injEq, Obj.cells.injEq] at this
  rw [← this.2.1]; exact ht⟩
theorem tz_nj (h : Tx w t bm tot mb my wt M S) (hz : Tz B t bm S) : TzN (NJ B w) t bm S := by
  refine ⟨nj_cells hz.1 h.obj (.inl rfl), ⟨hz.2.1, fun cs ty fr hg => ?_⟩, fun s hs => ?_⟩
  · obtain ⟨es, hm', _⟩ := h.map
    exact absurd hg (map_is hm')
  · obtain ⟨h1, h2, h3⟩ := hz.2.2 s hs
    have hb := h.bx s hs
    refine ⟨nj_cells h1 hb.obj (.inr (.inl rfl)), nj_cells h2 hb.hx.obj (.inr (.inr (.inl rfl))), fun k hk => ?_⟩
    rcases hb.hx.own.2 with ⟨hv, _⟩ | ⟨g', cap, cur, hv, _, hh, _⟩
    · have hk' : (Value.slice s.A s.L.length s.c).ownBlock = some k := hk
      rw [hv] at hk'; cases hk'
    · have hk' : (Value.slice s.A s.L.length s.c).ownBlock = some k := hk
      rw [hv] at hk'
      obtain rfl : g' = k := by injection hk'
      exact nj_cells (h3 g' hk) hh (.inr (.inr (.inr rfl)))
theorem XO.keptA {Z : Nat → Prop} {U : TypeId → Prop} {x : XB} (h : XO w x) (k : Kept Z w w') (ha : AwayT w Z U) (h1 : ¬ U 142) (h2 : ¬ U 5) : XO w' x :=
  ⟨own_keptA h.own k ha h1, fun y hy => own_keptA (h.byt y hy) k ha h2, h.ok, h.n⟩
/-- What the code writes is none of the document's. -/
theorem Rj.keptA {Z : Nat → Prop} {U : TypeId → Prop} (h : Rj w g v T most mb wait) (k : Kept Z w w') (ha : AwayT w Z U) (h1 : ¬ U 44) (h2 : ¬ U 82) (h3 : ¬ U 142) (h4 : ¬ U 5) : Rj w' g v T most mb wait :=
  ⟨(k.block g (heap_lt h.tab) (fun s => h1 (ha g s _ _ _ h.tab))).trans h.tab, own_keptA h.own k ha h2, fun x hx => (h.parts x hx).keptA k ha h3 h4, h.n⟩
theorem Rj.nj (h : Rj w g v T most mb wait) (k : Kept (NJ B w) w w') : Rj w' g v T most mb wait := h.keptA k NJ.away tj_no.1 tj_no.2.1 tj_no.2.2.1 tj_no.2.2.2.1
/-- Types of blocks that the document's table writes. -/
def TRf (ty : TypeId) : Prop := ty = 44 ∨ ty = 82
theorem trf_no : ¬ TRf 71 ∧ ¬ TRf 133 ∧ ¬ TRf 128 ∧ ¬ TRf 5 ∧ ¬ TRf 75 ∧ ¬ TRf 34 ∧ ¬ TRf 9 := by
  refine ⟨?_, ?_, ?_, ?_, ?_, ?_, ?_⟩ <;> (rintro (h | h) <;> exact absurd h (nat_ne (by kernel_rfl)))
theorem rj_away (h : Rj w g v T most mb wait) : AwayT w (fun j => j = g ∨ v.ownBlock = some j) TRf := fun j hj cs ty fr hg => by
  rcases hj with rfl | hj
  · have := h.tab.symm.trans hg
    simp only [Option.some.injEq, Obj.cells.injEq] at this
    exact .inl this.2.1.symm
  · rcases h.own.2 with ⟨hv, _⟩ | ⟨g', cap, cur, hv, _, hh, _⟩
    · rw [hv] at hj; cases hj
    · rw [hv] at hj
      obtain rfl : g' = j := by injection hj
      have := hh.symm.trans hg
      simp only [Option.some.injEq, Obj.cells.injEq] at this
      exact .inr this.2.1.symm
/-- What the document writes is none of the code's. -/
theorem Tx.ref (h : Tx w t bm tot mb my wt M S) (r : Rj w g v T most mb2 wait) (k : Kept (fun j => j = g ∨ v.ownBlock = some j) w w') : Tx w' t bm tot mb my wt M S := by
  refine h.awayP k (rj_away r) trf_no.1 trf_no.2.1 trf_no.2.2.1 trf_no.2.2.2.1 trf_no.2.2.2.2.1 (fun hb => ?_)
  obtain ⟨es, hm', _⟩ := h.map
  rcases hb with rfl | hb
  · exact map_is hm' r.tab
  · rcases r.own.2 with ⟨hv, _⟩ | ⟨g', cap, cur, hv, _, hh, _⟩
    · rw [hv] at hb; cases hb
    · rw [hv] at hb
      obtain rfl : g' = bm := by injection hb
      exact map_is hm' hh
end
end Go.Proofs.Ytghbliabmecbcaa

/-
  Add of layer 16: what the code answers is what the document says. Conditions are each theorem's own.
-/
namespace Go.Proofs.Ytghbliabmecbcaa
open Go.RowKit Go.Shelf Go.Maps
theorem SmB.up {s : Bu} {x : Bf} {A2 : Option Addr} {c2 : Nat} {L2 : List XP} {p : Pc} {head : List UInt8} (h : SmB s x) (hl : Same (piE L2) (addL x.l p)) : SmB (tellB (s.with_ A2 c2 L2) p.off head) (upJ x p head) := by
  have e1 : (s.with_ A2 c2 L2).key = s.key := rfl
  have hh : s.headed = x.has := h.has
  refine ⟨by rw [tellB_key]; exact h.key, by rw [tellB_began]; exact h.since, by rw [tellB_L]; exact hl, ?_, ?_⟩
  · show (tellB (s.with_ A2 c2 L2) p.off head).head = if p.off = 0 ∧ x.has = false then head else x.head
    unfold tellB
    rw [← hh, ← h.head]
    show (if p.off = 0 ∧ s.headed = false then _ else _ : Bu).head = _
    split <;> rfl
  · show (tellB (s.with_ A2 c2 L2) p.off head).headed = (x.has || decide (p.off = 0))
    unfold tellB
    rw [← hh]
    show (if p.off = 0 ∧ s.headed = false then _ else _ : Bu).headed = _
    split
    · rename_i h9; rw [h9.1]; simp
    · rename_i h9
      show s.headed = _
      by_cases h0 : p.off = 0
      · cases hb : s.headed with
        | true => rfl
        | false => exact absurd ⟨h0, hb⟩ h9
      · rw [decide_eq_false h0, Bool.or_false]
theorem SmB.fresh {s : Bu} {key : List UInt8} {now : Int} (h : Fresh s key now) : SmB s (newJ key now) :=
  ⟨h.1, h.2.2.2.2.1, by rw [h.2.2.2.1]; exact Same.nil, h.2.2.2.2.2.1, h.2.2.2.2.2.2⟩
/-- The key's buffer, in the code and in the document: it is there, or it is new. -/
theorem key_both {S R : List Bu} {T : List Bf} {s : Bu} {key : List UInt8} {now most mb : Int} {p : Pc} {head : List UInt8} (h : SameT S T) (nd : S.Pairwise (fun a b => a.key ≠ b.key)) (hm : (∃ s ∈ S, s.key = key) ∨ ¬ (S.length : Int) ≥ most) (hk : s.key = key)
    (hc : S.Perm (s :: R) ∨ (S = R ∧ Fresh s key now ∧ ∀ x ∈ S, x.key ≠ key)) :
    ∃ (T1 : List Bf) (k : Nat) (x : Bf), addJ most mb T key p head now = putJ mb T T1 k x p head ∧ SmB s x ∧ bytesJ T1 = bytesJ T ∧ SameT R (T1.eraseIdx k) ∧ ∀ s' x', SmB s' x' → SameT (s' :: R) (T1.set k x') := by
  rcases hc with hp | ⟨rfl, hf, hno⟩
  · obtain ⟨x, h1, h2, h3, h4⟩ := h.hit hp hk nd
    refine ⟨T, findJ T key, x, ?_, h2, rfl, h3, h4⟩
    rw [addJ, h1]
  · obtain ⟨h1, h2⟩ := h.none hno
    have hl := h.len
    have hm' : ¬ (T.length : Int) ≥ most := by
      rcases hm with ⟨y, hy, hyk⟩ | hm
      · exact absurd hyk (hno y hy)
      · rw [← hl]; exact hm
    refine ⟨T ++ [newJ key now], T.length, newJ key now, ?_, SmB.fresh hf, ?_, ?_, fun s' x' hs => ?_⟩
    · rw [addJ, h1, List.getElem?_eq_none (Nat.le_refl _)]
      show (if (T.length : Int) ≥ most then _ else _) = _
      rw [if_neg hm']
    · clear h h1 h2 hl hm hm'
      induction T with
      | nil => rfl
      | cons y T ih => show bytesP y.l + bytesJ (T ++ _) = bytesP y.l + bytesJ T; rw [ih]
    · rw [List.eraseIdx_append_of_length_le (Nat.le_refl _), Nat.sub_self]
      simpa using h
    · rw [List.set_append_right _ _ (Nat.le_refl _), Nat.sub_self]
      exact h2 s' x' hs
theorem parts_both {S : List Bu} {T : List Bf} {key : List UInt8} (h : SameT S T) (nd : S.Pairwise (fun a b => a.key ≠ b.key)) : ∃ l, Same (partsOf S key) l ∧ (∀ {x : Bf}, T[findJ T key]? = some x → l = x.l) ∧ ((∀ s ∈ S, s.key ≠ key) → l = []) := by
  rcases h.hit_or nd key with ⟨s, R, hp, hk⟩ | hno
  · obtain ⟨x, h1, h2, _, _⟩ := h.hit hp hk nd
    refine ⟨x.l, ?_, fun {y} hy => ?_, fun hno => absurd hk (hno s (hp.mem_iff.2 (List.mem_cons_self ..)))⟩
    · rw [partsOf_hit hp hk (hp.pairwise nd (fun e => e.symm))]; exact h2.l
    · rw [h1] at hy; rw [← Option.some.inj hy]
  · refine ⟨[], by rw [partsOf_none hno]; exact Same.nil, fun {y} hy => ?_, fun _ => rfl⟩
    rw [(h.none hno).1, List.getElem?_eq_none (Nat.le_refl _)] at hy
    cases hy
end Go.Proofs.Ytghbliabmecbcaa

/-
  Add of layer 16, whatever comes: the code answers what the document's Add says, and keeps the same. Conditions are each theorem's own.
-/
namespace Go.Proofs.Ytghbliabmecbcaa
open Go.RowKit Go.Shelf Go.Maps
theorem headOf_up {S R : List Bu} {s : Bu} {x : Bf} {key head b : List UInt8} {off now : Int} {more : Bool} (nd : S.Pairwise (fun a b => a.key ≠ b.key)) (hk : s.key = key)
    (hc : S.Perm (s :: R) ∨ (S = R ∧ Fresh s key now ∧ ∀ x ∈ S, x.key ≠ key)) (hsx : SmB s x) : headOf S key off head = (upJ x ⟨off, more, b⟩ head).head := by
  show headOf S key off head = if off = 0 ∧ x.has = false then head else x.head
  rw [← hsx.has, ← hsx.head]
  rcases hc with hp | ⟨rfl, hf, hno⟩
  · unfold headOf
    rw [find_hit hp hk (hp.pairwise nd (fun e => e.symm))]
    show (tellB s off head).head = _
    unfold tellB
    split <;> rfl
  · unfold headOf
    rw [List.find?_eq_none.2 (fun y hy => by simpa using hno y hy)]
    show (if off = 0 then head else []) = _
    rw [hf.2.2.2.2.2.1, hf.2.2.2.2.2.2]
    by_cases h0 : off = 0 <;> simp [h0]
section
variable {w : World} {B t bm N : Nat} {mb my wt : Int} {S R : List Bu} {T : List Bf} {s : Bu} {key : List UInt8} {now : Int} {p : Pc} {head : List UInt8}
theorem Jv.says (h : Jv w B t bm mb my wt N S) (hs : SameT S T) (hF : Takes (S.map Bu.kg) S mb key) (hk : s.key = key) (hc : S.Perm (s :: R) ∨ (S = R ∧ Fresh s key now ∧ ∀ x ∈ S, x.key ≠ key)) :
    ∃ (T1 : List Bf) (k : Nat) (x : Bf), addJ mb my T key p head now = putJ my T T1 k x p head ∧ SmB s x ∧ SameT R (T1.eraseIdx k) ∧ (∀ s' x', SmB s' x' → SameT (s' :: R) (T1.set k x')) ∧
      sumB S + roomC (partsOf S key) p.off p.b = bytesJ T1 + roomP x.l p.off p.b ∧ addC (partsOf S key) p = addE x.l p ∧ Same (addCL (partsOf S key) p) (addL x.l p) := by
  obtain ⟨T1, k, x, e1, e2, e3, e4, e5⟩ := key_both (most := mb) (mb := my) (p := p) (head := head) hs h.tx.nd (by
    rcases hF with hF | hF
    · exact .inl hF
    · rw [List.length_map] at hF; exact .inr hF) hk hc
  obtain ⟨p1, _⟩ := h.parts hk hc
  have hsm : Same (partsOf S key) x.l := by rw [p1]; exact e2.l
  refine ⟨T1, k, x, e1, e2, e4, e5, ?_, hsm.addE p, hsm.addL p⟩
  rw [hs.bytes, e3]
  congr 1
  have := hsm.room p.off p.b false
  unfold roomC
  rw [this]
/-- What the code's Add answers and leaves, in the document's words. -/
def AddSays (w : World) (B t bm : Nat) (mb my wt : Int) (N : Nat) (S : List Bu) (r : List Bf × AnsJ) (e : Ending) (w' : World) : Prop :=
  ∃ (V : Value) (S' : List Bu), e = .returned (.tuple #[.string (strB r.2.1), V, .bool r.2.2.2.1, .int .i64 r.2.2.2.2]) ∧ w'.ownsRow w.heap.size 5 1 V r.2.2.1.length (row r.2.2.1) ∧
    Jv w' B t bm mb my wt (N + 1) S' ∧ SameT S' r.1 ∧ Kept (NJ B w) w w' ∧ S'.length ≤ S.length + 1
theorem tz_of {NB : Nat → Prop} (h : TzN NB t bm S) (hN : ∀ i, NB i → B ≤ i) : Tz B t bm S := ⟨hN _ h.1, hN _ h.2.1, fun s hs => ⟨hN _ (h.2.2 s hs).1, hN _ (h.2.2 s hs).2.1, fun k hk => hN _ ((h.2.2 s hs).2.2 k hk)⟩⟩
set_option maxHeartbeats 1000000 in
theorem kadd_says (h : Jv w B t bm mb my wt N S) (hs : SameT S T) (hmy : my ≤ 10000000000) (key head : List UInt8) (off now : Int) (more : Bool) (A' : Option Addr) (c' : Nat) (b : List UInt8) (hA' : Arg w w.heap.size A' c' b) (hk : key.length ≤ maxLen) (hbl : b.length ≤ 1000000)
    (hoff : -9223372036854775808 ≤ off ∧ off ≤ 9223372036854775807) (hN : N + 1 ≤ 100000) (hS : S.length < 1000000) (hB : B ≤ w.heap.size) :
    Calls Try.prog 16 #[.pointer (some ⟨t, 0, none⟩), sq key, .int .i64 off, .bool more, .slice A' b.length c', sq head, .int .i64 now] w fun e w' =>
      AddSays w B t bm mb my wt N S (addJ mb my T key ⟨off, more, b⟩ head now) e w' := by
  have hnn := sumB_nn S
  have hby := h.by_
  have htot : 0 ≤ sumB S ∧ sumB S ≤ 100000000000 := by omega
  have hL : ∀ s ∈ S, s.L.length + 1 ≤ 100000 := fun s hs => by have := h.l s hs; omega
  have hML : (S.map Bu.kg).length = S.length := by simp
  have hNJ : ∀ i, NJ B w i → B ≤ i := fun i hi => hi.1
  by_cases hF : Takes (S.map Bu.kg) S mb key
  · by_cases hroom : sumB S + roomC (partsOf S key) off b > my
    · refine (jadd_room h.tx (List.Perm.refl _) key head off now more A' c' b hA' hk hbl htot hF hroom).mono ?_
      rintro e w' ⟨rfl, hT, hb⟩
      obtain ⟨s, R, hsk, hc⟩ : ∃ s R, s.key = key ∧ (S.Perm (s :: R) ∨ (S = R ∧ Fresh s key now ∧ ∀ x ∈ S, x.key ≠ key)) := by
        rcases hs.hit_or h.tx.nd key with ⟨s, R, hp, hsk⟩ | hno
        · exact ⟨s, R, hsk, .inl hp⟩
        · exact ⟨⟨key, 0, 0, none, 0, [], min (max now 0) 1099511627776, [], false⟩, S, rfl, .inr ⟨rfl, ⟨rfl, rfl, rfl, rfl, rfl, rfl, rfl⟩, hno⟩⟩
      obtain ⟨T1, k, x, e1, e2, e4, e5, e6, e7, e8⟩ := h.says (p := ⟨off, more, b⟩) (head := head) hs hF hsk hc
      have er : addJ mb my T key ⟨off, more, b⟩ head now = (T, [], [], false, 7) := by
        rw [e1]
        exact putJ_ways.1 (by rw [← e6]; exact hroom)
      rw [er]
      exact ⟨_, S, rfl, World.ownsRow_nil _ _ _ _, (h.below hb).mono (Nat.le_succ _), hs, Kept.of_below hb, Nat.le_succ _⟩
    · by_cases hadd : addC (partsOf S key) ⟨off, more, b⟩ = 0
      · cases hd : (endedP (addCL (partsOf S key) ⟨off, more, b⟩) && decide (gapsS 0 (addCL (partsOf S key) ⟨off, more, b⟩) = [])) with
        | false =>
          refine (kadd_open h.tx (List.Perm.refl _) key head off now more A' c' b hA' hk hbl hoff hL htot hF (by omega) (NJ B w) (nj_new hB) (tz_nj h.tx h.z) hroom hadd hd).mono ?_
          rintro e w' ⟨rfl, s, R, A2, c2, L2, hT, hsk, hc, hL2, ll, hz, hkp⟩
          obtain ⟨p1, p2, p3, p4, p5, p6, p7⟩ := h.parts hsk hc
          obtain ⟨T1, k, x, e1, e2, e4, e5, e6, e7, e8⟩ := h.says (p := ⟨off, more, b⟩) (head := head) hs hF hsk hc
          have er : addJ mb my T key ⟨off, more, b⟩ head now = (T1.set k (upJ x ⟨off, more, b⟩ head), [], [], false, 0) := by
            rw [e1]
            exact putJ_ways.2.2.2 (by rw [← e6]; exact hroom) (by rw [← e7]; exact hadd) (by rw [e8.done.1]; exact hd)
          rw [er]
          have hq := roomC_eq p3 ⟨off, more, b⟩ hadd
          have f1 : (tellB (s.with_ A2 c2 L2) off head).by = bytesP (partsOf S key) + roomC (partsOf S key) off b := by
            unfold Bu.by
            rw [tellB_L]
            show bytesP (piE L2) = _
            rw [hL2, hq]
          have f2 : sumB (tellB (s.with_ A2 c2 L2) off head :: R) = sumB S + roomC (partsOf S key) off b := by rw [sumB, f1]; omega
          have f3 : (tellB (s.with_ A2 c2 L2) off head).kg = (key, s.g) := by
            unfold Bu.kg
            rw [tellB_key, tellB_g, ← hsk]; rfl
          refine ⟨_, tellB (s.with_ A2 c2 L2) off head :: R, rfl, World.ownsRow_nil _ _ _ _, ⟨?_, tz_of hz hNJ, by rw [f2]; omega, ?_, ?_⟩, e5 _ _ (e2.up (p := ⟨off, more, b⟩) (by rw [hL2]; exact e8)), hkp, by rw [List.length_cons]; omega⟩
          · rw [f2, List.map_cons, f3]
            exact hT.perm (p4.cons _) (List.Perm.refl _)
          · have hn := h.n
            rw [List.length_cons]
            rcases hc with hp | ⟨rfl, hf, hno⟩
            · have := hp.length_eq
              rw [List.length_cons] at this
              omega
            · rcases hF with ⟨x, hx, hxk⟩ | hge
              · exact absurd hxk (hno x hx)
              · rw [hML] at hge; omega
          · intro x hx
            rcases List.mem_cons.1 hx with rfl | hx
            · rw [tellB_L]
              show L2.length ≤ N + 1
              omega
            · have := h.l x (p5 x hx); omega
        | true =>
          have hbp : 0 ≤ bytesP (addCL (partsOf S key) ⟨off, more, b⟩) ∧ bytesP (addCL (partsOf S key) ⟨off, more, b⟩) ≤ 1000000000000 := by
            refine ⟨bytesP_nn _, ?_⟩
            have hr : Ris (partsOf S key) ∧ bytesP (partsOf S key) ≤ sumB S := by
              unfold partsOf
              cases hf : S.find? (fun s => decide (s.key = key)) with
              | none => exact ⟨Ris.nil, hnn⟩
              | some x =>
                have hx := List.mem_of_find?_eq_some hf
                exact ⟨(h.tx.bx x hx).hx.ris, sum_part hx⟩
            rw [roomC_eq hr.1 ⟨off, more, b⟩ hadd]
            show bytesP (partsOf S key) + roomC (partsOf S key) off b ≤ _
            have := hr.2
            omega
          refine (kadd_done h.tx (List.Perm.refl _) key head off now more A' c' b hA' hk hbl hoff hL htot hF (by omega) (NJ B w) (nj_new hB) (tz_nj h.tx h.z) hroom hadd hd hbp).mono ?_
          rintro e w' ⟨v, rfl, s, R, hT, hsk, hc, hz, hkp, ha⟩
          obtain ⟨p1, p2, p3, p4, p5, p6, p7⟩ := h.parts hsk hc
          obtain ⟨T1, k, x, e1, e2, e4, e5, e6, e7, e8⟩ := h.says (p := ⟨off, more, b⟩) (head := head) hs hF hsk hc
          have hdn : doneB (addL x.l ⟨off, more, b⟩) = true := by rw [e8.done.1]; exact hd
          have er : addJ mb my T key ⟨off, more, b⟩ head now = (T1.eraseIdx k, (upJ x ⟨off, more, b⟩ head).head, doneP (addL x.l ⟨off, more, b⟩), true, 0) := by
            rw [e1]
            exact putJ_ways.2.2.1 (by rw [← e6]; exact hroom) (by rw [← e7]; exact hadd) hdn
          rw [er, ← headOf_up (more := more) (b := b) h.tx.nd hsk hc e2, e8.done.2 hdn]
          have hq := roomC_eq p3 ⟨off, more, b⟩ hadd
          have f2 : sumB S + roomC (partsOf S key) off b - bytesP (addCL (partsOf S key) ⟨off, more, b⟩) = sumB R := by rw [hq]; show sumB S + roomC (partsOf S key) off b - (bytesP (partsOf S key) + roomC (partsOf S key) off b) = _; omega
          rw [f2] at hT
          have := h.n
          have hpn := bytesP_nn (partsOf S key)
          exact ⟨_, R, rfl, ha, ⟨hT.perm p4 (List.Perm.refl _), tz_of hz hNJ, by omega, by omega, fun x hx => Nat.le_succ_of_le (h.l x (p5 x hx))⟩, e4, hkp, by omega⟩
      · have hbp : 0 ≤ bytesP (partsOf S key) ∧ bytesP (partsOf S key) ≤ 1000000000000 := by
          refine ⟨bytesP_nn _, ?_⟩
          unfold partsOf
          cases hf : S.find? (fun s => decide (s.key = key)) with
          | none => show (0 : Int) ≤ _; omega
          | some x =>
            have := sum_part (List.mem_of_find?_eq_some hf)
            show x.by ≤ _
            omega
        refine (kadd_err h.tx (List.Perm.refl _) key head off now more A' c' b hA' hk hbl hoff hL htot hF (NJ B w) (nj_new hB) (tz_nj h.tx h.z) hroom _ rfl hadd hbp).mono ?_
        rintro e w' ⟨rfl, s, R, hT, hsk, hc, hz, hkp⟩
        obtain ⟨p1, p2, p3, p4, p5, p6, p7⟩ := h.parts hsk hc
        obtain ⟨T1, k, x, e1, e2, e4, e5, e6, e7, e8⟩ := h.says (p := ⟨off, more, b⟩) (head := head) hs hF hsk hc
        have er : addJ mb my T key ⟨off, more, b⟩ head now = (T1.eraseIdx k, [], [], false, addE x.l ⟨off, more, b⟩) := by
          rw [e1]
          exact putJ_ways.2.1 (by rw [← e6]; exact hroom) (by rw [← e7]; exact hadd)
        rw [er, ← e7]
        have f2 : sumB S - bytesP (partsOf S key) = sumB R := by omega
        rw [f2] at hT
        have := h.n
        exact ⟨_, R, rfl, World.ownsRow_nil _ _ _ _, ⟨hT.perm p4 (List.Perm.refl _), tz_of hz hNJ, by omega, by omega, fun x hx => Nat.le_succ_of_le (h.l x (p5 x hx))⟩, e4, hkp, by omega⟩
  · have hno : ∀ s ∈ S, s.key ≠ key := fun s hs e => hF (.inl ⟨s, hs, e⟩)
    have hnp : ∀ p ∈ S.map Bu.kg, p.1 ≠ key := fun p hp e => by
      obtain ⟨x, hx, rfl⟩ := List.mem_map.1 hp
      exact hno x hx e
    have hge : ((S.map Bu.kg).length : Int) ≥ mb := by
      by_cases hg : ((S.map Bu.kg).length : Int) ≥ mb
      · exact hg
      · exact absurd (.inr hg) hF
    refine (jadd_full h.tx key head off now more _ hk hnp hge).mono ?_
    rintro e w' ⟨rfl, hT, hb⟩
    have er : addJ mb my T key ⟨off, more, b⟩ head now = (T, [], [], false, 7) := by
      rw [addJ, (hs.none hno).1, List.getElem?_eq_none (Nat.le_refl _)]
      show (if (T.length : Int) ≥ mb then _ else _) = _
      rw [if_pos (by rw [← hs.len, ← hML]; exact hge)]
    rw [er]
    exact ⟨_, S, rfl, World.ownsRow_nil _ _ _ _, (h.below hb).mono (Nat.le_succ _), hs, Kept.of_below hb, Nat.le_succ _⟩
end
end Go.Proofs.Ytghbliabmecbcaa

/-
  The document's Add of layer 16, whatever comes; the keys of both. Conditions are each theorem's own.
-/
namespace Go.Proofs.Ytghbliabmecbcaa
open Go.RowKit Go.Shelf
section
variable {w : World} {g : Nat} {v : Value} {t : List XB} {most mb wait : Int}
theorem roomP_in (l : List Pc) (off : Int) (s : List UInt8) (hs : s.length ≤ 1000000) : 0 ≤ roomP l off s ∧ roomP l off s ≤ 1000000 := by
  unfold roomP
  split <;> omega
theorem r16add_says (h : Rj w g v t most mb wait) (hn : t.length < 1000) (key : List UInt8) (off : Int) (more : Bool) (A' : Option Addr) (c' : Nat) (s head : List UInt8) (now : Int)
    {B1 : Nat} (hB1 : B1 ≤ g) (hA' : Arg w B1 A' c' s) (hsl : s.length ≤ 1000000) (ho : -9223372036854775808 ≤ off ∧ off ≤ 9223372036854775807)
    (hl : ∀ x ∈ t, x.l.length + 1 ≤ 1000) (hwf : ∀ x ∈ t, wfP (piE x.l)) (hby : bytesJ (tbE t) ≤ 1073741824) :
    Calls Try.prog 17 #[.pointer (some ⟨g, 0, none⟩), .string (strB key), .int .i64 off, .bool more, .slice A' s.length c', .string (strB head), .int .i64 now] w
      fun e w' => AddOut16 w g v most mb wait t key ⟨off, more, s⟩ head now e w' := by
  by_cases hf : findJ (tbE t) key < t.length
  · obtain ⟨x, hx⟩ : ∃ x, t[findJ (tbE t) key]? = some x := ⟨_, List.getElem?_eq_getElem hf⟩
    have hm := List.mem_of_getElem? hx
    obtain ⟨A, c, rfl, _, _⟩ := h.sh
    obtain ⟨b, rfl, _⟩ := h.at_ hx
    exact r16add_hit h rfl key off more A' c' s head now hx rfl (hA'.more (Nat.le_trans hB1 (Nat.le_of_lt (heap_lt h.tab)))) hsl ho (hl x hm) (hwf x hm) hby (roomP_in _ _ _ hsl)
  · by_cases hm : (t.length : Int) ≥ most
    · exact r16add_full h key off more _ s head now hf hm
    · exact r16add_new h hn key off more A' c' s head now hf (by omega) hB1 hA' hsl ho hby (roomP_in _ _ _ hsl)
end
end Go.Proofs.Ytghbliabmecbcaa

/-
  Keys in order: the document's insertion beside sorting. No program. Conditions are each theorem's own.
-/
namespace Go.Proofs.Ytghbliabmecbcaa
theorem insJ_perm (l : List (List UInt8)) (s : List UInt8) : (insJ l s).Perm (s :: l) := by
  induction l with
  | nil => exact List.Perm.refl _
  | cons x l ih =>
    rw [insJ]
    split
    · exact (ih.cons x).trans (List.Perm.swap s x l)
    · exact List.Perm.refl _
theorem insJ_srt {l : List (List UInt8)} {s : List UInt8} (h : l.Pairwise (· ≤ ·)) : (insJ l s).Pairwise (· ≤ ·) := by
  induction l with
  | nil => exact List.pairwise_singleton _ _
  | cons x l ih =>
    obtain ⟨h1, h2⟩ := List.pairwise_cons.1 h
    rw [insJ]
    split
    · rename_i hb
      rw [bytesLess_eq] at hb
      have hb : x < s := of_decide_eq_true hb
      refine List.pairwise_cons.2 ⟨fun y hy => ?_, ih h2⟩
      rcases List.mem_cons.1 ((insJ_perm l s).mem_iff.1 hy) with rfl | hy
      · exact List.le_of_lt hb
      · exact h1 y hy
    · rename_i hb
      rw [bytesLess_eq] at hb
      have hb : ¬ x < s := fun h => hb (decide_eq_true h)
      refine List.pairwise_cons.2 ⟨fun y hy => ?_, h⟩
      rcases List.mem_cons.1 hy with rfl | hy
      · exact List.not_lt.1 hb
      · exact List.le_trans (List.not_lt.1 hb) (h1 y hy)
theorem keysOf_both (T : List Bf) : (keysOf T).Perm (T.map (·.key)) ∧ (keysOf T).Pairwise (· ≤ ·) := by
  unfold keysOf
  suffices h : ∀ (T : List Bf) (l : List (List UInt8)), l.Pairwise (· ≤ ·) → (T.foldl (fun out b => insJ out b.key) l).Perm (l ++ T.map (·.key)) ∧ (T.foldl (fun out b => insJ out b.key) l).Pairwise (· ≤ ·) from by simpa using h T [] List.Pairwise.nil
  intro T
  induction T with
  | nil => intro l hl; exact ⟨by simp, hl⟩
  | cons b T ih =>
    intro l hl
    obtain ⟨h1, h2⟩ := ih (insJ l b.key) (insJ_srt hl)
    refine ⟨h1.trans ?_, h2⟩
    rw [List.map_cons]
    exact ((insJ_perm l b.key).append_right _).trans (by rw [List.cons_append]; exact List.perm_middle.symm)
/-- Sorted keys are the document's. -/
theorem keys_sorted {T : List Bf} {ss : List (List UInt8)} (h : ss.Perm (T.map (·.key))) : ss.mergeSort (fun x y => decide (x ≤ y)) = keysOf T := by
  obtain ⟨h1, h2⟩ := keysOf_both T
  have tr : ∀ a b c : List UInt8, decide (a ≤ b) = true → decide (b ≤ c) = true → decide (a ≤ c) = true := fun a b c h1 h2 => decide_eq_true (List.le_trans (of_decide_eq_true h1) (of_decide_eq_true h2))
  have tot : ∀ a b : List UInt8, (decide (a ≤ b) || decide (b ≤ a)) = true := fun a b => by
    rcases List.le_total a b with h | h
    · rw [decide_eq_true h]; rfl
    · rw [decide_eq_true h, Bool.or_true]
  refine List.Perm.eq_of_pairwise (le := fun a b => decide (a ≤ b) = true) (fun a b _ _ h1 h2 => List.le_antisymm (of_decide_eq_true h1) (of_decide_eq_true h2)) (List.pairwise_mergeSort tr tot ss) (h2.imp (fun h => decide_eq_true h)) ?_
  exact (List.mergeSort_perm ss _).trans (h.trans h1.symm)
theorem SameT.keys {S : List Bu} {T : List Bf} (h : SameT S T) : (S.map (·.key)).Perm (T.map (·.key)) := by
  obtain ⟨Z, h1, h2, h3⟩ := h
  have e : T.map (·.key) = (Z.map (·.1)).map (·.key) := by
    rw [h2, List.map_map, List.map_map]
    exact List.map_congr_left (fun z hz => (h3 z hz).key.symm)
  rw [e]; exact h1.map _
/-- What has waited too long is the same. -/
theorem SameT.gone {S G R : List Bu} {T : List Bf} {wait now : Int} (h : SameT S T) (hp : S.Perm (G ++ R)) (hw : now ≥ wait) (hG : ∀ s ∈ G, s.began ≤ now - wait) (hR : ∀ s ∈ R, ¬ s.began ≤ now - wait) :
    SameT R (expL T wait now) ∧ SameT G (T.filter (goneJ wait now)) := by
  obtain ⟨Z, h1, h2, h3⟩ := h
  have hz : ∀ z ∈ Z, goneJ wait now z.2 = decide (z.1.began ≤ now - wait) := fun z hz => by
    unfold goneJ
    rw [(h3 z hz).since, decide_eq_true hw, Bool.true_and]
  have f1 : ∀ (p : Bu → Bool) (q : Bf → Bool), (∀ z ∈ Z, q z.2 = p z.1) → SameT (S.filter p) (T.filter q) := fun p q hpq => by
    refine ⟨Z.filter (fun z => p z.1), ?_, ?_, fun z hz => h3 z (List.mem_filter.1 hz).1⟩
    · have e : (Z.filter (fun z => p z.1)).map (·.1) = (Z.map (·.1)).filter p := by rw [List.filter_map]; rfl
      rw [e]; exact h1.filter p
    · rw [h2, List.filter_map]
      congr 1
      exact List.filter_congr (fun z hz => (hpq z hz).symm ▸ rfl)
  have eR : (S.filter (fun s => !decide (s.began ≤ now - wait))).Perm R := by
    refine (hp.filter _).trans ?_
    rw [List.filter_append, List.filter_eq_nil_iff.2 (fun s hs => by simp [hG s hs]), List.filter_eq_self.2 (fun s hs => by simpa using hR s hs)]
    try exact List.Perm.refl _
  have eG : (S.filter (fun s => decide (s.began ≤ now - wait))).Perm G := by
    refine (hp.filter _).trans ?_
    rw [List.filter_append, List.filter_eq_self.2 (fun s hs => by simp [hG s hs]), List.filter_eq_nil_iff.2 (fun s hs => by simpa using hR s hs), List.append_nil]
    try exact List.Perm.refl _
  refine ⟨(f1 (fun s => !decide (s.began ≤ now - wait)) (fun b => !goneJ wait now b) (fun z hz' => by rw [hz z hz'])).perm eR.symm, (f1 (fun s => decide (s.began ≤ now - wait)) (goneJ wait now) hz).perm eG.symm⟩
end Go.Proofs.Ytghbliabmecbcaa

/-
  Expire and Keys of layer 16: what the code answers is what the document says. Conditions are each theorem's own.
-/
namespace Go.Proofs.Ytghbliabmecbcaa
open Go.RowKit Go.Shelf Go.Maps
section
variable {w : World} {B t bm N : Nat} {tot mb my wt now : Int} {M : List (List UInt8 × Nat)} {S : List Bu} {T : List Bf}
set_option maxRecDepth 100000 in
theorem kexp_early (h : Tx w t bm tot mb my wt M S) (hlt : now < wt) : Calls Try.prog 14 #[.pointer (some ⟨t, 0, none⟩), .int .i64 now] w fun e w' => e = .returned (.slice none 0 0) ∧ w = w' := by
  have k0 := h.c0
  have k4 : w.cell? ⟨t, 4, none⟩ = some (.int .i64 wt) := cells_at (i := 4) h.obj rfl
  have d1 : decide (now < wt) = true := decide_eq_true hlt
  clear h hlt
  go_enter Try.func14, Try.ntmps14
  go_wp2_with (go_at_call 36; refine (jmade t bm _ k0).mono ?_; rintro e w1 ⟨rfl, rfl⟩)
  go_ret
  exact ⟨rfl, rfl⟩
/-- What the code's Expire answers and leaves, in the document's words. -/
def ExpSays (w : World) (B t bm : Nat) (mb my wt now : Int) (N : Nat) (S : List Bu) (T : List Bf) (e : Ending) (w' : World) : Prop :=
  ∃ (v : Value) (S' : List Bu), e = .returned v ∧ w'.ownsRow w.heap.size 9 1 v (expK T wt now).length ((expK T wt now).map sq) ∧ Jv w' B t bm mb my wt N S' ∧ SameT S' (expL T wt now) ∧ Kept (NJ B w) w w' ∧ S'.length ≤ S.length
theorem kexp_says (h : Jv w B t bm mb my wt N S) (hs : SameT S T) (hmy : my ≤ 10000000000) (hS : S.length ≤ 1000000) (hwt : 0 ≤ wt) (hnow : now ≤ 9223372036854775807) :
    Calls Try.prog 14 #[.pointer (some ⟨t, 0, none⟩), .int .i64 now] w fun e w' => ExpSays w B t bm mb my wt now N S T e w' := by
  by_cases hlt : now < wt
  · have hg : ∀ b : Bf, goneJ wt now b = false := fun b => by unfold goneJ; rw [decide_eq_false (by omega), Bool.false_and]
    have e1 : expK T wt now = [] := by
      unfold expK
      rw [List.filter_eq_nil_iff.2 (fun b _ => by rw [hg]; decide)]
      rfl
    have e2 : expL T wt now = T := by unfold expL; exact List.filter_eq_self.2 (fun b _ => by rw [hg]; rfl)
    refine (kexp_early h.tx hlt).mono ?_
    rintro e w' ⟨rfl, rfl⟩
    refine ⟨_, S, rfl, ?_, h, by rw [e2]; exact hs, Kept.refl _, Nat.le_refl _⟩
    rw [e1]; exact World.ownsRow_nil _ _ _ _
  · refine (kexpire h hmy hS ⟨hwt, by omega⟩ hnow).mono ?_
    rintro e w' ⟨v, ks, G, R, rfl, hks, hp, hG, hR, hrow, hj, hkp⟩
    obtain ⟨s1, s2⟩ := hs.gone hp (by omega) hG hR
    have hk : ks.mergeSort (fun x y => decide (x ≤ y)) = expK T wt now := by
      unfold expK
      exact keys_sorted (by rw [hks]; exact s2.keys)
    have hl : ks.length = (expK T wt now).length := by rw [← hk, List.length_mergeSort]
    rw [hk, hl] at hrow
    refine ⟨v, R, rfl, hrow, hj, s1, hkp.mono (fun i _ hi => ?_), by rw [hp.length_eq, List.length_append]; omega⟩
    have hz := tz_nj h.tx h.z
    rcases hi with rfl | rfl
    · exact hz.1
    · exact hz.2.1
/-- The keys that the code tells are the document's. -/
theorem kkeys_says (h : Jv w B t bm mb my wt N S) (hs : SameT S T) (hS : S.length ≤ 1000000) :
    Calls Try.prog 22 #[.pointer (some ⟨t, 0, none⟩)] w fun e w' => ∃ v, e = .returned v ∧ w'.ownsRow w.heap.size 9 1 v (keysOf T).length ((keysOf T).map encStr) ∧ Below w.heap.size w w' := by
  refine (jkeys h.tx (by rw [List.length_map]; exact hS)).mono ?_
  rintro e w' ⟨v, ss, rfl, hp, hrow, _, hb⟩
  have hp' : ss.Perm (T.map (·.key)) := by
    refine hp.trans ?_
    have e : (S.map Bu.kg).map (·.1) = S.map (·.key) := by rw [List.map_map]; rfl
    rw [e]; exact hs.keys
  have hk := keys_sorted hp'
  have hl : ss.length = (keysOf T).length := by rw [← hk, List.length_mergeSort]
  rw [hk, hl] at hrow
  exact ⟨v, rfl, hrow, hb⟩
end
end Go.Proofs.Ytghbliabmecbcaa
