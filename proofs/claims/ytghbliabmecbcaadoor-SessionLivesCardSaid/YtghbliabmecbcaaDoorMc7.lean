/-
  Contracts and lemmas on which the proofs of this seat stand (several texts in one). Conditions are each theorem's own.
-/
import Derived.Test.YtghbliabmecbcaaDoorMc6
import Derived.Test.YtghbliabmecbcaaDoorMc5
import Derived.Laws.MakeOwn
import Derived.Test.YtghbliabmecbcaaDoorMc4

/-
  What layer 18's code keeps: a table, its array of places; New, places and the iterator over them. Conditions are each theorem's own.
-/
namespace Go.Proofs.YtghbliabmecbcaaDoor
open Go.RowKit Go.Shelf
attribute [local go_sem] Oper.semAt_some

theorem run_load_hstp {o : Oper} {a : Act} {w : World} {x : Operand} {p : Addr} {A : Option Addr} (ho : o.op = .load 53 x) (hx : a.eval x = .pointer (some p)) (hc : w.cell? p = some (.pointer A)) :
    (execOp a.eval o).run Tryd.prog w = .ok (.value (.pointer A)) w := by
  unfold execOp
  simp only [ho, hx, Instr.loadAt, Instr.sureAddr, Sem.run_bind, Sem.run_pure, Result.andThen_ok]
  go_simp
theorem run_load_hsar {o : Oper} {a : Act} {w : World} {x : Operand} {p : Addr} {A : Option Addr} {n c : Nat} (ho : o.op = .load 81 x) (hx : a.eval x = .pointer (some p)) (hc : w.cell? p = some (.slice A n c)) :
    (execOp a.eval o).run Tryd.prog w = .ok (.value (.slice A n c)) w := by
  unfold execOp
  simp only [ho, hx, Instr.loadAt, Instr.sureAddr, Sem.run_bind, Sem.run_pure, Result.andThen_ok]
  go_simp
theorem run_load_u64 {o : Oper} {a : Act} {w : World} {x : Operand} {p : Addr} {n : Int} (ho : o.op = .load 84 x) (hx : a.eval x = .pointer (some p)) (hc : w.cell? p = some (.int .u64 n)) :
    (execOp a.eval o).run Tryd.prog w = .ok (.value (.int .u64 n)) w := by
  unfold execOp
  simp only [ho, hx, Instr.loadAt, Instr.sureAddr, Sem.run_bind, Sem.run_pure, Result.andThen_ok]
  go_simp
theorem run_load_hsp {o : Oper} {a : Act} {w : World} {x : Operand} {g i : Nat} {cs : List Value} (ho : o.op = .load 88 x) (hx : a.eval x = .pointer (some ⟨g, i, none⟩)) (hr : w.rangeAt g i cs) (hl : cs.length = 4) :
    (execOp a.eval o).run Tryd.prog w = .ok (.value (.agg cs.toArray)) w := by
  have h := run_loadVar_mid (P := Tryd.prog) w g i 88 cs _ hr Tryd.underlying88 rfl (by rw [hl]; kernel_rfl)
  unfold execOp
  simp only [ho, hx, Instr.loadAt, Instr.sureAddr, Sem.run_bind, Sem.run_pure, Result.andThen_ok, h]

/-- A place's cells. -/
def clE : Option Ent → List Value
  | none => [.bool false, .int .u64 0, .string ByteArray.empty, .int .i64 0]
  | some e => [.bool true, .int .u64 (mkOf e.key), .string (strB e.key), .int .i64 e.n]
theorem clE_len (o : Option Ent) : (clE o).length = 4 := by cases o <;> rfl
theorem clE_one (o : Option Ent) : (clE o).toArray.all (·.oneCell') = true := by cases o <;> simp [clE, Value.oneCell']
/-- An array of places at b. -/
structure ArrH (w : World) (b : Nat) (L : List (Option Ent)) : Prop where
  obj : ∃ cur, w.heap[b]? = some (.cells cur 88 (0, 0)) ∧ cur.size = L.length * 4
  row : ∀ i o, L[i]? = some o → w.rangeAt b (i * 4) (clE o)
/-- A table at t, its array at b. -/
structure Hs (w : World) (t b : Nat) (cnt most : Int) (L : List (Option Ent)) : Prop where
  tab : w.heap[t]? = some (.cells #[.slice (some ⟨b, 0, none⟩) L.length L.length, .int .i64 cnt, .int .i64 most] 83 (0, 0))
  arr : ArrH w b L
theorem ArrH.new (w : World) (L : List (Option Ent)) : ArrH (w.alloc (.cells (L.flatMap clE).toArray 88)) w.heap.size L := by
  have h := World.alloc_heap_new w (.cells (L.flatMap clE).toArray 88)
  refine ⟨⟨_, h, by rw [List.size_toArray, flat_len L (fun x _ => clE_len x)]⟩, fun i o hi j v hv => ?_⟩
  rw [cell_of_row _ _ (i * 4 + j) _ _ _ h, List.getElem?_toArray]
  exact flat_at L (fun x _ => clE_len x) i o hi j v hv
theorem ArrH.keep {w w' : World} {b : Nat} {L : List (Option Ent)} (h : ArrH w b L) (hb : w'.heap[b]? = w.heap[b]?) : ArrH w' b L := by
  obtain ⟨cur, h1, h2⟩ := h.obj
  exact ⟨⟨cur, hb.trans h1, h2⟩, fun i o hi j v hv => (World.cell?_of_block hb).trans (h.row i o hi j v hv)⟩
theorem ArrH.lt {w : World} {b : Nat} {L : List (Option Ent)} (h : ArrH w b L) : b < w.heap.size := by
  obtain ⟨cur, h1, _⟩ := h.obj
  exact heap_lt h1
theorem heap_setCells {T : TypeId} (b : Nat) : ∀ (vs : List Value) (o : Nat) (w : World) (cur : Array Value), w.heap[b]? = some (.cells cur T (0, 0)) → ∃ cur', (w.setCells b o vs).heap[b]? = some (.cells cur' T (0, 0)) ∧ cur'.size = cur.size
  | [], _, _, cur, h => ⟨cur, h, rfl⟩
  | v :: vs, o, w, cur, h => by
    obtain ⟨cur', h1, h2⟩ := heap_setCells b vs (o + 1) (w.setCell ⟨b, o, none⟩ v) _ (heap_setCell_same w b o cur T v h)
    exact ⟨cur', h1, by rw [h2, Array.size_setIfInBounds]⟩
theorem ArrH.there {w : World} {b : Nat} {L : List (Option Ent)} (h : ArrH w b L) {i : Nat} (hi : i < L.length) : w.there b (i * 4) 4 := fun j hj => by
  obtain ⟨cur, h1, h2⟩ := h.obj
  refine ⟨?_, heap_frozen h1 _⟩
  rw [cell_of_row _ _ _ _ _ _ h1, Array.getElem?_eq_getElem (by rw [h2]; omega)]; rfl
theorem ArrH.set {w : World} {b : Nat} {L : List (Option Ent)} (h : ArrH w b L) {i : Nat} (hi : i < L.length) (o : Option Ent) : ArrH (w.setCells b (i * 4) (clE o)) b (L.set i o) := by
  obtain ⟨cur, h1, h2⟩ := h.obj
  obtain ⟨cur', h3, h4⟩ := heap_setCells b (clE o) (i * 4) w cur h1
  refine ⟨⟨cur', h3, by rw [h4, h2, List.length_set]⟩, fun j x hx => ?_⟩
  rw [List.getElem?_set] at hx
  split at hx
  · rename_i e
    subst e
    have hx : some o = some x := by simpa [hi] using hx
    obtain rfl := Option.some.inj hx
    exact World.rangeAt_setCells_same w b (i * 4) (clE o) (by rw [clE_len]; exact h.there hi)
  · exact World.rangeAt_setCells_apart (h.row j x hx) b (i * 4) (clE o) (.inr (by rw [clE_len, clE_len]; omega))
section
variable {w w' : World} {t b : Nat} {cnt most : Int} {L : List (Option Ent)}
theorem Hs.ne (h : Hs w t b cnt most L) : t ≠ b := fun e => by
  have h1 := h.tab
  obtain ⟨cur, h3, _⟩ := h.arr.obj
  rw [e, h3] at h1
  injection h1 with h1
  injection h1 with _ h2 _
  exact absurd h2 (nat_ne (by kernel_rfl))
theorem Hs.c0 (h : Hs w t b cnt most L) : w.cell? ⟨t, 0, none⟩ = some (.slice (some ⟨b, 0, none⟩) L.length L.length) := cells_at h.tab rfl
theorem Hs.c1 (h : Hs w t b cnt most L) : w.cell? ⟨t, 1, none⟩ = some (.int .i64 cnt) := cells_at h.tab rfl
theorem Hs.c2 (h : Hs w t b cnt most L) : w.cell? ⟨t, 2, none⟩ = some (.int .i64 most) := cells_at h.tab rfl
theorem Hs.keep (h : Hs w t b cnt most L) (h1 : w'.heap[t]? = w.heap[t]?) (h2 : w'.heap[b]? = w.heap[b]?) : Hs w' t b cnt most L := ⟨h1.trans h.tab, h.arr.keep h2⟩
theorem Hs.below (h : Hs w t b cnt most L) (hb : Below w.heap.size w w') : Hs w' t b cnt most L := h.keep (hb.block t (heap_lt h.tab)) (hb.block b h.arr.lt)
theorem Hs.at_ (h : Hs w t b cnt most L) {i : Nat} {o : Option Ent} (hi : L[i]? = some o) : w.rangeAt b (i * 4) (clE o) := h.arr.row i o hi
end
theorem plH_get {L : List (Option Ent)} {i : Nat} (hi : i < L.length) : L[i]? = some (plH L i) := by
  unfold plH
  rw [List.getElem?_eq_getElem hi]; rfl
theorem info_hsp : (Tryd.prog.info? 88).map (fun i => (i.zero, i.size, i.bytes)) = some (some (.agg (clE none).toArray), 4, 40) := by kernel_rfl
theorem made_flat (n : Nat) : madeCells (clE none).toArray (n * 4) = ((List.replicate n (none : Option Ent)).flatMap clE).toArray := by
  have hl := flat_len (cl := clE) (sz := 4) (List.replicate n none) (fun x _ => clE_len x)
  rw [List.length_replicate] at hl
  apply Array.ext
  · rw [size_madeCells, List.size_toArray, hl]
  · intro i h1 h2
    rw [size_madeCells] at h1
    have h3 : (List.replicate n (none : Option Ent))[i / 4]? = some none := by rw [List.getElem?_replicate, if_pos (by omega)]
    have h4 : i % 4 < (clE none).length := by rw [clE_len]; omega
    have h5 := flat_at (List.replicate n (none : Option Ent)) (fun x _ => clE_len x) (i / 4) none h3 (i % 4) _ (List.getElem?_eq_getElem h4)
    rw [show i / 4 * 4 + i % 4 = i from by omega] at h5
    rw [List.getElem?_eq_getElem (by rw [hl]; exact h1)] at h5
    refine Eq.trans ?_ (Option.some.inj h5).symm
    have hz : (clE none).toArray.size = 4 := rfl
    simp only [madeCells, Array.getElem_map, Array.getElem_range]
    show (clE none).toArray[i % 4]! = _
    rw [getElem!_pos _ _ (by rw [hz]; omega)]
    rfl
theorem run_mk_places (n : Nat) (w : World) (hn : n ≤ 1000000) : (Instr.makeSlice 81 (.int .i64 (n : Int)) (.int .i64 (n : Int))).run Tryd.prog w =
    .ok (.slice (some ⟨w.heap.size, 0, none⟩) n n) (w.alloc (.cells ((List.replicate n (none : Option Ent)).flatMap clE).toArray 88)) := by
  obtain ⟨i0, hi, hz0, hz1, hz2⟩ := info_parts info_hsp
  have h := run_make (P := Tryd.prog) w 81 88 i0 _ Tryd.underlying81 hi hz0 .i64 .i64 n n (by omega) (Int.le_refl _) (by rw [hz2]; omega) (by omega)
  rw [Int.toNat_natCast, hz1] at h
  rw [h, ← made_flat]; rfl
set_option maxRecDepth 100000 in
theorem hsnew_ok (most : Int) (w : World) (h0 : 0 ≤ most) (h1 : most ≤ 65536) : Calls Tryd.prog 23 #[.int .i64 most] w fun e w' =>
    e = .returned (.tuple #[.pointer (some ⟨w.heap.size + 1, 0, none⟩), .int .i64 0]) ∧ Hs w' (w.heap.size + 1) w.heap.size 0 most (List.replicate 8 none) ∧ Below w.heap.size w w' := by
  have d1 : decide (most < 0) = false := decide_eq_false (by omega)
  have d2 : decide (most > 65536) = false := decide_eq_false (by omega)
  have d3 : decide (65536 < most) = false := d2
  go_enter Tryd.func23, Tryd.ntmps23
  have hmk : ∀ w, (Instr.makeSlice 81 (.int .i64 8) (.int .i64 8)).run Tryd.prog w = .ok (.slice (some ⟨w.heap.size, 0, none⟩) 8 8) (w.alloc (.cells ((List.replicate 8 (none : Option Ent)).flatMap clE).toArray 88)) := fun w => run_mk_places 8 w (by decide)
  generalize hR : ((List.replicate 8 (none : Option Ent)).flatMap clE).toArray = R8 at hmk
  go_wp2
  refine bodyPost_ret (results_tmp2 rfl _ _ _) rfl ⟨rfl, ⟨?_, ?_⟩, ((Below.refl _ w).alloc (Nat.le_refl _) _).alloc (by simp) _⟩
  · have := World.alloc_heap_new (w.alloc (.cells R8 88)) (.cells #[.slice (some ⟨w.heap.size, 0, none⟩) 8 8, .int .i64 0, .int .i64 most] 83)
    rw [World.size_alloc] at this
    exact this
  · rw [← hR]
    exact (ArrH.new w _).keep (Below.heap_alloc _ _ _ (by simp))
theorem hsnew_bad (most : Int) (w : World) (h : most < 0 ∨ most > 65536) : Calls Tryd.prog 23 #[.int .i64 most] w fun e w' => e = .returned (.tuple #[.pointer none, .int .i64 1]) ∧ w = w' := by
  by_cases h1 : most < 0
  · have d1 : decide (most < 0) = true := decide_eq_true h1
    clear h
    go_enter Tryd.func23, Tryd.ntmps23
    go_wp2
    exact bodyPost_ret (results_tmp2 rfl _ _ _) rfl ⟨rfl, rfl⟩
  · have d1 : decide (most < 0) = false := decide_eq_false h1
    have d2 : decide (most > 65536) = true := decide_eq_true (by omega)
    have d3 : decide (65536 < most) = true := d2
    clear h
    go_enter Tryd.func23, Tryd.ntmps23
    go_wp2
    exact bodyPost_ret (results_tmp2 rfl _ _ _) rfl ⟨rfl, rfl⟩
/-- What the iterator over places reads. -/
def Cel3 (g1 g2 t b N fr : Nat) (w : World) : Prop :=
  w.cell? ⟨g1, 0, none⟩ = some (.pointer (some ⟨t, 0, none⟩)) ∧ w.cell? ⟨g2, 0, none⟩ = some (.int .i64 (fr : Int)) ∧ w.cell? ⟨t, 0, none⟩ = some (.slice (some ⟨b, 0, none⟩) N N)
def ps3 (g1 g2 t : Nat) : List Addr := [⟨g1, 0, none⟩, ⟨g2, 0, none⟩, ⟨t, 0, none⟩]
theorem Cel3.keep {g1 g2 t b N fr : Nat} {X Y : World} (h : Cel3 g1 g2 t b N fr X) (k : KeepC (ps3 g1 g2 t) X Y) : Cel3 g1 g2 t b N fr Y :=
  ⟨(k _ (by simp [ps3])).trans h.1, (k _ (by simp [ps3])).trans h.2.1, (k _ (by simp [ps3])).trans h.2.2⟩
def encP (x : Nat) : Array Value := #[.int .i64 (x : Int)]
/-- What is known of a place when it comes. -/
def GP (N fr : Nat) (pre : List Nat) (x : Nat) (_ : World) : Prop := x = rnd N fr pre.length ∧ pre.length < N
theorem hsplaces (t fr : Nat) (w : World) : Calls Tryd.prog 54 #[.pointer (some ⟨t, 0, none⟩), .int .i64 (fr : Int)] w fun e w' =>
    e = .returned (.func (.func 63) #[] #[.pointer (some ⟨w.heap.size, 0, none⟩), .pointer (some ⟨w.heap.size + 1, 0, none⟩)]) ∧ w' = (w.alloc (.cells #[.pointer (some ⟨t, 0, none⟩)] 53)).alloc (.cells #[.int .i64 (fr : Int)] 3) := by
  go_enter Tryd.func54, Tryd.ntmps54
  go_wp2
  go_ret
  exact ⟨rfl, rfl⟩
theorem frm_mod {N fr k : Nat} (hf : fr ≤ N) (hk : k < N) : ((fr : Int) + (k : Int)) % (N : Int) = ((rnd N fr k : Nat) : Int) := by
  rw [← rnd_mod hf hk]; simp
set_option maxRecDepth 100000 in
set_option maxHeartbeats 4000000 in
theorem places1_in (m : Nat) (l g1 g2 t b N fr : Nat) (J Jx : List Nat → World → Prop) (W : World) (hJA0 : AbidesFrom W.heap.size J) (hJxS : ∀ pre Y, Jx pre Y → Cel3 g1 g2 t b N fr Y)
    (hY : ∀ pre x X, J pre X → GP N fr pre x X → YieldAt Fence.wide (m - 1) Tryd.prog l (encP x) X fun e Y =>
      (e = .returned (.bool true) ∧ J (pre ++ [x]) Y ∧ KeepC (ps3 g1 g2 t) X Y) ∨ (e = .returned (.bool false) ∧ Jx (pre ++ [x]) Y))
    (hC : Cel3 g1 g2 t b N fr W) (hN : N ≤ 1000000) (hfr : fr ≤ N) (hJ : J [] W) :
    CallsIn Fence.wide m Tryd.prog 63 #[.func (.yield l) #[] #[], .pointer (some ⟨g1, 0, none⟩), .pointer (some ⟨g2, 0, none⟩)] W fun e W' => (∃ v, e = .returned v) ∧
      ((∃ xs, xs = (List.range N).map (rnd N fr) ∧ J xs W') ∨ (∃ pre : List Nat, True ∧ Jx pre W')) := by
  have hJA := hJA0
  have hC1 := hC.1
  have hC3 := hC.2.2
  clear hJA0
  refine callsIn_of_wp Tryd.func63 rfl trivial ?_ rfl
  simp only [Tryd.ntmps63, List.size_toArray, List.length_cons, List.length_nil, Nat.reduceAdd, Nat.reduceSub, Array.replicate_succ, Array.replicate_zero, List.push_toArray, List.append_toArray, List.nil_append, List.cons_append]
  gi_wp2_with (first
    | ((with_reducible show wpListIn _ _ _ _ _ (Oper.mkOf _ (Op.load 53 _) _ _ _ _ :: _) _ _); refine listW_val rfl (fun c h => by cases h) (run_load_hstp rfl rfl hC1) ?_)
    | ((with_reducible show wpListIn _ _ _ _ _ (Oper.mkOf _ (Op.load 81 _) _ _ _ _ :: _) _ _); refine listW_val rfl (fun c h => by cases h) (run_load_hsar rfl rfl hC3) ?_))
  gi_loopw [10] (fun i wr => ∃ (k : Nat) (pre : List Nat), k ≤ N ∧ i = .int .i64 (k : Int) ∧ Hid (pre.length = k) ∧ Hid (pre = (List.range k).map (rnd N fr)) ∧ J pre wr ∧ Cel3 g1 g2 t b N fr wr)
    (fun i _ => N - (intOf i).toNat)
  case atStart => exact ⟨0, [], Nat.zero_le _, rfl, Lib.hid rfl, Lib.hid rfl, hJ, hC⟩
  case round =>
    obtain ⟨k, pre, hk, rfl, HPL, HPR, hJs, hSc⟩ := hrel
    by_cases hlt : k < N
    · have HAD : Hid (IntKind.i64.wrap ((fr : Int) + (k : Int)) = (fr : Int) + (k : Int)) := Lib.hid (IntWalk.i64_in _ (by omega))
      have HMD := Lib.hid (frm_mod hfr hlt)
      have hJA' := (fun pre A B r h1 h2 h3 => hJA pre A B r h1 h2 h3 : AbidesFrom W.heap.size J)
      clear hC hC1 hC3
      gi_upto_region 3 with fail
      refine regionI (S := Cel3 g1 g2 t b N fr) (by kernel_rfl) hSc (fun hS => ?_)
      refine pureI (i := 0) (oi := ⟨some 13, _, _, _, _, _⟩) rfl (by kernel_rfl) (by kernel_rfl) (by kernel_rfl) (fun _ _ _ h => h) (by rfl) (v := ?_) (fun w hSw => ?_) hS (fun hS => ?_)
      rotate_left
      · go_simp; try with_reducible rfl
      try go_frame
      refine pureI (i := 1) (oi := ⟨some 14, _, _, _, _, _⟩) rfl (by kernel_rfl) (by kernel_rfl) (by kernel_rfl) (fun _ _ _ h => h) (by rfl) (fun w hSw => run_load_int rfl rfl hSw.2.1) hS (fun hS => ?_)
      try go_frame
      refine pureI (i := 2) (oi := ⟨some 15, _, _, _, _, _⟩) rfl (by kernel_rfl) (by kernel_rfl) (by kernel_rfl) (fun _ _ _ h => h) (by rfl) (v := ?_) (fun w hSw => ?_) hS (fun hS => ?_)
      rotate_left
      · go_simp; try with_reducible rfl
      try go_frame
      refine pureI (i := 3) (oi := ⟨some 16, _, _, _, _, _⟩) rfl (by kernel_rfl) (by kernel_rfl) (by kernel_rfl) (fun _ _ _ h => h) (by rfl) (v := .int .i64 ((fr : Int) + (k : Int))) (fun w hSw => by go_simp; try exact HAD.out) hS (fun hS => ?_)
      try go_frame
      refine pureI (i := 4) (oi := ⟨some 17, _, _, _, _, _⟩) rfl (by kernel_rfl) (by kernel_rfl) (by kernel_rfl) (fun _ _ _ h => h) (by rfl) (fun w hSw => run_load_hstp rfl rfl hSw.1) hS (fun hS => ?_)
      try go_frame
      refine pureI (i := 5) (oi := ⟨some 18, _, _, _, _, _⟩) rfl (by kernel_rfl) (by kernel_rfl) (by kernel_rfl) (fun _ _ _ h => h) (by rfl) (v := ?_) (fun w hSw => ?_) hS (fun hS => ?_)
      rotate_left
      · go_simp; try with_reducible rfl
      try go_frame
      refine pureI (i := 6) (oi := ⟨some 19, _, _, _, _, _⟩) rfl (by kernel_rfl) (by kernel_rfl) (by kernel_rfl) (fun _ _ _ h => h) (by rfl) (v := ?_) (fun w hSw => ?_) hS (fun hS => ?_)
      rotate_left
      · go_simp; try with_reducible rfl
      try go_frame
      refine pureI (i := 7) (oi := ⟨some 20, _, _, _, _, _⟩) rfl (by kernel_rfl) (by kernel_rfl) (by kernel_rfl) (fun _ _ _ h => h) (by rfl) (fun w hSw => run_load_hsar rfl rfl hSw.2.2) hS (fun hS => ?_)
      try go_frame
      refine pureI (i := 8) (oi := ⟨some 21, _, _, _, _, _⟩) rfl (by kernel_rfl) (by kernel_rfl) (by kernel_rfl) (fun _ _ _ h => h) (by rfl) (v := ?_) (fun w hSw => ?_) hS (fun hS => ?_)
      rotate_left
      · go_simp; try with_reducible rfl
      try go_frame
      refine pureI (i := 9) (oi := ⟨some 22, _, _, _, _, _⟩) rfl (by kernel_rfl) (by kernel_rfl) (by kernel_rfl) (fun _ _ _ h => h) (by rfl) (v := .int .i64 ((rnd N fr k : Nat) : Int)) (fun w hSw => by go_simp; rw [if_neg (by omega), Int.tmod_eq_emod_of_nonneg (by omega), HMD.out]) hS (fun hS => ?_)
      try go_frame
      refine oneI (i := 10) (oi := ⟨some 23, _, _, _, _, _⟩) (by kernel_rfl) rfl (by rfl) (fun K hK => ?_)
      refine yieldI (l := l) (args := encP (rnd N fr k)) (by go_simp; try rfl) (hY pre (rnd N fr k) _ (hJA' pre _ _ none hJs (grown_none (Below.refl _ wr).drew) (fun _ e => by cases e)) ⟨by rw [HPL.out], by rw [HPL.out]; exact hlt⟩) ?_
      rintro e W3 (⟨rfl, hJ3, hk3⟩ | ⟨rfl, hJx3⟩)
      · have hS3 : Cel3 g1 g2 t b N fr W3 := hSc.keep hk3
        refine ⟨_, rfl, hK _ _ hS3 (fun hS => ?_)⟩
        clear hK K
        try go_frame
        refine pureI (i := 11) (oi := ⟨some 24, _, _, _, _, _⟩) rfl (by kernel_rfl) (by kernel_rfl) (by kernel_rfl) (fun _ _ _ h => h) (by rfl) (v := ?_) (fun w hSw => ?_) hS (fun hS => ?_)
        rotate_left
        · go_simp; try with_reducible rfl
        try go_frame
        refine doneI (by kernel_rfl) ?_ _
        gi_wp2
        go_roundw
        case rel => exact ⟨k + 1, pre ++ [rnd N fr k], by omega, by simp, Lib.hid (by rw [List.length_append, HPL.out]; rfl), Lib.hid (by rw [HPR.out, List.range_succ, List.map_append]; rfl), hJ3, hS3⟩
        case measure => simp [intOf]; omega
      · refine ⟨_, rfl, hK _ _ (hJxS _ _ hJx3) (fun hS => ?_)⟩
        clear hK K
        try go_frame
        refine pureI (i := 11) (oi := ⟨some 24, _, _, _, _, _⟩) rfl (by kernel_rfl) (by kernel_rfl) (by kernel_rfl) (fun _ _ _ h => h) (by rfl) (v := ?_) (fun w hSw => ?_) hS (fun hS => ?_)
        rotate_left
        · go_simp; try with_reducible rfl
        try go_frame
        refine doneI (by kernel_rfl) ?_ _
        gi_wp2
        refine bodyPost_ret (results_none rfl _ _ _) rfl ?_
        exact ⟨⟨_, rfl⟩, .inr ⟨_, trivial, hJx3⟩⟩
    · obtain rfl : N = k := by omega
      gi_wp2
      try rw [Exit.noGoto_normal]
      go_end0
      exact ⟨⟨_, rfl⟩, .inl ⟨_, HPR.out, hJs⟩⟩
end Go.Proofs.YtghbliabmecbcaaDoor

/-
  find of layer 18's code. Conditions are each theorem's own.
-/
namespace Go.Proofs.YtghbliabmecbcaaDoor
open Go.RowKit Go.Shelf
attribute [local go_sem] Oper.semAt_some

/-- Q, where nothing panics. -/
def noPanic (Q : Exit → Act → World → Prop) : Exit → Act → World → Prop
  | .panic _, _, _ => False
  | e, a, w => Q e a w
theorem noPanic_to {Q : Exit → Act → World → Prop} (e : Exit) (a : Act) (w : World) (h : noPanic Q e a w) : Q e a w := by
  cases e <;> first | exact h | exact h.elim
theorem noPanic_normal {Q : Exit → Act → World → Prop} {a : Act} {w : World} (h : Q .normal a w) : noPanic Q .normal a w := h
/-- Five blocks of find's own. -/
structure Fbx (W : World) (B t : Nat) (key : List UInt8) (r : Int) (f : Bool) : Prop where
  b0 : Boxed W B 53 (.pointer (some ⟨t, 0, none⟩))
  b1 : Boxed W (B + 1) 9 (.string (strB key))
  b2 : Boxed W (B + 1 + 1) 84 (.int .u64 (mkOf key))
  b3 : Boxed W (B + 1 + 1 + 1) 3 (.int .i64 r)
  b4 : Boxed W (B + 1 + 1 + 1 + 1) 4 (.bool f)
section
variable {W V : World} {B t n : Nat} {key : List UInt8} {r : Int} {f : Bool}
theorem Fbx.sz (h : Fbx W B t key r f) : B + 5 ≤ W.heap.size := by have := heap_lt (show W.heap[B + 1 + 1 + 1 + 1]? = _ from h.b4); omega
theorem Fbx.below (h : Fbx W B t key r f) (hb : Below n W V) (hn : B + 1 + 1 + 1 + 1 < n) : Fbx V B t key r f :=
  ⟨Boxed.below h.b0 hb (by omega), Boxed.below h.b1 hb (by omega), Boxed.below h.b2 hb (by omega), Boxed.below h.b3 hb (by omega), Boxed.below h.b4 hb hn⟩
theorem Fbx.kept {row : Option Nat} (h : Fbx W B t key r f) (hg : W.grownBy V row) (hr : ∀ k, row = some k → n ≤ k ∧ ∃ o : Obj, W.heap[k]? = some o ∧ o.isCells = false) : Fbx V B t key r f :=
  ⟨box_keep h.b0 hg hr, box_keep h.b1 hg hr, box_keep h.b2 hg hr, box_keep h.b3 hg hr, box_keep h.b4 hg hr⟩
theorem Fbx.set (h : Fbx W B t key r f) (r' : Int) (f' : Bool) : Fbx ((W.setCell ⟨B + 1 + 1 + 1, 0, none⟩ (.int .i64 r')).setCell ⟨B + 1 + 1 + 1 + 1, 0, none⟩ (.bool f')) B t key r' f' :=
  ⟨(h.b0.other (by omega) _).other (by omega) _, (h.b1.other (by omega) _).other (by omega) _, (h.b2.other (by omega) _).other (by omega) _, (Boxed.set _ h.b3).other (by omega) _, Boxed.set _ (h.b4.other (by omega) _)⟩
end
theorem Fbx.drew {W : World} {B t : Nat} {key : List UInt8} {r : Int} {f : Bool} (h : Fbx W B t key r f) : Fbx W.drew B t key r f := ⟨h.b0, h.b1, h.b2, h.b3, h.b4⟩
theorem Fbx.new (w : World) (t : Nat) (key : List UInt8) (W : World) (hW : W = ((((w.alloc (.cells #[.pointer (some ⟨t, 0, none⟩)] 53)).alloc (.cells #[.string (strB key)] 9)).alloc (.cells #[.int .u64 (mkOf key)] 84)).alloc (.cells #[.int .i64 0] 3)).alloc (.cells #[.bool false] 4)) :
    Fbx W w.heap.size t key 0 false ∧ Below w.heap.size w W := by
  have a1 : ∀ (V : World) (g : Nat) (T : TypeId) (v : Value), V.heap.size = g → Boxed (V.alloc (.cells #[v] T)) g T v := fun V g T v e => by subst e; exact Boxed.new V T v
  have hB : Below w.heap.size w W := by rw [hW]; exact (((((Below.refl w.heap.size w).alloc (Nat.le_refl _) _).alloc (by simp) _).alloc (by simp; omega) _).alloc (by simp; omega) _).alloc (by simp; omega) _
  refine ⟨?_, hB⟩
  rw [hW]
  exact ⟨((((a1 _ _ _ _ (by first | rfl | simp)).alloc _).alloc _).alloc _).alloc _, (((a1 _ _ _ _ (by first | rfl | simp)).alloc _).alloc _).alloc _, ((a1 _ _ _ _ (by first | rfl | simp)).alloc _).alloc _, (a1 _ _ _ _ (by first | rfl | simp)).alloc _, a1 _ _ _ _ (by first | rfl | simp)⟩
theorem places_below {w W : World} {t fr : Nat} (h : W = (w.alloc (.cells #[.pointer (some ⟨t, 0, none⟩)] 53)).alloc (.cells #[.int .i64 (fr : Int)] 3)) : Below w.heap.size w W := by
  rw [h]; exact ((Below.refl _ w).alloc (Nat.le_refl _) _).alloc (by simp) _
theorem places_cel {w W : World} {t b N fr : Nat} (h : W = (w.alloc (.cells #[.pointer (some ⟨t, 0, none⟩)] 53)).alloc (.cells #[.int .i64 (fr : Int)] 3)) (ht : w.cell? ⟨t, 0, none⟩ = some (.slice (some ⟨b, 0, none⟩) N N)) : Cel3 w.heap.size (w.heap.size + 1) t b N fr W := by
  have htl := cell_block ht
  refine ⟨?_, ?_, ((places_below h).cell (p := ⟨t, 0, none⟩) htl).trans ht⟩
  · rw [h]
    exact Boxed.cell ((Boxed.new w 53 (.pointer (some ⟨t, 0, none⟩))).alloc _)
  · rw [h]
    have := Boxed.new (w.alloc (.cells #[.pointer (some ⟨t, 0, none⟩)] 53)) 3 (.int .i64 (fr : Int))
    rw [World.size_alloc] at this
    exact Boxed.cell this
theorem Cel3.kept {g1 g2 t b N fr n : Nat} {W V : World} {row : Option Nat} (h : Cel3 g1 g2 t b N fr W) (hg : W.grownBy V row) (hr : ∀ k, row = some k → n ≤ k ∧ ∃ o : Obj, W.heap[k]? = some o ∧ o.isCells = false) : Cel3 g1 g2 t b N fr V :=
  ⟨cell_kept h.1 hg (fun k e => (hr k e).2), cell_kept h.2.1 hg (fun k e => (hr k e).2), cell_kept h.2.2 hg (fun k e => (hr k e).2)⟩
theorem Cel3.below {g1 g2 t b N fr n : Nat} {W V : World} (h : Cel3 g1 g2 t b N fr W) (hb : Below n W V) (h1 : g1 < n) (h2 : g2 < n) (h3 : t < n) : Cel3 g1 g2 t b N fr V :=
  h.keep (KeepC.of_below hb (fun p hp => by simp only [ps3, List.mem_cons, List.not_mem_nil, or_false] at hp; rcases hp with rfl | rfl | rfl <;> assumption))
theorem places_seq (w W : World) (t b N fr : Nat) (h : W = (w.alloc (.cells #[.pointer (some ⟨t, 0, none⟩)] 53)).alloc (.cells #[.int .i64 (fr : Int)] 3)) (ht : w.cell? ⟨t, 0, none⟩ = some (.slice (some ⟨b, 0, none⟩) N N)) (hN : N ≤ 1000000) (hf : fr ≤ N) (m : Nat) :
    SeqSafe m Tryd.prog 63 #[.pointer (some ⟨w.heap.size, 0, none⟩), .pointer (some ⟨w.heap.size + 1, 0, none⟩)] encP (GP N fr) (KeepC (ps3 w.heap.size (w.heap.size + 1) t)) (Cel3 w.heap.size (w.heap.size + 1) t b N fr) (fun xs => xs = (List.range N).map (rnd N fr)) (fun _ => True) W := by
  intro l J Jx V hV hJ _ hS hY h0
  have hc := places_cel h ht
  have hz : W.heap.size = w.heap.size + 2 := by rw [h]; simp
  have htl := cell_block ht
  exact places1_in m l _ _ t b N fr J Jx V hJ hS hY (hc.below hV (by omega) (by omega) (by simp at htl; omega)) hN hf h0
/-- What find answers. -/
def FindOut (L : List (Option Ent)) (key : List UInt8) (e : Ending) : Prop :=
  (∃ (i : Nat) (x : Ent), plH L i = some x ∧ x.key = key ∧ e = .returned (.tuple #[.int .i64 (i : Int), .bool true])) ∨ ((∀ i x, plH L i = some x → x.key ≠ key) ∧ e = .returned (.tuple #[.int .i64 0, .bool false]))
theorem cells2 {fn : Func} {p q : Tmp} {tmps : Array Value} {w : World} {g g' : Nat} {x y : Value} (h : fn.results = #[.cell p 3, .cell q 4])
    (hp : tmps.getD p undef = .pointer (some ⟨g, 0, none⟩)) (hq : tmps.getD q undef = .pointer (some ⟨g', 0, none⟩)) (h0 : Boxed w g 3 x) (h1 : Boxed w g' 4 y) :
    (results fn tmps).run Tryd.prog w = .ok (.tuple #[x, y]) w := by
  have hp' : tmps[p]?.getD undef = .pointer (some ⟨g, 0, none⟩) := by simpa using hp
  have hq' : tmps[q]?.getD undef = .pointer (some ⟨g', 0, none⟩) := by simpa using hq
  simp [results, h, hp', hq', asAddr, loadv_int h0, loadv_bool h1]
theorem run_load_stH {o : Oper} {a : Act} {w : World} {x : Operand} {p : Addr} {s : ByteArray} (ho : o.op = .load 9 x) (hx : a.eval x = .pointer (some p)) (hc : w.cell? p = some (.string s)) :
    (execOp a.eval o).run Tryd.prog w = .ok (.value (.string s)) w := by
  unfold execOp
  simp only [ho, hx, Instr.loadAt, Instr.sureAddr, Sem.run_bind, Sem.run_pure, Result.andThen_ok]
  go_simp
section
variable {w : World} {t b : Nat} {cnt most : Int} {L : List (Option Ent)}
set_option maxRecDepth 100000 in
set_option maxHeartbeats 4000000 in
theorem hsfind (h : Hs w t b cnt most L) (hP : Prb (hmN L.length) L) (hN : L.length ≤ 1000000) (key : List UInt8) :
    Calls Tryd.prog 40 #[.pointer (some ⟨t, 0, none⟩), .string (strB key), .int .u64 (mkOf key)] w fun e w' => FindOut L key e ∧ Below w.heap.size w w' := by
  have HH := Lib.hid h
  have HP := Lib.hid hP
  have hh := hP.home key
  have hN0 : 0 < L.length := by omega
  have htl := heap_lt h.tab
  clear h hP
  refine (callsIn_wide (n := 4)).1 ?_
  refine callsIn_of_wp_marks Tryd.func40 rfl trivial ?_ rfl
  simp only [Tryd.ntmps40, List.size_toArray, List.length_cons, List.length_nil, Nat.reduceAdd, Nat.reduceSub, Array.replicate_succ, Array.replicate_zero, List.push_toArray, List.append_toArray, List.nil_append, List.cons_append]
  gi_wp2
  refine wpIn_wide.2 (wp_scope_straight ((wpIn_wide (n := 4)).1 ?_))
  gi_wp2
  refine wpIn_wide.2 (wp_label ?_)
  gi_upto_region 1 with fail
  obtain ⟨W, hW⟩ : ∃ W, W = ((((w.alloc (.cells #[.pointer (some ⟨t, 0, none⟩)] 53)).alloc (.cells #[.string (strB key)] 9)).alloc (.cells #[.int .u64 (mkOf key)] 84)).alloc (.cells #[.int .i64 0] 3)).alloc (.cells #[.bool false] 4) := ⟨_, rfl⟩
  obtain ⟨hF, hBW⟩ := Fbx.new w t key W hW
  rw [← hW]
  clear hW
  refine wpIn_mono (Q := noPanic _) ?_ noPanic_to
  refine regionI (S := fun V => Fbx V w.heap.size t key 0 false ∧ Below w.heap.size w V) (by kernel_rfl) ⟨hF.below (Below.refl W.heap.size W).drew (by have := hF.sz; omega), hBW.drew⟩ (fun hS => ?_)
  clear hF hBW
  refine pureI (i := 0) (oi := ⟨some 10, _, _, _, _, _⟩) rfl (by kernel_rfl) (by kernel_rfl) (by kernel_rfl) (fun _ _ _ h => h) (by rfl) (fun w hSw => run_load_hstp rfl rfl (Boxed.cell hSw.1.b0)) hS (fun hS => ?_)
  try go_frame
  refine pureI (i := 1) (oi := ⟨some 11, _, _, _, _, _⟩) rfl (by kernel_rfl) (by kernel_rfl) (by kernel_rfl) (fun _ _ _ h => h) (by rfl) (fun w hSw => run_load_hstp rfl rfl (Boxed.cell hSw.1.b0)) hS (fun hS => ?_)
  try go_frame
  refine pureI (i := 2) (oi := ⟨some 12, _, _, _, _, _⟩) rfl (by kernel_rfl) (by kernel_rfl) (by kernel_rfl) (fun _ _ _ h => h) (by rfl) (fun w hSw => run_load_u64 rfl rfl (Boxed.cell hSw.1.b2)) hS (fun hS => ?_)
  try go_frame
  refine oneI (i := 3) (oi := ⟨some 13, _, _, _, _, _⟩) (by kernel_rfl) rfl (by rfl) (fun K hK => ?_)
  refine callI (f := 55) (args := #[.pointer (some ⟨t, 0, none⟩), .int .u64 (mkOf key)]) (by go_simp; try rfl) ?_
  refine (hshome t b L.length L.length key _ (hS.2.cell (p := ⟨t, 0, none⟩) (heap_lt HH.out.tab) |>.trans HH.out.c0) hN0 hN).mono ?_
  rintro e w6 ⟨rfl, rfl⟩
  refine ⟨_, rfl, hK _ _ hS (fun hS => ?_)⟩
  clear hK K
  try go_frame
  refine oneI (i := 4) (oi := ⟨some 14, _, _, _, _, _⟩) (by kernel_rfl) rfl (by rfl) (fun K hK => ?_)
  refine callI (f := 54) (args := #[.pointer (some ⟨t, 0, none⟩), .int .i64 ((hmN L.length key : Nat) : Int)]) (by go_simp; try rfl) ?_
  refine (hsplaces t (hmN L.length key) _).mono ?_
  rintro e w7 ⟨rfl, hw7⟩
  have hb7 := places_below hw7
  have hct := (hS.2.cell (p := ⟨t, 0, none⟩) htl).trans HH.out.c0
  have hsW := hS.1.sz
  refine ⟨_, rfl, hK _ _ ⟨hS.1.below hb7 (by have := hS.1.sz; omega), hS.2.trans (hb7.mono hS.2.size)⟩ (fun hS => ?_)⟩
  clear hK K
  try go_frame
  refine doneI (by kernel_rfl) ?_ _
  refine noPanic_normal ?_
  have hseq := places_seq _ _ t b L.length (hmN L.length key) hw7 hct hN (Nat.le_of_lt hh) (4 - 1)
  have hC7 := places_cel hw7 hct
  have hz7 : w7.heap.size = W.drew.heap.size + 2 := by rw [hw7]; simp
  clear hw7 hb7 hct
  generalize W.drew.heap.size = g1 at *
  gi_wp2
  refine range_safe (by omega) (gf := 63) (lb := #[.pointer (some ⟨g1, 0, none⟩), .pointer (some ⟨g1 + 1, 0, none⟩)]) rfl (enters_of Tryd.func63 (by kernel_rfl) rfl)
    hseq KeepC.trans (fun V l r r' hl hr => KeepC.loop hr) (Below.refl _ _) (fun _ => rfl)
    (fun pre x V l r r' h _ hl => h)
    (fun pre X => Seen L key (hmN L.length key) pre.length ∧ Cel3 g1 (g1 + 1) t b L.length (hmN L.length key) X ∧ Fbx X w.heap.size t key 0 false ∧ Below w.heap.size w X)
    (fun cd _ X => Cel3 g1 (g1 + 1) t b L.length (hmN L.length key) X ∧ Below w.heap.size w X ∧ ((cd = .exit 0 ∧ (∀ i x, plH L i = some x → x.key ≠ key) ∧ Fbx X w.heap.size t key 0 false) ∨ (cd = .ret ∧ ∃ (i : Nat) (x : Ent), plH L i = some x ∧ x.key = key ∧ Fbx X w.heap.size t key (i : Int) true)))
    (fun pre X Y r hs hg hr => ⟨hs.1, hs.2.1.kept hg hr, hs.2.2.1.kept hg hr, below_keep hs.2.2.2 hg hr (by omega) (Nat.le_refl _)⟩)
    (fun cd pre X Y r hs hg hr => ⟨hs.1.kept hg hr, below_keep hs.2.1 hg hr (by omega) (Nat.le_refl _), hs.2.2.imp (fun h => ⟨h.1, h.2.1, h.2.2.kept hg hr⟩) (fun h => by obtain ⟨h1, i, x, h2, h3, h4⟩ := h; exact ⟨h1, i, x, h2, h3, h4.kept hg hr⟩)⟩)
    (fun cd pre X h => h.1)
    ⟨fun d hd => absurd hd (Nat.not_lt_zero _), hC7, hS.1, hS.2⟩
    (fun x => { tmps := #[.pointer (some ⟨t, 0, none⟩), .string (strB key), .int .u64 (mkOf key), .pointer (some ⟨w.heap.size, 0, none⟩), .pointer (some ⟨w.heap.size + 1, 0, none⟩), .pointer (some ⟨w.heap.size + 1 + 1, 0, none⟩), .pointer (some ⟨w.heap.size + 1 + 1 + 1, 0, none⟩), .pointer (some ⟨w.heap.size + 1 + 1 + 1 + 1, 0, none⟩), .int .i64 (x : Int), undef, .pointer (some ⟨t, 0, none⟩), .pointer (some ⟨t, 0, none⟩), .int .u64 (mkOf key), .int .i64 ((hmN L.length key : Nat) : Int), .func (.func 63) #[] #[.pointer (some ⟨g1, 0, none⟩), .pointer (some ⟨g1 + 1, 0, none⟩)], .int .i64 (x : Int), undef, undef, undef, undef, undef, undef, undef, undef, undef, undef, undef, undef, undef, undef, undef, undef, undef, undef, undef, undef, undef, undef, undef, undef, undef, undef, undef, undef], defers := [] }) ?assign ?body ?done ?stop
  case assign =>
    intro l x X K hK
    dsimp only [encP]
    gi_wp2
    exact hK
  case body =>
    rintro l pre x X ⟨hseen, hcel, hF, hB⟩ ⟨hx, hpl⟩
    have hxl : x < L.length := by rw [hx]; exact rnd_lt hh hpl
    have hrow := (HH.out.below hB).at_ (plH_get hxl)
    have HX := Lib.hid hx
    have HSN := Lib.hid hseen
    clear hx hseen
    have kb0 := Boxed.cell hF.b0
    have kb1 := Boxed.cell hF.b1
    have kb2 := Boxed.cell hF.b2
    have kb3 := Boxed.cell hF.b3
    have kb4 := Boxed.cell hF.b4
    have kf3 := Boxed.frozen hF.b3
    have kf4 := Boxed.frozen hF.b4
    have kt := hcel.2.2
    have hne3 : ∀ p ∈ ps3 g1 (g1 + 1) t, p.block ≠ w.heap.size + 1 + 1 + 1 := fun p hp => by simp only [ps3, List.mem_cons, List.not_mem_nil, or_false] at hp; rcases hp with rfl | rfl | rfl <;> simp <;> omega
    have hne4 : ∀ p ∈ ps3 g1 (g1 + 1) t, p.block ≠ w.heap.size + 1 + 1 + 1 + 1 := fun p hp => by simp only [ps3, List.mem_cons, List.not_mem_nil, or_false] at hp; rcases hp with rfl | rfl | rfl <;> simp <;> omega
    cases hp : plH L x with
    | none =>
      rw [hp] at hrow
      have k0 : X.cell? ⟨b, x * 4, none⟩ = some (.bool false) := hrow 0 _ rfl
      have HN := Lib.hid (HP.out.absent hpl HSN.out (HX.out ▸ hp))
      clear hrow hp
      gi_wp2
      exact ⟨(KeepsOthers.refl _).from _, hcel, hB, .inl ⟨rfl, HN.out, hF⟩⟩
    | some y =>
      rw [hp] at hrow
      have k0 : X.cell? ⟨b, x * 4, none⟩ = some (.bool true) := hrow 0 _ rfl
      have k1 : X.cell? ⟨b, x * 4 + 1, none⟩ = some (.int .u64 (mkOf y.key)) := hrow 1 _ rfl
      have k2 : X.cell? ⟨b, x * 4 + 2, none⟩ = some (.string (strB y.key)) := hrow 2 _ rfl
      have HPL := Lib.hid hp
      clear hrow hp
      by_cases hy : y.key = key
      · have dm : (mkOf y.key == mkOf key) = true := by rw [hy]; simp
        have dk : ((strB y.key).toList == (strB key).toList) = true := by rw [hy]; simp
        gi_upto_region 5 with fail
        refine region_roundH (S := fun V => V = X.drew) (by kernel_rfl) (by kernel_rfl) (fun h => by obtain ⟨_, _, h⟩ := h; exact h) rfl (fun hS => ?_)
        refine held_pure (i := 0) (oi := ⟨some 29, _, _, _, _, _⟩) rfl (by kernel_rfl) (by kernel_rfl) (by kernel_rfl) (fun _ _ _ h => h) (by rfl) (v := ?_) (fun w hSw => ?_) hS (fun hS => ?_)
        rotate_left
        · go_simp; try with_reducible rfl
        try go_frame
        refine held_pure (i := 1) (oi := ⟨some 30, _, _, _, _, _⟩) rfl (by kernel_rfl) (by kernel_rfl) (by kernel_rfl) (fun _ _ _ h => h) (by rfl) (v := ?_) (fun w hSw => ?_) hS (fun hS => ?_)
        rotate_left
        · go_simp; try with_reducible rfl
        try go_frame
        refine held_pure (i := 2) (oi := ⟨some 31, _, _, _, _, _⟩) rfl (by kernel_rfl) (by kernel_rfl) (by kernel_rfl) (fun _ _ _ h => h) (by rfl) (v := ?_) (fun w hSw => ?_) hS (fun hS => ?_)
        rotate_left
        · go_simp; try with_reducible rfl
        try go_frame
        refine held_pure (i := 3) (oi := ⟨some 32, _, _, _, _, _⟩) rfl (by kernel_rfl) (by kernel_rfl) (by kernel_rfl) (fun _ _ _ h => h) (by rfl) (fun w hSw => run_load_u64 rfl rfl (by rw [hSw]; exact k1)) hS (fun hS => ?_)
        try go_frame
        refine held_pure (i := 4) (oi := ⟨some 33, _, _, _, _, _⟩) rfl (by kernel_rfl) (by kernel_rfl) (by kernel_rfl) (fun _ _ _ h => h) (by rfl) (fun w hSw => run_load_u64 rfl rfl (by rw [hSw]; exact kb2)) hS (fun hS => ?_)
        try go_frame
        refine held_pure (i := 5) (oi := ⟨some 34, _, _, _, _, _⟩) rfl (by kernel_rfl) (by kernel_rfl) (by kernel_rfl) (fun _ _ _ h => h) (by rfl) (v := .bool true) (fun w hSw => by go_simp; try exact dm) hS (fun hS => ?_)
        try go_frame
        refine held_pure (i := 6) (oi := ⟨some 35, _, _, _, _, _⟩) rfl (by kernel_rfl) (by kernel_rfl) (by kernel_rfl) (fun _ _ _ h => h) (by rfl) (v := ?_) (fun w hSw => ?_) hS (fun hS => ?_)
        rotate_left
        · go_simp; try with_reducible rfl
        try go_frame
        refine held_pure (i := 7) (oi := ⟨some 36, _, _, _, _, _⟩) rfl (by kernel_rfl) (by kernel_rfl) (by kernel_rfl) (fun _ _ _ h => h) (by rfl) (v := ?_) (fun w hSw => ?_) hS (fun hS => ?_)
        rotate_left
        · go_simp; try with_reducible rfl
        try go_frame
        refine held_pure (i := 8) (oi := ⟨some 37, _, _, _, _, _⟩) rfl (by kernel_rfl) (by kernel_rfl) (by kernel_rfl) (fun _ _ _ h => h) (by rfl) (v := ?_) (fun w hSw => ?_) hS (fun hS => ?_)
        rotate_left
        · go_simp; try with_reducible rfl
        try go_frame
        refine held_pure (i := 9) (oi := ⟨some 38, _, _, _, _, _⟩) rfl (by kernel_rfl) (by kernel_rfl) (by kernel_rfl) (fun _ _ _ h => h) (by rfl) (v := ?_) (fun w hSw => ?_) hS (fun hS => ?_)
        rotate_left
        · go_simp; try with_reducible rfl
        try go_frame
        refine held_pure (i := 10) (oi := ⟨some 39, _, _, _, _, _⟩) rfl (by kernel_rfl) (by kernel_rfl) (by kernel_rfl) (fun _ _ _ h => h) (by rfl) (fun w hSw => run_load_stH rfl rfl (by rw [hSw]; exact k2)) hS (fun hS => ?_)
        try go_frame
        refine held_pure (i := 11) (oi := ⟨some 40, _, _, _, _, _⟩) rfl (by kernel_rfl) (by kernel_rfl) (by kernel_rfl) (fun _ _ _ h => h) (by rfl) (fun w hSw => run_load_stH rfl rfl (by rw [hSw]; exact kb1)) hS (fun hS => ?_)
        try go_frame
        refine held_pure (i := 12) (oi := ⟨some 41, _, _, _, _, _⟩) rfl (by kernel_rfl) (by kernel_rfl) (by kernel_rfl) (fun _ _ _ h => h) (by rfl) (v := .bool true) (fun w hSw => by go_simp; try exact dk) hS (fun hS => ?_)
        try go_frame
        refine held_pure (i := 13) (oi := ⟨some 42, _, _, _, _, _⟩) rfl (by kernel_rfl) (by kernel_rfl) (by kernel_rfl) (fun _ _ _ h => h) (by rfl) (v := ?_) (fun w hSw => ?_) hS (fun hS => ?_)
        rotate_left
        · go_simp; try with_reducible rfl
        try go_frame
        refine held_pure (i := 14) (oi := ⟨some 28, _, _, _, _, _⟩) rfl (by kernel_rfl) (by kernel_rfl) (by kernel_rfl) (fun _ _ _ h => h) (by rfl) (v := ?_) (fun w hSw => ?_) hS (fun hS => ?_)
        rotate_left
        · go_simp; try with_reducible rfl
        try go_frame
        refine wpAnyH_done (by kernel_rfl) ?_ _
        gi_wp2
        all_goals exact ⟨(((KeepsOthers.drew _).trans (KeepsOthers.setCell _ _ _)).trans (KeepsOthers.setCell _ _ _)).from _, (hcel.keep (KeepC.cell (X := X) (a := ⟨w.heap.size + 1 + 1 + 1, 0, none⟩) (v := .int .i64 (x : Int)) hne3)).keep (KeepC.cell hne4), ((hB.drew).setCell (p := ⟨w.heap.size + 1 + 1 + 1, 0, none⟩) (by simp; omega) _).setCell (p := ⟨w.heap.size + 1 + 1 + 1 + 1, 0, none⟩) (by simp; omega) _, .inr ⟨rfl, x, y, HPL.out, hy, (Fbx.set hF _ _).drew⟩⟩
      · have dk : ((strB y.key).toList == (strB key).toList) = false := by rw [strB_eq]; exact decide_eq_false hy
        have hsn : Seen L key (hmN L.length key) (pre ++ [x]).length := fun d hd => by
          rw [List.length_append] at hd
          rcases Nat.lt_or_ge d pre.length with h | h
          · exact HSN.out d h
          · have hde : d = pre.length := by simp at hd; omega
            rw [hde, ← HX.out]
            exact ⟨y, HPL.out, hy⟩
        have HS2 := Lib.hid hsn
        clear hsn
        by_cases hm : mkOf y.key = mkOf key
        · have dm : (mkOf y.key == mkOf key) = true := by rw [hm]; simp
          clear hy hm
          gi_upto_region 5 with fail
          refine region_roundH (S := fun V => V = X.drew) (by kernel_rfl) (by kernel_rfl) (fun h => by obtain ⟨_, _, h⟩ := h; exact h) rfl (fun hS => ?_)
          refine held_pure (i := 0) (oi := ⟨some 29, _, _, _, _, _⟩) rfl (by kernel_rfl) (by kernel_rfl) (by kernel_rfl) (fun _ _ _ h => h) (by rfl) (v := ?_) (fun w hSw => ?_) hS (fun hS => ?_)
          rotate_left
          · go_simp; try with_reducible rfl
          try go_frame
          refine held_pure (i := 1) (oi := ⟨some 30, _, _, _, _, _⟩) rfl (by kernel_rfl) (by kernel_rfl) (by kernel_rfl) (fun _ _ _ h => h) (by rfl) (v := ?_) (fun w hSw => ?_) hS (fun hS => ?_)
          rotate_left
          · go_simp; try with_reducible rfl
          try go_frame
          refine held_pure (i := 2) (oi := ⟨some 31, _, _, _, _, _⟩) rfl (by kernel_rfl) (by kernel_rfl) (by kernel_rfl) (fun _ _ _ h => h) (by rfl) (v := ?_) (fun w hSw => ?_) hS (fun hS => ?_)
          rotate_left
          · go_simp; try with_reducible rfl
          try go_frame
          refine held_pure (i := 3) (oi := ⟨some 32, _, _, _, _, _⟩) rfl (by kernel_rfl) (by kernel_rfl) (by kernel_rfl) (fun _ _ _ h => h) (by rfl) (fun w hSw => run_load_u64 rfl rfl (by rw [hSw]; exact k1)) hS (fun hS => ?_)
          try go_frame
          refine held_pure (i := 4) (oi := ⟨some 33, _, _, _, _, _⟩) rfl (by kernel_rfl) (by kernel_rfl) (by kernel_rfl) (fun _ _ _ h => h) (by rfl) (fun w hSw => run_load_u64 rfl rfl (by rw [hSw]; exact kb2)) hS (fun hS => ?_)
          try go_frame
          refine held_pure (i := 5) (oi := ⟨some 34, _, _, _, _, _⟩) rfl (by kernel_rfl) (by kernel_rfl) (by kernel_rfl) (fun _ _ _ h => h) (by rfl) (v := .bool true) (fun w hSw => by go_simp; try exact dm) hS (fun hS => ?_)
          try go_frame
          refine held_pure (i := 6) (oi := ⟨some 35, _, _, _, _, _⟩) rfl (by kernel_rfl) (by kernel_rfl) (by kernel_rfl) (fun _ _ _ h => h) (by rfl) (v := ?_) (fun w hSw => ?_) hS (fun hS => ?_)
          rotate_left
          · go_simp; try with_reducible rfl
          try go_frame
          refine held_pure (i := 7) (oi := ⟨some 36, _, _, _, _, _⟩) rfl (by kernel_rfl) (by kernel_rfl) (by kernel_rfl) (fun _ _ _ h => h) (by rfl) (v := ?_) (fun w hSw => ?_) hS (fun hS => ?_)
          rotate_left
          · go_simp; try with_reducible rfl
          try go_frame
          refine held_pure (i := 8) (oi := ⟨some 37, _, _, _, _, _⟩) rfl (by kernel_rfl) (by kernel_rfl) (by kernel_rfl) (fun _ _ _ h => h) (by rfl) (v := ?_) (fun w hSw => ?_) hS (fun hS => ?_)
          rotate_left
          · go_simp; try with_reducible rfl
          try go_frame
          refine held_pure (i := 9) (oi := ⟨some 38, _, _, _, _, _⟩) rfl (by kernel_rfl) (by kernel_rfl) (by kernel_rfl) (fun _ _ _ h => h) (by rfl) (v := ?_) (fun w hSw => ?_) hS (fun hS => ?_)
          rotate_left
          · go_simp; try with_reducible rfl
          try go_frame
          refine held_pure (i := 10) (oi := ⟨some 39, _, _, _, _, _⟩) rfl (by kernel_rfl) (by kernel_rfl) (by kernel_rfl) (fun _ _ _ h => h) (by rfl) (fun w hSw => run_load_stH rfl rfl (by rw [hSw]; exact k2)) hS (fun hS => ?_)
          try go_frame
          refine held_pure (i := 11) (oi := ⟨some 40, _, _, _, _, _⟩) rfl (by kernel_rfl) (by kernel_rfl) (by kernel_rfl) (fun _ _ _ h => h) (by rfl) (fun w hSw => run_load_stH rfl rfl (by rw [hSw]; exact kb1)) hS (fun hS => ?_)
          try go_frame
          refine held_pure (i := 12) (oi := ⟨some 41, _, _, _, _, _⟩) rfl (by kernel_rfl) (by kernel_rfl) (by kernel_rfl) (fun _ _ _ h => h) (by rfl) (v := .bool false) (fun w hSw => by go_simp; try exact dk) hS (fun hS => ?_)
          try go_frame
          refine held_pure (i := 13) (oi := ⟨some 42, _, _, _, _, _⟩) rfl (by kernel_rfl) (by kernel_rfl) (by kernel_rfl) (fun _ _ _ h => h) (by rfl) (v := ?_) (fun w hSw => ?_) hS (fun hS => ?_)
          rotate_left
          · go_simp; try with_reducible rfl
          try go_frame
          refine held_pure (i := 14) (oi := ⟨some 28, _, _, _, _, _⟩) rfl (by kernel_rfl) (by kernel_rfl) (by kernel_rfl) (fun _ _ _ h => h) (by rfl) (v := ?_) (fun w hSw => ?_) hS (fun hS => ?_)
          rotate_left
          · go_simp; try with_reducible rfl
          try go_frame
          refine wpAnyH_done (by kernel_rfl) ?_ _
          gi_wp2
          all_goals exact ⟨(KeepsOthers.drew _).from _, KeepC.refl _ _, HS2.out, hcel, hF.drew, hB.drew⟩
        · have dm : (mkOf y.key == mkOf key) = false := by simpa using hm
          clear hy hm
          gi_upto_region 5 with fail
          refine region_roundH (S := fun V => V = X.drew) (by kernel_rfl) (by kernel_rfl) (fun h => by obtain ⟨_, _, h⟩ := h; exact h) rfl (fun hS => ?_)
          refine held_pure (i := 0) (oi := ⟨some 29, _, _, _, _, _⟩) rfl (by kernel_rfl) (by kernel_rfl) (by kernel_rfl) (fun _ _ _ h => h) (by rfl) (v := ?_) (fun w hSw => ?_) hS (fun hS => ?_)
          rotate_left
          · go_simp; try with_reducible rfl
          try go_frame
          refine held_pure (i := 1) (oi := ⟨some 30, _, _, _, _, _⟩) rfl (by kernel_rfl) (by kernel_rfl) (by kernel_rfl) (fun _ _ _ h => h) (by rfl) (v := ?_) (fun w hSw => ?_) hS (fun hS => ?_)
          rotate_left
          · go_simp; try with_reducible rfl
          try go_frame
          refine held_pure (i := 2) (oi := ⟨some 31, _, _, _, _, _⟩) rfl (by kernel_rfl) (by kernel_rfl) (by kernel_rfl) (fun _ _ _ h => h) (by rfl) (v := ?_) (fun w hSw => ?_) hS (fun hS => ?_)
          rotate_left
          · go_simp; try with_reducible rfl
          try go_frame
          refine held_pure (i := 3) (oi := ⟨some 32, _, _, _, _, _⟩) rfl (by kernel_rfl) (by kernel_rfl) (by kernel_rfl) (fun _ _ _ h => h) (by rfl) (fun w hSw => run_load_u64 rfl rfl (by rw [hSw]; exact k1)) hS (fun hS => ?_)
          try go_frame
          refine held_pure (i := 4) (oi := ⟨some 33, _, _, _, _, _⟩) rfl (by kernel_rfl) (by kernel_rfl) (by kernel_rfl) (fun _ _ _ h => h) (by rfl) (fun w hSw => run_load_u64 rfl rfl (by rw [hSw]; exact kb2)) hS (fun hS => ?_)
          try go_frame
          refine held_pure (i := 5) (oi := ⟨some 34, _, _, _, _, _⟩) rfl (by kernel_rfl) (by kernel_rfl) (by kernel_rfl) (fun _ _ _ h => h) (by rfl) (v := .bool false) (fun w hSw => by go_simp; try exact dm) hS (fun hS => ?_)
          try go_frame
          refine held_pure (i := 6) (oi := ⟨some 35, _, _, _, _, _⟩) rfl (by kernel_rfl) (by kernel_rfl) (by kernel_rfl) (fun _ _ _ h => h) (by rfl) (v := ?_) (fun w hSw => ?_) hS (fun hS => ?_)
          rotate_left
          · go_simp; try with_reducible rfl
          try go_frame
          refine held_skip (i := 7) (oi := ⟨some 36, _, _, _, _, _⟩) rfl (by kernel_rfl) (by kernel_rfl) (by kernel_rfl) (fun _ _ _ h => h) (by rfl) hS (fun hS => ?_)
          try go_frame
          refine held_skip (i := 8) (oi := ⟨some 37, _, _, _, _, _⟩) rfl (by kernel_rfl) (by kernel_rfl) (by kernel_rfl) (fun _ _ _ h => h) (by rfl) hS (fun hS => ?_)
          try go_frame
          refine held_skip (i := 9) (oi := ⟨some 38, _, _, _, _, _⟩) rfl (by kernel_rfl) (by kernel_rfl) (by kernel_rfl) (fun _ _ _ h => h) (by rfl) hS (fun hS => ?_)
          try go_frame
          refine held_skip (i := 10) (oi := ⟨some 39, _, _, _, _, _⟩) rfl (by kernel_rfl) (by kernel_rfl) (by kernel_rfl) (fun _ _ _ h => h) (by rfl) hS (fun hS => ?_)
          try go_frame
          refine held_skip (i := 11) (oi := ⟨some 40, _, _, _, _, _⟩) rfl (by kernel_rfl) (by kernel_rfl) (by kernel_rfl) (fun _ _ _ h => h) (by rfl) hS (fun hS => ?_)
          try go_frame
          refine held_skip (i := 12) (oi := ⟨some 41, _, _, _, _, _⟩) rfl (by kernel_rfl) (by kernel_rfl) (by kernel_rfl) (fun _ _ _ h => h) (by rfl) hS (fun hS => ?_)
          try go_frame
          refine held_pure (i := 13) (oi := ⟨some 42, _, _, _, _, _⟩) rfl (by kernel_rfl) (by kernel_rfl) (by kernel_rfl) (fun _ _ _ h => h) (by rfl) (v := ?_) (fun w hSw => ?_) hS (fun hS => ?_)
          rotate_left
          · go_simp; try with_reducible rfl
          try go_frame
          refine held_pure (i := 14) (oi := ⟨some 28, _, _, _, _, _⟩) rfl (by kernel_rfl) (by kernel_rfl) (by kernel_rfl) (fun _ _ _ h => h) (by rfl) (v := ?_) (fun w hSw => ?_) hS (fun hS => ?_)
          rotate_left
          · go_simp; try with_reducible rfl
          try go_frame
          refine wpAnyH_done (by kernel_rfl) ?_ _
          gi_wp2
          all_goals exact ⟨(KeepsOthers.drew _).from _, KeepC.refl _ _, HS2.out, hcel, hF.drew, hB.drew⟩
  case done =>
    rintro D xs X hD hS ⟨hseen, hcel, hF, hB⟩ hK
    rw [hS, List.length_map, List.length_range] at hseen
    have HA := Lib.hid (absent_all hh hseen)
    clear hseen hS hseq hC7
    have hm1 : Marks w7.heap.size X.heap.size [{ target := .collected D, args := #[] }] X := (Marks.push (hi := D) (ds := []) trivial (Nat.le_refl _) hD hK).more (heap_lt hK)
    have kb3 := Boxed.cell hF.b3
    have kb4 := Boxed.cell (Boxed.other hF.b4 (B' := w.heap.size + 1 + 1 + 1) (by omega) (.int .i64 0))
    have kf3 := Boxed.frozen hF.b3
    have kf4 := Boxed.frozen (Boxed.other hF.b4 (B' := w.heap.size + 1 + 1 + 1) (by omega) (.int .i64 0))
    gi_wp2
    refine leaves_marks w7.heap.size (fun Y => Fbx Y w.heap.size t key 0 false ∧ Below w.heap.size w Y) (fun Y D hY h1 h2 => ⟨hY.1.kept (n := w7.heap.size) (grownBy_putObj' Y D _) (fun k e => by cases e; exact ⟨h1, _, h2, rfl⟩), hY.2.trans (belowK_b (w := w) (Nat.le_refl _) Y D _ _ (by omega) h2 rfl rfl)⟩)
      (fun Y hY => ⟨_, cells2 rfl rfl rfl hY.1.b3 hY.1.b4, Or.inr ⟨HA.out, rfl⟩, hY.2⟩) _ _ _ (hm1.keep (fun k h1 _ => (Below.heap_setCell _ _ _ _ (by simp; omega)).trans (Below.heap_setCell _ _ _ _ (by simp; omega))))
      ⟨Fbx.set hF _ _, (hB.setCell (p := ⟨w.heap.size + 1 + 1 + 1, 0, none⟩) (by simp; omega) _).setCell (p := ⟨w.heap.size + 1 + 1 + 1 + 1, 0, none⟩) (by simp; omega) _⟩
  case stop =>
    rintro D cd pre X hD _ ⟨hcel, hB, h⟩ hK
    have hm1 : Marks w7.heap.size X.heap.size [{ target := .collected D, args := #[] }] X := (Marks.push (hi := D) (ds := []) trivial (Nat.le_refl _) hD hK).more (heap_lt hK)
    rcases h with ⟨rfl, hno, hF⟩ | ⟨rfl, i, x, hx, hk, hF⟩
    · have HA := Lib.hid hno
      clear hno
      have kb3 := Boxed.cell hF.b3
      have kb4 := Boxed.cell (Boxed.other hF.b4 (B' := w.heap.size + 1 + 1 + 1) (by omega) (.int .i64 0))
      have kf3 := Boxed.frozen hF.b3
      have kf4 := Boxed.frozen (Boxed.other hF.b4 (B' := w.heap.size + 1 + 1 + 1) (by omega) (.int .i64 0))
      gi_wp2
      refine leaves_marks w7.heap.size (fun Y => Fbx Y w.heap.size t key 0 false ∧ Below w.heap.size w Y) (fun Y D hY h1 h2 => ⟨hY.1.kept (n := w7.heap.size) (grownBy_putObj' Y D _) (fun k e => by cases e; exact ⟨h1, _, h2, rfl⟩), hY.2.trans (belowK_b (w := w) (Nat.le_refl _) Y D _ _ (by omega) h2 rfl rfl)⟩)
        (fun Y hY => ⟨_, cells2 rfl rfl rfl hY.1.b3 hY.1.b4, Or.inr ⟨HA.out, rfl⟩, hY.2⟩) _ _ _ (hm1.keep (fun k h1 _ => (Below.heap_setCell _ _ _ _ (by simp; omega)).trans (Below.heap_setCell _ _ _ _ (by simp; omega))))
        ⟨Fbx.set hF _ _, (hB.setCell (p := ⟨w.heap.size + 1 + 1 + 1, 0, none⟩) (by simp; omega) _).setCell (p := ⟨w.heap.size + 1 + 1 + 1 + 1, 0, none⟩) (by simp; omega) _⟩
    · gi_wp2
      refine leaves_marks w7.heap.size (fun Y => Fbx Y w.heap.size t key (i : Int) true ∧ Below w.heap.size w Y) (fun Y D hY h1 h2 => ⟨hY.1.kept (n := w7.heap.size) (grownBy_putObj' Y D _) (fun k e => by cases e; exact ⟨h1, _, h2, rfl⟩), hY.2.trans (belowK_b (w := w) (Nat.le_refl _) Y D _ _ (by omega) h2 rfl rfl)⟩)
        (fun Y hY => ⟨_, cells2 rfl rfl rfl hY.1.b3 hY.1.b4, Or.inl ⟨i, x, hx, hk, rfl⟩, hY.2⟩) _ _ _ hm1
        ⟨hF, hB⟩
end
end Go.Proofs.YtghbliabmecbcaaDoor

/-
  keep of layer 18's code. Conditions are each theorem's own.
-/
namespace Go.Proofs.YtghbliabmecbcaaDoor
open Go.RowKit Go.Shelf
attribute [local go_sem] Oper.semAt_some

theorem there_drew {w : World} {b o n : Nat} (h : w.there b o n) : w.drew.there b o n := h
theorem keepsH {D b : Nat} {X Y : World} {L : List (Option Ent)} (k : Kept (fun k => k = b) X Y) (h : ArrH X b L) : KeepsFrom D X Y := by
  refine ⟨k.size, fun i o _ hi hc => ?_⟩
  rw [k.block i (heap_lt hi) (fun e => ?_)]
  · exact hi
  · obtain ⟨cur, h1, _⟩ := h.obj
    rw [e, h1] at hi; cases hi; cases hc
theorem Kept.setCells (b : Nat) : ∀ (vs : List Value) (o : Nat) (w : World), Kept (fun k => k = b) w (w.setCells b o vs)
  | [], _, w => Kept.refl w
  | v :: vs, o, w => (Kept.setCell w b o v).trans (Kept.setCells b vs (o + 1) _) (fun _ _ h => h)
theorem keptR (b : Nat) (X : World) (p : Nat) (x : Ent) : Kept (fun k => k = b) X (X.drew.setCells b (p * 4) (clE (some x)).toArray.toList) :=
  (Kept.drew X).trans (Kept.setCells b _ _ _) (fun _ _ h => h)
section
variable {w V : World} {t b n : Nat} {cnt most : Int} {L : List (Option Ent)} {row : Option Nat}
theorem ArrH.kept (h : ArrH w b L) (hg : w.grownBy V row) (hr : ∀ k, row = some k → n ≤ k ∧ ∃ o : Obj, w.heap[k]? = some o ∧ o.isCells = false) : ArrH V b L := by
  refine h.keep (hg.block b h.lt (fun e => ?_))
  obtain ⟨cur, h1, _⟩ := h.obj
  obtain ⟨_, o, ho, hc⟩ := hr b e.symm
  rw [h1] at ho; cases ho; cases hc
theorem Hs.kept (h : Hs w t b cnt most L) (hg : w.grownBy V row) (hr : ∀ k, row = some k → n ≤ k ∧ ∃ o : Obj, w.heap[k]? = some o ∧ o.isCells = false) : Hs V t b cnt most L := by
  refine ⟨(hg.block t (heap_lt h.tab) (fun e => ?_)).trans h.tab, h.arr.kept hg hr⟩
  obtain ⟨_, o, ho, hc⟩ := hr t e.symm
  rw [h.tab] at ho; cases ho; cases hc
theorem Kept.turnH {S : Nat → Prop} {a : World} (h : Kept S a w) (hg : w.grownBy V row) (hr : ∀ k, row = some k → n ≤ k ∧ ∃ o : Obj, w.heap[k]? = some o ∧ o.isCells = false) (hn : a.heap.size ≤ n) : Kept S a V :=
  h.trans (Kept.of_grown hg) (fun i hi e => by have := (hr i e.symm).1; omega)
end
theorem Cel3.keptH {g1 g2 t b N fr c : Nat} {W V : World} (h : Cel3 g1 g2 t b N fr W) (k : Kept (fun k => k = c) W V) (h1 : g1 ≠ c) (h2 : g2 ≠ c) (h3 : t ≠ c) : Cel3 g1 g2 t b N fr V :=
  ⟨(World.cell?_of_block (k.block g1 (cell_block h.1) h1)).trans h.1, (World.cell?_of_block (k.block g2 (cell_block h.2.1) h2)).trans h.2.1, (World.cell?_of_block (k.block t (cell_block h.2.2) h3)).trans h.2.2⟩
/-- Two blocks of keep's own. -/
structure Kbx (W : World) (B t : Nat) (x : Ent) : Prop where
  b0 : Boxed W B 53 (.pointer (some ⟨t, 0, none⟩))
  b1 : W.heap[B + 1]? = some (.cells (clE (some x)).toArray 88 (0, 0))
section
variable {W V : World} {B t n : Nat} {x : Ent}
theorem Kbx.sz (h : Kbx W B t x) : B + 2 ≤ W.heap.size := by have := heap_lt h.b1; omega
theorem Kbx.below (h : Kbx W B t x) (hb : Below n W V) (hn : B + 1 < n) : Kbx V B t x := ⟨Boxed.below h.b0 hb (by omega), (hb.block _ hn).trans h.b1⟩
theorem Kbx.kept {row : Option Nat} (h : Kbx W B t x) (hg : W.grownBy V row) (hr : ∀ k, row = some k → n ≤ k ∧ ∃ o : Obj, W.heap[k]? = some o ∧ o.isCells = false) : Kbx V B t x := by
  refine ⟨box_keep h.b0 hg hr, (hg.block _ (heap_lt h.b1) (fun e => ?_)).trans h.b1⟩
  obtain ⟨_, o, ho, hc⟩ := hr _ e.symm
  rw [h.b1] at ho; cases ho; cases hc
theorem Kbx.new (w : World) (t : Nat) (x : Ent) (W : World) (hW : W = (w.alloc (.cells #[.pointer (some ⟨t, 0, none⟩)] 53)).alloc (.cells (clE (some x)).toArray 88)) : Kbx W w.heap.size t x ∧ Below w.heap.size w W := by
  have hB : Below w.heap.size w W := by rw [hW]; exact ((Below.refl w.heap.size w).alloc (Nat.le_refl _) _).alloc (by simp) _
  refine ⟨⟨?_, ?_⟩, hB⟩
  · rw [hW]; exact (Boxed.new w _ _).alloc _
  · rw [hW]
    have := World.alloc_heap_new (w.alloc (.cells #[.pointer (some ⟨t, 0, none⟩)] 53)) (.cells (clE (some x)).toArray 88)
    rwa [World.size_alloc] at this
end
/-- What keep leaves. -/
def KeepOut (w : World) (t b : Nat) (cnt most : Int) (L : List (Option Ent)) (x : Ent) (w' : World) : Prop :=
  ∃ r, r < L.length ∧ (∀ d, d < r → plH L (rnd L.length (hmN L.length x.key) d) ≠ none) ∧ plH L (rnd L.length (hmN L.length x.key) r) = none ∧ Hs w' t b cnt most (L.set (rnd L.length (hmN L.length x.key) r) (some x)) ∧ Kept (fun k => k = b) w w'
section
variable {w : World} {t b : Nat} {cnt most : Int} {L : List (Option Ent)}
set_option maxRecDepth 100000 in
set_option maxHeartbeats 4000000 in
theorem hskeep (h : Hs w t b cnt most L) (x : Ent) (hh : hmN L.length x.key < L.length) (hN : L.length ≤ 1000000) (hfree : ∃ i, i < L.length ∧ plH L i = none) :
    Calls Tryd.prog 42 #[.pointer (some ⟨t, 0, none⟩), .agg (clE (some x)).toArray] w fun e w' => e = .returned (.tuple #[]) ∧ KeepOut w t b cnt most L x w' := by
  have HH := Lib.hid h
  have HFR := Lib.hid hfree
  have hN0 : 0 < L.length := by omega
  have htl := heap_lt h.tab
  have hbl := h.arr.lt
  have htb := h.ne
  clear h hfree
  refine (callsIn_wide (n := 4)).1 ?_
  refine callsIn_of_wp_marks Tryd.func42 rfl trivial ?_ rfl
  simp only [Tryd.ntmps42, List.size_toArray, List.length_cons, List.length_nil, Nat.reduceAdd, Nat.reduceSub, Array.replicate_succ, Array.replicate_zero, List.push_toArray, List.append_toArray, List.nil_append, List.cons_append]
  gi_upto_region 1 with fail
  obtain ⟨W, hW⟩ : ∃ W, W = (w.alloc (.cells #[.pointer (some ⟨t, 0, none⟩)] 53)).alloc (.cells (clE (some x)).toArray 88) := ⟨_, rfl⟩
  obtain ⟨hF, hBW⟩ := Kbx.new w t x W hW
  rw [← hW]
  clear hW
  refine wpIn_mono (Q := noPanic _) ?_ noPanic_to
  refine regionI (S := fun V => Kbx V w.heap.size t x ∧ Below w.heap.size w V) (by kernel_rfl) ⟨hF.below (Below.refl W.heap.size W).drew (by have := hF.sz; omega), hBW.drew⟩ (fun hS => ?_)
  clear hF hBW
  refine pureI (i := 0) (oi := ⟨some 5, _, _, _, _, _⟩) rfl (by kernel_rfl) (by kernel_rfl) (by kernel_rfl) (fun _ _ _ h => h) (by rfl) (fun w hSw => run_load_hstp rfl rfl (Boxed.cell hSw.1.b0)) hS (fun hS => ?_)
  try go_frame
  refine pureI (i := 1) (oi := ⟨some 6, _, _, _, _, _⟩) rfl (by kernel_rfl) (by kernel_rfl) (by kernel_rfl) (fun _ _ _ h => h) (by rfl) (fun w hSw => run_load_hstp rfl rfl (Boxed.cell hSw.1.b0)) hS (fun hS => ?_)
  try go_frame
  refine pureI (i := 2) (oi := ⟨some 7, _, _, _, _, _⟩) rfl (by kernel_rfl) (by kernel_rfl) (by kernel_rfl) (fun _ _ _ h => h) (by rfl) (v := ?_) (fun w hSw => ?_) hS (fun hS => ?_)
  rotate_left
  · go_simp; try with_reducible rfl
  try go_frame
  refine pureI (i := 3) (oi := ⟨some 8, _, _, _, _, _⟩) rfl (by kernel_rfl) (by kernel_rfl) (by kernel_rfl) (fun _ _ _ h => h) (by rfl) (fun w hSw => run_load_u64 rfl rfl (cells_at (i := 1) hSw.1.b1 rfl)) hS (fun hS => ?_)
  try go_frame
  refine oneI (i := 4) (oi := ⟨some 9, _, _, _, _, _⟩) (by kernel_rfl) rfl (by rfl) (fun K hK => ?_)
  refine callI (f := 55) (args := #[.pointer (some ⟨t, 0, none⟩), .int .u64 (mkOf x.key)]) (by go_simp; try rfl) ?_
  refine (hshome t b L.length L.length x.key _ (hS.2.cell (p := ⟨t, 0, none⟩) htl |>.trans HH.out.c0) hN0 hN).mono ?_
  rintro e w6 ⟨rfl, rfl⟩
  refine ⟨_, rfl, hK _ _ hS (fun hS => ?_)⟩
  clear hK K
  try go_frame
  refine oneI (i := 5) (oi := ⟨some 10, _, _, _, _, _⟩) (by kernel_rfl) rfl (by rfl) (fun K hK => ?_)
  refine callI (f := 54) (args := #[.pointer (some ⟨t, 0, none⟩), .int .i64 ((hmN L.length x.key : Nat) : Int)]) (by go_simp; try rfl) ?_
  refine (hsplaces t (hmN L.length x.key) _).mono ?_
  rintro e w7 ⟨rfl, hw7⟩
  have hb7 := places_below hw7
  have hct := (hS.2.cell (p := ⟨t, 0, none⟩) htl).trans HH.out.c0
  have hsW := hS.1.sz
  refine ⟨_, rfl, hK _ _ ⟨hS.1.below hb7 (by have := hS.1.sz; omega), hS.2.trans (hb7.mono hS.2.size)⟩ (fun hS => ?_)⟩
  clear hK K
  try go_frame
  refine doneI (by kernel_rfl) ?_ _
  refine noPanic_normal ?_
  have hseq := places_seq _ _ t b L.length (hmN L.length x.key) hw7 hct hN (Nat.le_of_lt hh) (4 - 1)
  have hC7 := places_cel hw7 hct
  have hz7 : w7.heap.size = W.drew.heap.size + 2 := by rw [hw7]; simp
  clear hw7 hb7 hct
  generalize W.drew.heap.size = g1 at *
  gi_wp2
  refine range_safe (by omega) (gf := 63) (lb := #[.pointer (some ⟨g1, 0, none⟩), .pointer (some ⟨g1 + 1, 0, none⟩)]) rfl (enters_of Tryd.func63 (by kernel_rfl) rfl)
    hseq KeepC.trans (fun V l r r' hl hr => KeepC.loop hr) (Below.refl _ _) (fun _ => rfl)
    (fun pre x V l r r' h _ hl => h)
    (fun pre X => (∀ d, d < pre.length → plH L (rnd L.length (hmN L.length x.key) d) ≠ none) ∧ Cel3 g1 (g1 + 1) t b L.length (hmN L.length x.key) X ∧ Kbx X w.heap.size t x ∧ Below w.heap.size w X)
    (fun cd _ X => Cel3 g1 (g1 + 1) t b L.length (hmN L.length x.key) X ∧ cd = .ret ∧ KeepOut w t b cnt most L x X)
    (fun pre X Y r hs hg hr => ⟨hs.1, hs.2.1.kept hg hr, hs.2.2.1.kept hg hr, below_keep hs.2.2.2 hg hr (by omega) (Nat.le_refl _)⟩)
    (fun cd pre X Y r hs hg hr => by obtain ⟨h1, h2, q, h3, h4, h5, h6, h7⟩ := hs; exact ⟨h1.kept hg hr, h2, q, h3, h4, h5, h6.kept hg hr, h7.turnH hg hr (by omega)⟩)
    (fun cd pre X h => h.1)
    ⟨fun d hd => absurd hd (Nat.not_lt_zero _), hC7, hS.1, hS.2⟩
    (fun p => { tmps := #[.pointer (some ⟨t, 0, none⟩), .agg (clE (some x)).toArray, .pointer (some ⟨w.heap.size, 0, none⟩), .pointer (some ⟨w.heap.size + 1, 0, none⟩), .int .i64 (p : Int), .pointer (some ⟨t, 0, none⟩), .pointer (some ⟨t, 0, none⟩), .pointer (some ⟨w.heap.size + 1, 1, none⟩), .int .u64 (mkOf x.key), .int .i64 ((hmN L.length x.key : Nat) : Int), .func (.func 63) #[] #[.pointer (some ⟨g1, 0, none⟩), .pointer (some ⟨g1 + 1, 0, none⟩)], .int .i64 (p : Int), undef, undef, undef, undef, undef, undef, undef, undef, undef, undef, undef, undef, undef, undef, undef, undef], defers := [] }) ?assign ?body ?done ?stop
  case assign =>
    intro l p X K hK
    dsimp only [encP]
    gi_wp2
    exact hK
  case body =>
    rintro l pre p X ⟨hseen, hcel, hF, hB⟩ ⟨hx, hpl⟩
    have hpl' : p < L.length := by rw [hx]; exact rnd_lt hh hpl
    have hH := (HH.out.below hB).arr
    have hrow := hH.row p _ (plH_get hpl')
    have HX := Lib.hid hx
    have HSN := Lib.hid hseen
    have hHs := Lib.hid (HH.out.below hB)
    have hpn : pre.length < L.length := hpl
    clear hx hseen hpl
    have kb0 := Boxed.cell hF.b0
    have kt := hcel.2.2
    have hXs := hF.sz
    have hXz := hB.size
    cases hp : plH L p with
    | none =>
      rw [hp] at hrow
      have k0 : X.cell? ⟨b, p * 4, none⟩ = some (.bool false) := hrow 0 _ rfl
      have HPN := Lib.hid hp
      have KB0 : Hid (∀ V, Kept (fun k => k = b) X V → V.cell? ⟨w.heap.size, 0, none⟩ = some (.pointer (some ⟨t, 0, none⟩))) := Lib.hid fun V hV => (World.cell?_of_block (hV.block w.heap.size (by omega) (by omega))).trans kb0
      have KBT : Hid (∀ V, Kept (fun k => k = b) X V → V.cell? ⟨t, 0, none⟩ = some (.slice (some ⟨b, 0, none⟩) L.length L.length)) := Lib.hid fun V hV => (World.cell?_of_block (hV.block t (by omega) htb)).trans kt
      have KBX : Hid (∀ V, Kept (fun k => k = b) X V → V.rangeAt (w.heap.size + 1) 0 (clE (some x))) := Lib.hid fun V hV => range_heap ((hV.block (w.heap.size + 1) (by omega) (by omega)).trans hF.b1)
      clear hrow hp
      gi_upto_region 4 with fail
      refine region_roundH (S := Kept (fun k => k = b) X) (by kernel_rfl) (by kernel_rfl) (fun h => by obtain ⟨_, _, h⟩ := h; exact h) (Kept.drew X) (fun hS => ?_)
      refine held_pure (i := 0) (oi := ⟨some 21, _, _, _, _, _⟩) rfl (by kernel_rfl) (by kernel_rfl) (by kernel_rfl) (fun _ _ _ h => h) (by rfl) (fun w hSw => run_load_hstp rfl rfl (KB0.out _ hSw)) hS (fun hS => ?_)
      try go_frame
      refine held_pure (i := 1) (oi := ⟨some 22, _, _, _, _, _⟩) rfl (by kernel_rfl) (by kernel_rfl) (by kernel_rfl) (fun _ _ _ h => h) (by rfl) (v := ?_) (fun w hSw => ?_) hS (fun hS => ?_)
      rotate_left
      · go_simp; try with_reducible rfl
      try go_frame
      refine held_pure (i := 2) (oi := ⟨some 23, _, _, _, _, _⟩) rfl (by kernel_rfl) (by kernel_rfl) (by kernel_rfl) (fun _ _ _ h => h) (by rfl) (v := ?_) (fun w hSw => ?_) hS (fun hS => ?_)
      rotate_left
      · go_simp; try with_reducible rfl
      try go_frame
      refine held_pure (i := 3) (oi := ⟨some 24, _, _, _, _, _⟩) rfl (by kernel_rfl) (by kernel_rfl) (by kernel_rfl) (fun _ _ _ h => h) (by rfl) (fun w hSw => run_load_hsar rfl rfl (KBT.out _ hSw)) hS (fun hS => ?_)
      try go_frame
      refine held_pure (i := 4) (oi := ⟨some 25, _, _, _, _, _⟩) rfl (by kernel_rfl) (by kernel_rfl) (by kernel_rfl) (fun _ _ _ h => h) (by rfl) (v := ?_) (fun w hSw => ?_) hS (fun hS => ?_)
      rotate_left
      · go_simp; try with_reducible rfl
      try go_frame
      refine held_pure (i := 5) (oi := ⟨some 26, _, _, _, _, _⟩) rfl (by kernel_rfl) (by kernel_rfl) (by kernel_rfl) (fun _ _ _ h => h) (by rfl) (fun w hSw => run_load_hsp rfl rfl (KBX.out _ hSw) rfl) hS (fun hS => ?_)
      try go_frame
      refine held_pure (i := 6) (oi := ⟨some 27, _, _, _, _, _⟩) rfl (by kernel_rfl) (by kernel_rfl) (by kernel_rfl) (fun _ _ _ h => h) (by rfl) (v := ?_) (fun w hSw => ?_) hS (fun hS => ?_)
      rotate_left
      · go_simp; try with_reducible rfl
      try go_frame
      refine wpAnyH_ready (rs := [7]) (by kernel_rfl) (by simp) (AllReadyH.cons (o := ⟨none, _, _, _, _, _⟩) rfl (fun K hK => ?_) AllReadyH.nil)
      rw [if_pos (by rfl)]
      refine wp_store_mid 88 _ _ rfl b (p * 4) (clE (some x)).toArray rfl rfl (there_drew (hH.there hpl')) (by kernel_rfl) (clE_one _) ?_
      refine hK.out _ _ (keptR b X p x) (fun hS => ?_)
      clear hK K
      try go_frame
      refine wpAnyH_done (by kernel_rfl) ?_ _
      gi_wp2
      have hk := keptR b X p x
      have hpr : p = rnd L.length (hmN L.length x.key) pre.length := HX.out
      refine ⟨keepsH hk hH, hcel.keptH hk (by omega) (by omega) htb, rfl, pre.length, hpn, HSN.out, hpr ▸ HPN.out, ⟨?_, ?_⟩, (Kept.of_below (hB.mono (Nat.le_refl _))).trans hk (fun _ _ h => h)⟩
      · rw [List.length_set]; exact (hk.block t (by omega) htb).trans (hHs.out.tab)
      · have := (hH.keep (w' := X.drew) rfl).set hpl' (some x)
        rw [← hpr]; exact this
    | some y =>
      rw [hp] at hrow
      have k0 : X.cell? ⟨b, p * 4, none⟩ = some (.bool true) := hrow 0 _ rfl
      have hsn : ∀ d, d < (pre ++ [p]).length → plH L (rnd L.length (hmN L.length x.key) d) ≠ none := fun d hd => by
        rw [List.length_append] at hd
        rcases Nat.lt_or_ge d pre.length with h | h
        · exact HSN.out d h
        · have hde : d = pre.length := by simp at hd; omega
          rw [hde, ← HX.out, hp]; simp
      have HS2 := Lib.hid hsn
      clear hrow hp hsn
      gi_wp2
      exact ⟨(KeepsOthers.refl _).from _, KeepC.refl _ _, HS2.out, hcel, hF, hB⟩
  case done =>
    rintro D xs X hD hS ⟨hseen, hcel, hF, hB⟩ hK
    rw [hS, List.length_map, List.length_range] at hseen
    obtain ⟨i, hi, h0⟩ := HFR.out
    exact absurd h0 (all_taken hh hseen i hi)
  case stop =>
    rintro D cd pre X hD _ ⟨hcel, rfl, hOut⟩ hK
    have hm1 : Marks w7.heap.size X.heap.size [{ target := .collected D, args := #[] }] X := (Marks.push (hi := D) (ds := []) trivial (Nat.le_refl _) hD hK).more (heap_lt hK)
    gi_wp2
    have hOut' := hOut
    refine leaves_marks w7.heap.size (fun Y => KeepOut w t b cnt most L x Y) (fun Y D hY h1 h2 => by obtain ⟨q, h3, h4, h5, h6, h7⟩ := hY; exact ⟨q, h3, h4, h5, h6.kept (n := w7.heap.size) (grownBy_putObj' Y D _) (fun k e => by cases e; exact ⟨h1, _, h2, rfl⟩), h7.turnH (n := w7.heap.size) (grownBy_putObj' Y D _) (fun k e => by cases e; exact ⟨h1, _, h2, rfl⟩) (by omega)⟩)
      (fun Y hY => ⟨_, results_none rfl _ _ _, rfl, hY⟩) _ _ X hm1 hOut
end
end Go.Proofs.YtghbliabmecbcaaDoor

/-
  grow of layer 18's code. Conditions are each theorem's own.
-/
namespace Go.Proofs.YtghbliabmecbcaaDoor
open Go.RowKit Go.Shelf

theorem hsp_store_new {ops : Array Oper} {rest : List Oper} {x y : Operand} {ty : TypeId} {pos : String} {af : Array Edge} {a : Act} {w : World} {Q : Exit → Act → World → Prop}
    {t : TypeId} {cs old : Array Value} (hx : a.eval x = .pointer (some ⟨w.heap.size, 0, none⟩)) (hy : a.eval y = .agg cs) (ho : old.size = 4) (hl : cs.size = 4) (h1 : cs.all (·.oneCell') = true)
    (h : wpList Tryd.prog ops Q rest (a.put none undef) (w.alloc (.cells cs t))) : wpList Tryd.prog ops Q (⟨none, .store 88 x y, ty, pos, af, none⟩ :: rest) a (w.alloc (.cells old t)) :=
  wpList_plain rfl fun _ hK => wp_store_row 88 x y rfl w.heap.size cs hx hy t old (World.alloc_heap_new w _) (by rw [hl]; kernel_rfl) (by rw [ho, hl]) h1 (by rw [World.setRow_alloc_new]; exact hK _ _ h)
theorem ents_app (A B : List (Option Ent)) : ents (A ++ B) = ents A ++ ents B := by simp [ents]
theorem take_none {L : List (Option Ent)} {k : Nat} (hk : k < L.length) (h : plH L k = none) : ents (L.take (k + 1)) = ents (L.take k) := by
  have h1 := plH_get hk
  rw [List.take_add_one, ents_app, h1, h]; simp [ents]
theorem take_some {L : List (Option Ent)} {k : Nat} {x : Ent} (hk : k < L.length) (h : plH L k = some x) : ents (L.take (k + 1)) = ents (L.take k) ++ [x] := by
  have h1 := plH_get hk
  rw [List.take_add_one, ents_app, h1, h]; simp [ents]
theorem plH_take {L : List (Option Ent)} {k i : Nat} {e : Ent} (h : plH (L.take k) i = some e) : i < k ∧ plH L i = some e := by
  have h1 := plH_lt h
  rw [List.length_take] at h1
  refine ⟨by omega, ?_⟩
  unfold plH at h ⊢
  rwa [List.getElem?_take, if_pos (by omega)] at h
/-- What grow leaves. -/
def GrowOut (w : World) (t : Nat) (cnt most : Int) (L : List (Option Ent)) (w' : World) : Prop :=
  ∃ b' L', Hs w' t b' cnt most L' ∧ L'.length = 2 * L.length ∧ Prb (hmN L'.length) L' ∧ (ents L').Perm (ents L) ∧ Kept (fun k => k = t) w w' ∧ w.heap.size ≤ b'
theorem hm_pos {N : Nat} (h : 0 < N) (k : List UInt8) : hmN N k < N := Nat.mod_lt _ h
section
variable {w : World} {t b : Nat} {cnt most : Int} {L : List (Option Ent)}
set_option maxRecDepth 100000 in
set_option maxHeartbeats 2000000 in
theorem hsgrow (h : Hs w t b cnt most L) (hP : Prb (hmN L.length) L) (hN : L.length ≤ 400000) :
    Calls Tryd.prog 41 #[.pointer (some ⟨t, 0, none⟩)] w fun e w' => e = .returned (.tuple #[]) ∧ GrowOut w t cnt most L w' := by
  have HH := Lib.hid h
  have HP := Lib.hid hP
  have kt := h.c0
  have htl := heap_lt h.tab
  have hbl := h.arr.lt
  have htb := h.ne
  have hN0 : 0 < L.length := by have := hP.home []; omega
  obtain ⟨N, hNe⟩ : ∃ N, N = L.length := ⟨_, rfl⟩
  rw [← hNe] at kt hN hN0
  have HNE := Lib.hid hNe
  have hmk : ∀ w, (Instr.makeSlice 81 (.int .i64 (2 * (N : Int))) (.int .i64 (2 * (N : Int)))).run Tryd.prog w = .ok (.slice (some ⟨w.heap.size, 0, none⟩) (2 * N) (2 * N)) (w.alloc (.cells ((List.replicate (2 * N) (none : Option Ent)).flatMap clE).toArray 88)) := fun w => by
    have := run_mk_places (2 * N) w (by omega)
    rwa [show ((2 * N : Nat) : Int) = 2 * (N : Int) from by omega] at this
  obtain ⟨R2, hR2⟩ : ∃ R, R = ((List.replicate (2 * N) (none : Option Ent)).flatMap clE).toArray := ⟨_, rfl⟩
  rw [← hR2] at hmk
  have HR2 := Lib.hid hR2
  have ktW : (w.alloc (.cells R2 88)).cell? ⟨t, 0, none⟩ = some (.slice (some ⟨b, 0, none⟩) N N) := (World.cell?_alloc_lt w _ _ htl).trans kt
  have kfW : (w.alloc (.cells R2 88)).frozen? ⟨t, 0, none⟩ = false := heap_frozen ((Below.heap_alloc w _ t htl).trans h.tab) 0
  obtain ⟨W1, hW1⟩ : ∃ W, W = w.setCell ⟨t, 0, none⟩ (.slice (some ⟨w.heap.size, 0, none⟩) (2 * N) (2 * N)) := ⟨_, rfl⟩
  have hz1 : W1.heap.size = w.heap.size := by rw [hW1]; simp
  have htab1 : W1.heap[t]? = some (.cells #[.slice (some ⟨w.heap.size, 0, none⟩) (2 * N) (2 * N), .int .i64 cnt, .int .i64 most] 83 (0, 0)) := by rw [hW1]; exact heap_setCell_same _ t 0 _ _ _ h.tab
  have hA1 : ArrH W1 b L := by rw [hW1]; exact h.arr.keep (heap_setCell_other w ⟨t, 0, none⟩ _ _ (by simpa using fun e => htb e.symm))
  have K0 : Kept (fun k => k = t) w W1 := by rw [hW1]; exact Kept.setCell w t 0 _
  obtain ⟨W2, hW2⟩ : ∃ W, W = W1.alloc (.cells R2 88) := ⟨_, rfl⟩
  have b12 : Below W1.heap.size W1 W2 := by rw [hW2]; exact (Below.refl _ _).alloc (Nat.le_refl _) _
  have hArW : ArrH W2 w.heap.size (List.replicate (2 * N) none) := by rw [hW2, hR2, ← hz1]; exact ArrH.new W1 _
  have hb2 : Hs W2 t w.heap.size cnt most (List.replicate (2 * N) none) := ⟨by rw [List.length_replicate]; exact (b12.block t (by omega)).trans htab1, hArW⟩
  have hA2 : ArrH W2 b L := hA1.keep (b12.block b (by omega))
  have K1 : Kept (fun k => k = t) w W2 := K0.then_below b12
  rw [hW1] at hW2
  have HW := Lib.hid hW2
  clear h hP hNe hR2 hW1 htab1 hA1 K0 b12 hArW hz1 hW2
  go_enter Tryd.func41, Tryd.ntmps41
  go_wp2
  rw [← HW.out]
  clear kfW ktW hmk HW
  obtain ⟨b2, hb2e⟩ : ∃ x, x = w.heap.size := ⟨_, rfl⟩
  have HB2 := Lib.hid hb2e
  have hbb2 : b < b2 := by omega
  have htb2 : t < b2 := by omega
  rw [← hb2e] at hb2
  clear hb2e
  go_loopw [18] (fun i wr => ∃ (k : Nat) (L2 : List (Option Ent)), k ≤ N ∧ i = .int .i64 (k : Int) ∧ Hid (Hs wr t b2 cnt most L2 ∧ L2.length = 2 * N ∧ Prb (hmN (2 * N)) L2 ∧ (ents L2).Perm (ents (L.take k)) ∧ ArrH wr b L ∧ Kept (fun k => k = t) w wr))
    (fun i _ => N - (intOf i).toNat)
  case atStart =>
    refine ⟨0, List.replicate (2 * N) none, Nat.zero_le _, rfl, Lib.hid ⟨hb2, List.length_replicate .., prb_new _ _ (fun k => hm_pos (by omega) k), ?_, hA2, K1⟩⟩
    rw [ents_rep]; exact List.Perm.refl _
  case round =>
    clear hb2 hA2 K1
    obtain ⟨k, L2, hk, rfl, HI⟩ := hrel
    by_cases hlt : k < N
    · have hkl : k < L.length := by rw [← HNE.out]; exact hlt
      have hrow := HI.out.2.2.2.2.1.row k _ (plH_get hkl)
      obtain ⟨V, hV⟩ : ∃ V, V = wr.alloc (.cells (clE (plH L k)).toArray 88) := ⟨_, rfl⟩
      have HV := Lib.hid hV
      have bV : Below wr.heap.size wr V := by rw [hV]; exact (Below.refl _ wr).alloc (Nat.le_refl _) _
      have hbV : V.heap[wr.heap.size]? = some (.cells (clE (plH L k)).toArray 88 (0, 0)) := by rw [hV]; exact World.alloc_heap_new wr _
      clear hV
      cases hp : plH L k with
      | none =>
        rw [hp] at hrow hbV HV
        have kx0 : V.cell? ⟨wr.heap.size, 0, none⟩ = some (.bool false) := cells_at (i := 0) hbV rfl
        have HP0 := Lib.hid hp
        clear hp
        go_wp2_with (first
          | ((with_reducible show wpList _ _ _ (Oper.mk _ (Op.load 88 _) _ _ _ _ :: _) _ _); refine wpList_val rfl (run_load_hsp rfl rfl hrow rfl) ?_)
          | ((with_reducible show wpList _ _ _ (Oper.mk _ (Op.store 88 _ _) _ _ _ _ :: _) _ _); refine hsp_store_new (cs := (clE none).toArray) rfl rfl rfl rfl (clE_one _) ?_; rw [← HV.out]))
        go_roundw
        case rel =>
          obtain ⟨i1, i2, i3, i4, i5, i6⟩ := HI.out
          refine ⟨k + 1, L2, by omega, by simp, Lib.hid ⟨i1.below bV, i2, i3, ?_, i5.keep (bV.block b i5.lt), i6.then_below bV⟩⟩
          rw [take_none hkl HP0.out]; exact i4
        case measure => simp [intOf]; omega
      | some x =>
        rw [hp] at hrow hbV HV
        have kx0 : V.cell? ⟨wr.heap.size, 0, none⟩ = some (.bool true) := cells_at (i := 0) hbV rfl
        have HP0 := Lib.hid hp
        have hrV : V.rangeAt wr.heap.size 0 (clE (some x)) := range_heap hbV
        clear hp
        have hkeep : Hid (Calls Tryd.prog 42 #[.pointer (some ⟨t, 0, none⟩), .agg (clE (some x)).toArray] V fun e w' => e = .returned (.tuple #[]) ∧ KeepOut V t b2 cnt most L2 x w') := Lib.hid (by
          obtain ⟨i1, i2, i3, i4, i5, i6⟩ := HI.out
          refine hskeep (i1.below bV) x (by rw [i2]; exact hm_pos (by omega) _) (by rw [i2]; omega) (free_of_lt ?_)
          rw [i4.length_eq, i2]
          have := ents_len (L.take k)
          rw [List.length_take] at this
          omega)
        go_wp2_with (first
          | ((with_reducible show wpList _ _ _ (Oper.mk _ (Op.load 88 _) _ _ _ _ :: _) _ _); refine wpList_val rfl (run_load_hsp rfl rfl hrV rfl) ?_)
          | ((with_reducible show wpList _ _ _ (Oper.mk _ (Op.load 88 _) _ _ _ _ :: _) _ _); refine wpList_val rfl (run_load_hsp rfl rfl hrow rfl) ?_)
          | ((with_reducible show wpList _ _ _ (Oper.mk _ (Op.store 88 _ _) _ _ _ _ :: _) _ _); refine hsp_store_new (cs := (clE (some x)).toArray) rfl rfl rfl rfl (clE_one _) ?_; rw [← HV.out])
          | (go_at_call 42; refine hkeep.out.mono ?_; rintro e w3 ⟨rfl, r, r1, r2, r3, r4, r5⟩; have HR := Lib.hid (show _ ∧ _ ∧ _ ∧ _ ∧ _ from ⟨r1, r2, r3, r4, r5⟩); clear r1 r2 r3 r4 r5))
        go_roundw
        case rel =>
          obtain ⟨i1, i2, i3, i4, i5, i6⟩ := HI.out
          obtain ⟨r1, r2, r3, r4, r5⟩ := HR.out
          refine ⟨k + 1, _, by omega, by simp, Lib.hid ⟨r4, by rw [List.length_set]; exact i2, ?_, ?_, (i5.keep (bV.block b i5.lt)).keep (r5.block b (by have := i5.lt; have := bV.size; omega) (by omega)), (i6.then_below bV).trans r5 (fun i hi e => by have := HB2.out; omega)⟩⟩
          · rw [← i2]
            rw [← i2] at i3
            refine i3.put (fun i e he hke => ?_) r1 r2
            have h1 := i4.mem_iff.1 (mem_ents.2 ⟨i, he⟩)
            obtain ⟨j, hj⟩ := mem_ents.1 h1
            obtain ⟨hjk, hj2⟩ := plH_take hj
            have := HP.out.uniq j k e x hj2 HP0.out hke
            omega
          · have h1 := ents_put (e := x) (rnd_lt (by rw [i2]; exact hm_pos (by omega) _) r1) r3
            rw [take_some hkl HP0.out]
            exact (h1.trans (i4.cons x)).trans (by simpa using (List.perm_append_comm (l₁ := [x]) (l₂ := ents (L.take k))))
        case measure => simp [intOf]; omega
    · obtain rfl : N = k := by omega
      go_wp2
      obtain ⟨i1, i2, i3, i4, i5, i6⟩ := HI.out
      have hN2 := HNE.out
      refine bodyPost_end (results_none rfl _ _ _) rfl ⟨rfl, b2, L2, i1, by rw [i2, hN2], by rw [i2]; exact i3, ?_, i6, by have := HB2.out; omega⟩
      rwa [List.take_of_length_le (by omega)] at i4
end
end Go.Proofs.YtghbliabmecbcaaDoor
