/-
  Contracts and lemmas on which the proofs of this seat stand (several texts in one). Conditions are each theorem's own.
-/
import Derived.Test.YtpoigngpdcmipaaNc5
import Derived.Maps.OwnSet
import Derived.Maps.OwnOps
import Derived.Maps.Ext
import Derived.Test.YtpoigngpdcmipaaNc2

/-
  What the code of layer 16 keeps: a table, its map of pointers, its buffers. Conditions are each theorem's own.
-/
namespace Go.Proofs.Ytpoigngpdcmipaa
open Go.RowKit Go.Shelf Go.Maps

/-- How a pointer in a map reads: as its block's number. -/
def ptrElem : Value → Option (DataW Unit × List MemPlace)
  | .pointer none => some (.lit (.int .i64 (-1)), [])
  | .pointer (some ⟨g, 0, none⟩) => some (.lit (.int .i64 (g : Int)), [])
  | _ => none
theorem ptr_inv {v : Value} {g : Nat} {ps : List MemPlace} (h : ptrElem v = some (.lit (.int .i64 (g : Int)), ps)) : v = .pointer (some ⟨g, 0, none⟩) := by
  unfold ptrElem at h
  split at h
  · simp only [Option.some.injEq, Prod.mk.injEq, DataW.lit.injEq, Lit.int.injEq] at h; omega
  · rename_i g'
    simp only [Option.some.injEq, Prod.mk.injEq, DataW.lit.injEq, Lit.int.injEq] at h
    have : g' = g := by omega
    rw [this]
  · cases h
theorem ptr_none {v : Value} {ps : List MemPlace} (h : ptrElem v = some (.lit (.int .i64 (-1)), ps)) : v = .pointer none := by
  unfold ptrElem at h
  split at h
  · rfl
  · simp only [Option.some.injEq, Prod.mk.injEq, DataW.lit.injEq, Lit.int.injEq] at h; omega
  · cases h
theorem klaw : Keyed Try.prog 9 := string_keyed Try.underlying9
def sq (k : List UInt8) : Value := .string (strB k)
theorem kkey (k : List UInt8) (h : k.length ≤ maxLen) : keyOf Try.prog 9 (sq k) = some (.string k) := by
  have h1 : (strB k).size ≤ maxLen := by rw [strB_size]; exact h
  have h2 : (strB k).data.toList = k := by simp [strB]
  have h3 := Go.WideMaps.keyOf_string_mk (P := Try.prog) Try.underlying9 h1
  rw [h2] at h3
  exact h3

/-- An entry of the map: a key and a buffer's block. -/
def enM (p : List UInt8 × Nat) : Lit × DataW Unit := (.string p.1, .lit (.int .i64 (p.2 : Int)))
theorem same_str (a b : List UInt8) : (Lit.string a).sameKey (.string b) = decide (a = b) := by
  show (a == b) = decide (a = b)
  by_cases h : a = b
  · subst h; simp
  · rw [decide_eq_false h]; exact beq_false_of_ne h
theorem pw_eq : ∀ {l : List (List UInt8 × Nat)}, l.Pairwise (fun a b => a.1 ≠ b.1) → ∀ {a b}, a ∈ l → b ∈ l → a.1 = b.1 → a = b
  | [], _, _, _, ha, _, _ => by cases ha
  | x :: l, h, a, b, ha, hb, e => by
    obtain ⟨h1, h2⟩ := List.pairwise_cons.1 h
    rcases List.mem_cons.1 ha with rfl | ha'
    · rcases List.mem_cons.1 hb with rfl | hb'
      · rfl
      · exact absurd e (h1 b hb')
    · rcases List.mem_cons.1 hb with rfl | hb'
      · exact absurd e.symm (h1 a ha')
      · exact pw_eq h2 ha' hb' e
section
variable {es : List (Lit × DataW Unit)} {M : List (List UInt8 × Nat)}
theorem en_has (hp : es.Perm (M.map enM)) (k : List UInt8) : Maps.has (.map es) (.string k) = M.any (fun p => decide (p.1 = k)) := by
  rw [Maps.has_eq, hp.any_eq, List.any_map]
  congr 1
  funext p
  exact same_str p.1 k
theorem en_none (hp : es.Perm (M.map enM)) {k : List UInt8} (h : ∀ p ∈ M, p.1 ≠ k) (z : DataW Unit) : (DataW.map es).atKey (.string k) z = z := by
  refine Maps.atKey_of_not_has ?_ z
  rw [en_has hp, List.any_eq_false]
  intro p hp'
  simpa using h p hp'
theorem en_at (hp : es.Perm (M.map enM)) (nd : M.Pairwise (fun a b => a.1 ≠ b.1)) {p : List UInt8 × Nat} (hm : p ∈ M) (z : DataW Unit) : (DataW.map es).atKey (.string p.1) z = .lit (.int .i64 (p.2 : Int)) := by
  unfold DataW.atKey
  simp only
  cases hf : es.find? (fun q => q.1.sameKey (.string p.1)) with
  | none =>
    have h1 := List.find?_eq_none.1 hf (enM p) (hp.mem_iff.2 (List.mem_map.2 ⟨p, hm, rfl⟩))
    exfalso
    apply h1
    show (Lit.string p.1).sameKey (.string p.1) = true
    rw [same_str]; simp
  | some q =>
    have h1 := List.mem_of_find?_eq_some hf
    have h2 := List.find?_some hf
    obtain ⟨p', hm', rfl⟩ := List.mem_map.1 (hp.mem_iff.1 h1)
    have h3 : p'.1 = p.1 := by
      have h4 : (Lit.string p'.1).sameKey (.string p.1) = true := h2
      rw [same_str] at h4
      exact of_decide_eq_true h4
    have h5 : p' = p := pw_eq nd hm' hm h3
    subst h5
    rfl
theorem notkey_str (p : List UInt8 × Nat) (k : List UInt8) : (!(enM p).1.sameKey (.string k)) = decide (p.1 ≠ k) := by
  show (!(Lit.string p.1).sameKey (.string k)) = _
  rw [same_str]
  by_cases h : p.1 = k
  · simp [h]
  · simp [h]
theorem en_del (hp : es.Perm (M.map enM)) (k : List UInt8) : ∃ es', (DataW.map es).del (.string k) = .map es' ∧ es'.Perm ((M.filter (fun p => decide (p.1 ≠ k))).map enM) := by
  refine ⟨_, rfl, ?_⟩
  refine (hp.filter _).trans ?_
  rw [List.filter_map]
  have e : ((fun p : Lit × DataW Unit => !p.1.sameKey (.string k)) ∘ enM) = fun p => decide (p.1 ≠ k) := funext fun p => notkey_str p k
  rw [e]
theorem en_put (hp : es.Perm (M.map enM)) (p : List UInt8 × Nat) : ∃ es', (DataW.map es).put (.string p.1) (.lit (.int .i64 (p.2 : Int))) = .map es' ∧ es'.Perm ((p :: M.filter (fun x => decide (x.1 ≠ p.1))).map enM) := by
  refine ⟨_, rfl, (WideShapes.insert_perm _ _).trans ?_⟩
  rw [List.map_cons]
  refine List.Perm.cons _ ?_
  refine (hp.filter _).trans ?_
  rw [List.filter_map]
  have e : ((fun p' : Lit × DataW Unit => !p'.1.sameKey (.string p.1)) ∘ enM) = fun x => decide (x.1 ≠ p.1) := funext fun x => notkey_str x p.1
  rw [e]
theorem en_size (hp : es.Perm (M.map enM)) : Maps.size (.map es) = M.length := by
  rw [Maps.size_eq, hp.length_eq, List.length_map]
end

/-- A buffer, and where it lies. -/
structure Bu where
  key : List UInt8
  g : Nat
  h : Nat
  A : Option Addr
  c : Nat
  L : List XP
  began : Int
  head : List UInt8
  headed : Bool
def Bu.v (s : Bu) : Value := .slice s.A s.L.length s.c
def Bu.kg (s : Bu) : List UInt8 × Nat := (s.key, s.g)
def Bu.by (s : Bu) : Int := bytesP (piE s.L)
def ApB (a b : Bu) : Prop := a.g ≠ b.g ∧ a.h ≠ b.h ∧ Apart2 a.v b.v
theorem ApB.symm {a b : Bu} (h : ApB a b) : ApB b a := ⟨h.1.symm, h.2.1.symm, h.2.2.symm⟩
theorem own_map_below {w w' : World} {b n : Nat} {D : DataW Unit} {k : TypeId} {R : Value → Option (DataW Unit × List MemPlace)} (h : w.ownsMap Try.prog k R b n D) (hb : Below w.heap.size w w') : w'.ownsMap Try.prog k R b n D := by
  have hlt := h.lt
  obtain ⟨es, clock, h1, F, hs, hD⟩ := h
  exact ⟨es, clock, (hb.block b hlt).trans h1, F, hs, hD⟩
section
variable {w w' : World} {t bm : Nat} {tot mb my wt : Int} {M : List (List UInt8 × Nat)} {S : List Bu}
end
/-- Blocks that are no cells but of these types. -/
def AwayT (w : World) (S : Nat → Prop) (T : TypeId → Prop) : Prop := ∀ k, S k → ∀ cs ty fr, w.heap[k]? = some (.cells cs ty fr) → T ty
theorem own_keptA {S : Nat → Prop} {T : TypeId → Prop} {w w' : World} {b e s n : Nat} {v : Value} {xs : List Value} (h : w.ownsRow b e s v n xs) (k : Kept S w w') (hS : AwayT w S T) (hT : ¬ T e) : w'.ownsRow b e s v n xs :=
  own_keptT h k (fun g hs cs fr hg => hT (hS g hs cs e fr hg))
theorem map_is {w : World} {b n : Nat} {D : DataW Unit} {k : TypeId} {R : Value → Option (DataW Unit × List MemPlace)} (h : w.ownsMap Try.prog k R b n D) {cs : Array Value} {ty : TypeId} {fr : Nat × Nat} : w.heap[b]? ≠ some (.cells cs ty fr) := by
  obtain ⟨es, clock, h1, _⟩ := h
  intro h2
  rw [h1] at h2
  cases h2
theorem own_map_kept {S : Nat → Prop} {w w' : World} {b n : Nat} {D : DataW Unit} {k : TypeId} {R : Value → Option (DataW Unit × List MemPlace)} (h : w.ownsMap Try.prog k R b n D) (hk : Kept S w w') (hs : ¬ S b) : w'.ownsMap Try.prog k R b n D := by
  have hlt := h.lt
  obtain ⟨es, clock, h1, F, hs', hD⟩ := h
  exact ⟨es, clock, (hk.block b hlt hs).trans h1, F, hs', hD⟩
section
variable {w w' : World} {t bm : Nat} {tot mb my wt : Int} {M : List (List UInt8 × Nat)} {S : List Bu}
end
end Go.Proofs.Ytpoigngpdcmipaa

/-
  The struct net.Item as data: its cells, its value, a block that holds one. Conditions are each theorem's own.
-/
namespace Go.Proofs.Ytpoigngpdcmipaa
open Go.RowKit Go.ChangeShapes Go.WideShapes

structure PI34 where
  n : Int
  up : Bool
  b : List UInt8
def nisz : PI34 := ⟨0, false, []⟩
/-- Its cells. -/
def nisa (q : PI34) (A : Option Addr) (c : Nat) : Array Value := #[.int .i64 q.n, .bool q.up, .slice A q.b.length c]
def nisv (q : PI34) (A : Option Addr) (c : Nat) : Value := .agg #[.int .i64 q.n, .bool q.up, .slice A q.b.length c]
theorem nisv_eq (q : PI34) (A : Option Addr) (c : Nat) : nisv q A c = .agg (nisa q A c) := rfl
def PI34.fits (q : PI34) : Prop := ∀ n ∈ [q.n], (Lit.int .i64 n).wf = true
theorem nisa_size (q : PI34) (A : Option Addr) (c : Nat) : (nisa q A c).size = 3 := rfl
theorem nis_one (q : PI34) (A : Option Addr) (c : Nat) : (nisa q A c).all (·.oneCell') = true := by simp [nisa, Value.oneCell']
section
variable {H : Type} {enc : TypeId × Value → H} {w : World} {base : Nat} {v : Value} {d : DataW H} {p : List MemPlace}
set_option maxRecDepth 100000 in
theorem get_nis (hv : Value.okWide Try.prog w .any base 33 v) (h : DataW.Trod enc Try.prog w 0 (fun _ => true) true 33 v d p) :
    ∃ q A c, v = nisv q A c ∧ Arg w w.heap.size A c q.b ∧ c ≤ maxLen ∧ q.fits := by
  obtain ⟨cs, rfl, hcs⟩ : ∃ cs, v = .agg cs ∧ cs.size = Try.prog.cellsOf 33 := by
    have := hv
    simp only [Value.okWide, Try.underlying33] at this
    obtain ⟨cs, h1, h2, _⟩ := this
    exact ⟨cs, h1, h2⟩
  obtain ⟨fuel, hf⟩ := h
  obtain ⟨xs, n, _, _, hl, hxs, hall⟩ := DataW.trod_struct Try.underlying33 hf
  have hci : Try.prog.cellsOf 3 = 1 := by kernel_rfl
  have hcb : Try.prog.cellsOf 4 = 1 := by kernel_rfl
  have hcy : Try.prog.cellsOf 31 = 1 := by kernel_rfl
  have hcu : Try.prog.cellsOf 5 = 1 := by kernel_rfl
  have hcn : Try.prog.cellsOf 33 = 3 := by kernel_rfl
  obtain ⟨l⟩ := cs
  have hl' : l.length = 3 := by rw [← hcn]; exact hl
  have hall' : ∀ (i : Nat) (f : Field), _ → DataW.trod enc Try.prog w 0 (fun _ => true) true n f.type ((l.drop f.offset).take (Try.prog.cellsOf f.type)) = xs[i]? := hall
  match xs, hxs with
  | [y0, y1, y2], _ =>
    have h0 : DataW.trod enc Try.prog w 0 (fun _ => true) true n 3 ((l.drop 0).take (Try.prog.cellsOf 3)) = some y0 := hall' 0 _ rfl
    rw [hci] at h0
    obtain ⟨a0, e0, f0⟩ := cell_int Try.underlying3 h0
    have h1 : DataW.trod enc Try.prog w 0 (fun _ => true) true n 4 ((l.drop 1).take (Try.prog.cellsOf 4)) = some y1 := hall' 1 _ rfl
    rw [hcb] at h1
    obtain ⟨a1, e1⟩ := cell_bool Try.underlying4 h1
    have h2 : DataW.trod enc Try.prog w 0 (fun _ => true) true n 31 ((l.drop 2).take (Try.prog.cellsOf 31)) = some y2 := hall' 2 _ rfl
    rw [hcy] at h2
    obtain ⟨A2, c2, a2, e2, f2, g2⟩ := cell_bytes Try.underlying31 Try.underlying5 hcu h2
    have k0 := piece_get e0
    have k1 := piece_get e1
    have k2 := piece_get e2
    have el : l = [.int .i64 a0, .bool a1, .slice A2 a2.length c2] := by
      match l, hl' with
      | [x0, x1, x2], _ => simp at k0 k1 k2; simp [k0, k1, k2]
    refine ⟨⟨a0, a1, a2⟩, A2, c2, by rw [el]; rfl, f2, g2, ?_⟩
    intro m hm
    simp only [List.mem_cons, List.not_mem_nil, or_false] at hm
    rcases hm with rfl <;> assumption
end
/-- It lies in a block of its own. -/
def Atnis (W : World) (g : Nat) (q : PI34) (A : Option Addr) (c : Nat) : Prop := W.rangeAt g 0 (nisa q A c).toList
section
variable {W : World} {g : Nat} {q : PI34} {A : Option Addr} {c : Nat}
theorem Atnis.new (w : World) : Atnis (w.alloc (.cells (nisa q A c) 33)) w.heap.size q A c := fun j v hj => by
  rw [Nat.zero_add, World.cell?_alloc_new, ← hj, Array.getElem?_toList]
theorem Atnis.of_heap {t : TypeId} {fr : Nat × Nat} (h : W.heap[g]? = some (.cells (nisa q A c) t fr)) : Atnis W g q A c := fun j v hj => by
  rw [cell_of_row W g (0 + j) _ _ _ h, Nat.zero_add, ← Array.getElem?_toList]; exact hj
theorem Atnis.below {w : World} {B : Nat} (h : Atnis W g q A c) (hb : Below B W w) (hg : g < B) : Atnis w g q A c := range_below h hg hb
theorem Atnis.n (h : Atnis W g q A c) : W.cell? ⟨g, 0, none⟩ = some (.int .i64 q.n) := h 0 _ rfl
theorem Atnis.up (h : Atnis W g q A c) : W.cell? ⟨g, 1, none⟩ = some (.bool q.up) := h 1 _ rfl
theorem Atnis.b (h : Atnis W g q A c) : W.cell? ⟨g, 2, none⟩ = some (.slice A q.b.length c) := h 2 _ rfl
end
theorem run_load_nis {o : Oper} {a : Act} {w : World} {x : Operand} {g : Nat} {cs : List Value} (ho : o.op = .load 33 x) (hx : a.eval x = .pointer (some ⟨g, 0, none⟩)) (hr : w.rangeAt g 0 cs) (hl : cs.length = 3) :
    (execOp a.eval o).run Try.prog w = .ok (.value (.agg cs.toArray)) w := by
  have h := run_loadVar_mid (P := Try.prog) w g 0 33 cs _ hr Try.underlying33 rfl (by rw [hl]; kernel_rfl)
  unfold execOp
  simp only [ho, hx, Instr.loadAt, Instr.sureAddr, Sem.run_bind, Sem.run_pure, Result.andThen_ok, h]
theorem nis_store {ops : Array Oper} {rest : List Oper} {x y : Operand} {ty : TypeId} {pos : String} {af : Array Edge} {a : Act} {w : World} {Q : Exit → Act → World → Prop}
    {g : Nat} {t : TypeId} {cs old : Array Value} (hx : a.eval x = .pointer (some ⟨g, 0, none⟩)) (hy : a.eval y = .agg cs) (hg : w.heap[g]? = some (.cells old t (0, 0))) (ho : old.size = 3) (hl : cs.size = 3) (h1 : cs.all (·.oneCell') = true)
    (h : wpList Try.prog ops Q rest (a.put none undef) (w.setRow g cs)) : wpList Try.prog ops Q (⟨none, .store 33 x y, ty, pos, af, none⟩ :: rest) a w :=
  wpList_plain rfl fun _ hK => wp_store_row 33 x y rfl g cs hx hy t old hg (by rw [hl]; kernel_rfl) (by rw [ho, hl]) h1 (hK _ _ h)
theorem nis_store_new {ops : Array Oper} {rest : List Oper} {x y : Operand} {ty : TypeId} {pos : String} {af : Array Edge} {a : Act} {w : World} {Q : Exit → Act → World → Prop}
    {t : TypeId} {cs old : Array Value} (hx : a.eval x = .pointer (some ⟨w.heap.size, 0, none⟩)) (hy : a.eval y = .agg cs) (ho : old.size = 3) (hl : cs.size = 3) (h1 : cs.all (·.oneCell') = true)
    (h : wpList Try.prog ops Q rest (a.put none undef) (w.alloc (.cells cs t))) : wpList Try.prog ops Q (⟨none, .store 33 x y, ty, pos, af, none⟩ :: rest) a (w.alloc (.cells old t)) :=
  nis_store hx hy (World.alloc_heap_new w _) ho hl h1 (by rw [World.setRow_alloc_new]; exact h)
theorem nis_result {fn : Func} {p : Tmp} {tmps : Array Value} {w : World} {g : Nat} {t : TypeId} {cs : Array Value} {fr : Nat × Nat} (h : fn.results = #[.cell p 33])
    (hp : tmps.getD p undef = .pointer (some ⟨g, 0, none⟩)) (hg : w.heap[g]? = some (.cells cs t fr)) (hl : cs.size = 3) : (results fn tmps).run Try.prog w = .ok (.agg cs) w :=
  results_cell_row h tmps w g t cs fr _ hp hg Try.underlying33 rfl (by rw [hl]; kernel_rfl)
theorem nis_load_run {w : World} {g : Nat} {t : TypeId} {cs : Array Value} {fr : Nat × Nat} (hg : w.heap[g]? = some (.cells cs t fr)) (hl : cs.size = 3) : (loadVar 33 ⟨g, 0, none⟩).run Try.prog w = .ok (.agg cs) w :=
  run_loadVar_row w g t 33 cs fr _ hg Try.underlying33 rfl (by rw [hl]; kernel_rfl)
end Go.Proofs.Ytpoigngpdcmipaa

/-
  The struct goosepondref34.Item as data: its cells, its value, a block that holds one. Conditions are each theorem's own.
-/
namespace Go.Proofs.Ytpoigngpdcmipaa
open Go.RowKit Go.ChangeShapes Go.WideShapes

structure PR34 where
  n : Int
  up : Bool
  b : List UInt8
def nirz : PR34 := ⟨0, false, []⟩
/-- Its cells. -/
def nira (q : PR34) (A : Option Addr) (c : Nat) : Array Value := #[.int .i64 q.n, .bool q.up, .slice A q.b.length c]
def nirv (q : PR34) (A : Option Addr) (c : Nat) : Value := .agg #[.int .i64 q.n, .bool q.up, .slice A q.b.length c]
theorem nirv_eq (q : PR34) (A : Option Addr) (c : Nat) : nirv q A c = .agg (nira q A c) := rfl
def PR34.fits (q : PR34) : Prop := ∀ n ∈ [q.n], (Lit.int .i64 n).wf = true
theorem nira_size (q : PR34) (A : Option Addr) (c : Nat) : (nira q A c).size = 3 := rfl
theorem nir_one (q : PR34) (A : Option Addr) (c : Nat) : (nira q A c).all (·.oneCell') = true := by simp [nira, Value.oneCell']
section
variable {H : Type} {enc : TypeId × Value → H} {w : World} {base : Nat} {v : Value} {d : DataW H} {p : List MemPlace}
set_option maxRecDepth 100000 in
theorem get_nir (hv : Value.okWide Try.prog w .any base 38 v) (h : DataW.Trod enc Try.prog w 0 (fun _ => true) true 38 v d p) :
    ∃ q A c, v = nirv q A c ∧ Arg w w.heap.size A c q.b ∧ c ≤ maxLen ∧ q.fits := by
  obtain ⟨cs, rfl, hcs⟩ : ∃ cs, v = .agg cs ∧ cs.size = Try.prog.cellsOf 38 := by
    have := hv
    simp only [Value.okWide, Try.underlying38] at this
    obtain ⟨cs, h1, h2, _⟩ := this
    exact ⟨cs, h1, h2⟩
  obtain ⟨fuel, hf⟩ := h
  obtain ⟨xs, n, _, _, hl, hxs, hall⟩ := DataW.trod_struct Try.underlying38 hf
  have hci : Try.prog.cellsOf 3 = 1 := by kernel_rfl
  have hcb : Try.prog.cellsOf 4 = 1 := by kernel_rfl
  have hcy : Try.prog.cellsOf 31 = 1 := by kernel_rfl
  have hcu : Try.prog.cellsOf 5 = 1 := by kernel_rfl
  have hcn : Try.prog.cellsOf 38 = 3 := by kernel_rfl
  obtain ⟨l⟩ := cs
  have hl' : l.length = 3 := by rw [← hcn]; exact hl
  have hall' : ∀ (i : Nat) (f : Field), _ → DataW.trod enc Try.prog w 0 (fun _ => true) true n f.type ((l.drop f.offset).take (Try.prog.cellsOf f.type)) = xs[i]? := hall
  match xs, hxs with
  | [y0, y1, y2], _ =>
    have h0 : DataW.trod enc Try.prog w 0 (fun _ => true) true n 3 ((l.drop 0).take (Try.prog.cellsOf 3)) = some y0 := hall' 0 _ rfl
    rw [hci] at h0
    obtain ⟨a0, e0, f0⟩ := cell_int Try.underlying3 h0
    have h1 : DataW.trod enc Try.prog w 0 (fun _ => true) true n 4 ((l.drop 1).take (Try.prog.cellsOf 4)) = some y1 := hall' 1 _ rfl
    rw [hcb] at h1
    obtain ⟨a1, e1⟩ := cell_bool Try.underlying4 h1
    have h2 : DataW.trod enc Try.prog w 0 (fun _ => true) true n 31 ((l.drop 2).take (Try.prog.cellsOf 31)) = some y2 := hall' 2 _ rfl
    rw [hcy] at h2
    obtain ⟨A2, c2, a2, e2, f2, g2⟩ := cell_bytes Try.underlying31 Try.underlying5 hcu h2
    have k0 := piece_get e0
    have k1 := piece_get e1
    have k2 := piece_get e2
    have el : l = [.int .i64 a0, .bool a1, .slice A2 a2.length c2] := by
      match l, hl' with
      | [x0, x1, x2], _ => simp at k0 k1 k2; simp [k0, k1, k2]
    refine ⟨⟨a0, a1, a2⟩, A2, c2, by rw [el]; rfl, f2, g2, ?_⟩
    intro m hm
    simp only [List.mem_cons, List.not_mem_nil, or_false] at hm
    rcases hm with rfl <;> assumption
end
/-- It lies in a block of its own. -/
def Atnir (W : World) (g : Nat) (q : PR34) (A : Option Addr) (c : Nat) : Prop := W.rangeAt g 0 (nira q A c).toList
section
variable {W : World} {g : Nat} {q : PR34} {A : Option Addr} {c : Nat}
theorem Atnir.new (w : World) : Atnir (w.alloc (.cells (nira q A c) 38)) w.heap.size q A c := fun j v hj => by
  rw [Nat.zero_add, World.cell?_alloc_new, ← hj, Array.getElem?_toList]
theorem Atnir.of_heap {t : TypeId} {fr : Nat × Nat} (h : W.heap[g]? = some (.cells (nira q A c) t fr)) : Atnir W g q A c := fun j v hj => by
  rw [cell_of_row W g (0 + j) _ _ _ h, Nat.zero_add, ← Array.getElem?_toList]; exact hj
theorem Atnir.below {w : World} {B : Nat} (h : Atnir W g q A c) (hb : Below B W w) (hg : g < B) : Atnir w g q A c := range_below h hg hb
theorem Atnir.n (h : Atnir W g q A c) : W.cell? ⟨g, 0, none⟩ = some (.int .i64 q.n) := h 0 _ rfl
theorem Atnir.up (h : Atnir W g q A c) : W.cell? ⟨g, 1, none⟩ = some (.bool q.up) := h 1 _ rfl
theorem Atnir.b (h : Atnir W g q A c) : W.cell? ⟨g, 2, none⟩ = some (.slice A q.b.length c) := h 2 _ rfl
end
theorem run_load_nir {o : Oper} {a : Act} {w : World} {x : Operand} {g : Nat} {cs : List Value} (ho : o.op = .load 38 x) (hx : a.eval x = .pointer (some ⟨g, 0, none⟩)) (hr : w.rangeAt g 0 cs) (hl : cs.length = 3) :
    (execOp a.eval o).run Try.prog w = .ok (.value (.agg cs.toArray)) w := by
  have h := run_loadVar_mid (P := Try.prog) w g 0 38 cs _ hr Try.underlying38 rfl (by rw [hl]; kernel_rfl)
  unfold execOp
  simp only [ho, hx, Instr.loadAt, Instr.sureAddr, Sem.run_bind, Sem.run_pure, Result.andThen_ok, h]
theorem nir_store {ops : Array Oper} {rest : List Oper} {x y : Operand} {ty : TypeId} {pos : String} {af : Array Edge} {a : Act} {w : World} {Q : Exit → Act → World → Prop}
    {g : Nat} {t : TypeId} {cs old : Array Value} (hx : a.eval x = .pointer (some ⟨g, 0, none⟩)) (hy : a.eval y = .agg cs) (hg : w.heap[g]? = some (.cells old t (0, 0))) (ho : old.size = 3) (hl : cs.size = 3) (h1 : cs.all (·.oneCell') = true)
    (h : wpList Try.prog ops Q rest (a.put none undef) (w.setRow g cs)) : wpList Try.prog ops Q (⟨none, .store 38 x y, ty, pos, af, none⟩ :: rest) a w :=
  wpList_plain rfl fun _ hK => wp_store_row 38 x y rfl g cs hx hy t old hg (by rw [hl]; kernel_rfl) (by rw [ho, hl]) h1 (hK _ _ h)
theorem nir_store_new {ops : Array Oper} {rest : List Oper} {x y : Operand} {ty : TypeId} {pos : String} {af : Array Edge} {a : Act} {w : World} {Q : Exit → Act → World → Prop}
    {t : TypeId} {cs old : Array Value} (hx : a.eval x = .pointer (some ⟨w.heap.size, 0, none⟩)) (hy : a.eval y = .agg cs) (ho : old.size = 3) (hl : cs.size = 3) (h1 : cs.all (·.oneCell') = true)
    (h : wpList Try.prog ops Q rest (a.put none undef) (w.alloc (.cells cs t))) : wpList Try.prog ops Q (⟨none, .store 38 x y, ty, pos, af, none⟩ :: rest) a (w.alloc (.cells old t)) :=
  nir_store hx hy (World.alloc_heap_new w _) ho hl h1 (by rw [World.setRow_alloc_new]; exact h)
theorem nir_result {fn : Func} {p : Tmp} {tmps : Array Value} {w : World} {g : Nat} {t : TypeId} {cs : Array Value} {fr : Nat × Nat} (h : fn.results = #[.cell p 38])
    (hp : tmps.getD p undef = .pointer (some ⟨g, 0, none⟩)) (hg : w.heap[g]? = some (.cells cs t fr)) (hl : cs.size = 3) : (results fn tmps).run Try.prog w = .ok (.agg cs) w :=
  results_cell_row h tmps w g t cs fr _ hp hg Try.underlying38 rfl (by rw [hl]; kernel_rfl)
theorem nir_load_run {w : World} {g : Nat} {t : TypeId} {cs : Array Value} {fr : Nat × Nat} (hg : w.heap[g]? = some (.cells cs t fr)) (hl : cs.size = 3) : (loadVar 38 ⟨g, 0, none⟩).run Try.prog w = .ok (.agg cs) w :=
  run_loadVar_row w g t 38 cs fr _ hg Try.underlying38 rfl (by rw [hl]; kernel_rfl)
end Go.Proofs.Ytpoigngpdcmipaa

/-
  Layer 34: items, and where their bytes lie; a network in memory, the code's and the document's; New, Len, place, clone. Conditions are each theorem's own.
-/
namespace Go.Proofs.Ytpoigngpdcmipaa
open Go.RowKit Go.Shelf
/-- An item, and where its bytes lie. -/
structure IT where
  x : PI34
  A : Option Addr
  c : Nat
def clI (y : IT) : List Value := [.int .i64 y.x.n, .bool y.x.up, .slice y.A y.x.b.length y.c]
theorem clI_len (y : IT) : (clI y).length = 3 := rfl
theorem clI_one (y : IT) : ∀ u ∈ clI y, u.oneCell' = true := by
  intro u hu
  simp only [clI, List.mem_cons, List.not_mem_nil, or_false] at hu
  rcases hu with rfl | rfl | rfl <;> rfl
theorem clI_all (y : IT) : (clI y).toArray.all (·.oneCell') = true := by simp [clI, Value.oneCell']
def OwnI (W : World) (base : Nat) (y : IT) : Prop := W.ownsRow base 5 1 (.slice y.A y.x.b.length y.c) y.x.b.length (row y.x.b)
/-- A row of items with bytes, all its own. -/
structure Row34 (e : TypeId) (W : World) (base : Nat) (v : Value) (l : List IT) : Prop where
  r : W.ownsRow base e 3 v l.length (l.flatMap clI)
  o : ∀ y ∈ l, OwnI W base y
section
variable {e : TypeId} {W W' : World} {base : Nat} {v : Value} {l : List IT}
theorem Row34.nil (e : TypeId) (W : World) (base : Nat) : Row34 e W base (.slice none 0 0) [] := ⟨World.ownsRow_nil _ _ _ _, fun y h => by cases h⟩
theorem Row34.below (h : Row34 e W base v l) (hb : Below W.heap.size W W') : Row34 e W' base v l := ⟨own_below h.r hb, fun y hy => own_below (h.o y hy) hb⟩
theorem Row34.down {b' : Nat} (h : Row34 e W base v l) (hb : b' ≤ base) : Row34 e W b' v l := ⟨own_base h.r hb, fun y hy => own_base (h.o y hy) hb⟩
theorem Row34.kept {S : Nat → Prop} {T : TypeId → Prop} (h : Row34 e W base v l) (k : Kept S W W') (hS : AwayT W S T) (he : ¬ T e) (hu : ¬ T 5) : Row34 e W' base v l := ⟨own_keptA h.r k hS he, fun y hy => own_keptA (h.o y hy) k hS hu⟩
theorem Row34.shape (h : Row34 e W base v l) : ∃ A c, v = .slice A l.length c ∧ RdS clI 3 W W.heap.size A l ∧ l.length ≤ c := own_rds (cl := clI) h.r rfl rfl (fun x _ => clI_len x)
theorem Row34.len (h : Row34 e W base v l) : ∃ A c, v = .slice A l.length c ∧ l.length ≤ c := by
  obtain ⟨A, c, e1, _, h2⟩ := h.shape
  exact ⟨A, c, e1, h2⟩
theorem Row34.at_ (h : Row34 e W base v l) {i : Nat} {y : IT} (hy : l[i]? = some y) : ∃ b o c, v = .slice (some ⟨b, o, none⟩) l.length c ∧ W.rangeAt b (o + i * 3) (clI y) ∧ b < W.heap.size := by
  obtain ⟨A, c, e1, hr, _⟩ := h.shape
  obtain ⟨b, o, e2, hb, hc⟩ := hr (by have := (List.getElem?_eq_some_iff.1 hy).1; omega)
  exact ⟨b, o, c, by rw [e1, e2], hc i y hy, hb⟩
theorem OwnI.arg {y : IT} (h : OwnI W base y) : Arg W W.heap.size y.A y.c y.x.b := arg_own h
end
/-- The code's network lies at block g. -/
structure Nt (w : World) (B0 g : Nat) (v : Value) (room : Int) (L : List IT) : Prop where
  ob : w.heap[g]? = some (.cells #[.bool true, .int .i64 room, v] 57 (0, 0))
  row : Row34 33 w B0 v L
  gB : B0 ≤ g
  n : (L.length : Int) ≤ room
  m : 0 ≤ room ∧ room ≤ 4096
/-- The document's lies at block g. -/
structure Nr (w : World) (B0 g : Nat) (v : Value) (room : Int) (L : List IT) : Prop where
  ob : w.heap[g]? = some (.cells #[v, .int .i64 room] 47 (0, 0))
  row : Row34 38 w B0 v L
  gB : B0 ≤ g
  n : (L.length : Int) ≤ room
  m : 0 ≤ room ∧ room ≤ 4096
def TNc (ty : TypeId) : Prop := ty = 57 ∨ ty = 33
def TNr (ty : TypeId) : Prop := ty = 47 ∨ ty = 38
theorem tnc_no : ¬ TNc 47 ∧ ¬ TNc 38 ∧ ¬ TNc 5 := by
  refine ⟨?_, ?_, ?_⟩ <;> (rintro (h | h) <;> exact absurd h (nat_ne (by kernel_rfl)))
theorem tnr_no : ¬ TNr 57 ∧ ¬ TNr 33 ∧ ¬ TNr 5 := by
  refine ⟨?_, ?_, ?_⟩ <;> (rintro (h | h) <;> exact absurd h (nat_ne (by kernel_rfl)))
/-- Blocks of these types, from a place on. -/
def NNb (T : TypeId → Prop) (B : Nat) (w : World) (i : Nat) : Prop := B ≤ i ∧ ∃ cs ty fr, w.heap[i]? = some (.cells cs ty fr) ∧ T ty
theorem nnb_away {T : TypeId → Prop} {B : Nat} {w : World} : AwayT w (NNb T B w) T := fun _ hk cs ty fr hg => by
  obtain ⟨_, cs', ty', fr', h, ht⟩ := hk
  rw [hg] at h
  injection h with h
  injection h with _ e _
  rw [e]; exact ht
section
variable {w w' : World} {B0 g : Nat} {v : Value} {room : Int} {L : List IT}
theorem Nt.below (h : Nt w B0 g v room L) (hb : Below w.heap.size w w') : Nt w' B0 g v room L := ⟨(hb.block g (heap_lt h.ob)).trans h.ob, h.row.below hb, h.gB, h.n, h.m⟩
theorem Nr.below (h : Nr w B0 g v room L) (hb : Below w.heap.size w w') : Nr w' B0 g v room L := ⟨(hb.block g (heap_lt h.ob)).trans h.ob, h.row.below hb, h.gB, h.n, h.m⟩
theorem Nt.kept {B : Nat} (h : Nt w B0 g v room L) (k : Kept (NNb TNr B w) w w') : Nt w' B0 g v room L :=
  ⟨(k.block g (heap_lt h.ob) (fun e => by obtain ⟨_, cs, ty, fr, e1, e2⟩ := e; rw [h.ob] at e1; injection e1 with e1; injection e1 with _ e1 _; rw [← e1] at e2; exact tnr_no.1 e2)).trans h.ob, h.row.kept k nnb_away tnr_no.2.1 tnr_no.2.2, h.gB, h.n, h.m⟩
theorem Nr.kept {B : Nat} (h : Nr w B0 g v room L) (k : Kept (NNb TNc B w) w w') : Nr w' B0 g v room L :=
  ⟨(k.block g (heap_lt h.ob) (fun e => by obtain ⟨_, cs, ty, fr, e1, e2⟩ := e; rw [h.ob] at e1; injection e1 with e1; injection e1 with _ e1 _; rw [← e1] at e2; exact tnc_no.1 e2)).trans h.ob, h.row.kept k nnb_away tnc_no.2.1 tnc_no.2.2, h.gB, h.n, h.m⟩
theorem kept_nb {T : TypeId → Prop} {B C : Nat} (k : Kept (NNb T B w) w w') (hC : C ≤ B) (hw : C ≤ w.heap.size) : Below C w w' := ⟨k.os, k.tape, k.output, k.size, fun i hi => k.block i (by omega) (fun e => by have := e.1; omega)⟩
/-- Where at is, counted round and round. -/
def plN (a : Int) (n : Nat) : Nat := ((a.tmod n + n).tmod n).toNat
theorem plN_eq (a : Int) {n : Nat} (hn : 0 < n) : ((a.tmod n + n).tmod n) = (plN a n : Int) ∧ plN a n < n ∧ -(n : Int) < a.tmod n ∧ a.tmod n < n := by
  have h1 : -(n : Int) < a.tmod n := by
    have := Int.tmod_lt_of_pos (-a) (b := (n : Int)) (by omega)
    rw [Int.neg_tmod] at this
    omega
  have h2 : a.tmod n < n := Int.tmod_lt_of_pos a (by omega)
  have h3 : 0 ≤ (a.tmod n + n).tmod n := Int.tmod_nonneg _ (by omega)
  have h4 : (a.tmod n + n).tmod n < n := Int.tmod_lt_of_pos _ (by omega)
  unfold plN
  exact ⟨by omega, by omega, h1, h2⟩
theorem ntmade (h : Nt w B0 g v room L) : Calls Try.prog 22 #[.pointer (some ⟨g, 0, none⟩)] w fun e w' => e = .returned (.bool true) ∧ w = w' := by
  have k0 := cells_at (i := 0) h.ob rfl
  clear h
  go_enter Try.func22, Try.ntmps22
  go_wp2
  go_ret
  exact ⟨rfl, rfl⟩
theorem ntmade_nil {w : World} : Calls Try.prog 22 #[.pointer none] w fun e w' => e = .returned (.bool false) ∧ w = w' := by
  go_enter Try.func22, Try.ntmps22
  go_wp2
  go_ret
  exact ⟨rfl, rfl⟩
theorem ntmade_zero {w : World} {g : Nat} (k0 : w.cell? ⟨g, 0, none⟩ = some (.bool false)) : Calls Try.prog 22 #[.pointer (some ⟨g, 0, none⟩)] w fun e w' => e = .returned (.bool false) ∧ w = w' := by
  go_enter Try.func22, Try.ntmps22
  go_wp2
  go_ret
  exact ⟨rfl, rfl⟩
theorem ntlen (h : Nt w B0 g v room L) : Calls Try.prog 16 #[.pointer (some ⟨g, 0, none⟩)] w fun e w' => e = .returned (.int .i64 (L.length : Int)) ∧ w = w' := by
  obtain ⟨A, c, rfl, _⟩ := h.row.len
  have HM := Lib.hid (ntmade h)
  have k2 := cells_at (i := 2) h.ob rfl
  generalize hn : L.length = n at *
  clear h hn
  go_enter Try.func16, Try.ntmps16
  go_wp2_with (go_at_call 22; refine HM.out.mono ?_; rintro e w1 ⟨rfl, rfl⟩)
  go_ret
  exact ⟨rfl, rfl⟩
theorem ntlen_nil {w : World} : Calls Try.prog 16 #[.pointer none] w fun e w' => e = .returned (.int .i64 0) ∧ w = w' := by
  have HM := Lib.hid (ntmade_nil (w := w))
  go_enter Try.func16, Try.ntmps16
  go_wp2_with (go_at_call 22; refine HM.out.mono ?_; rintro e w1 ⟨rfl, rfl⟩)
  go_ret
  exact ⟨rfl, rfl⟩
theorem ntplace_nil {w : World} (a : Int) : Calls Try.prog 18 #[.pointer none, .int .i64 a] w fun e w' => e = .returned (.tuple #[.int .i64 0, .bool false]) ∧ w = w' := by
  have HM := Lib.hid (ntlen_nil (w := w))
  go_enter Try.func18, Try.ntmps18
  go_wp2_with (go_at_call 16; refine HM.out.mono ?_; rintro e w1 ⟨rfl, rfl⟩)
  go_ret2
  exact ⟨rfl, rfl⟩
theorem ntlen_zero {w : World} {g : Nat} (k0 : w.cell? ⟨g, 0, none⟩ = some (.bool false)) : Calls Try.prog 16 #[.pointer (some ⟨g, 0, none⟩)] w fun e w' => e = .returned (.int .i64 0) ∧ w = w' := by
  have HM := Lib.hid (ntmade_zero k0)
  go_enter Try.func16, Try.ntmps16
  go_wp2_with (go_at_call 22; refine HM.out.mono ?_; rintro e w1 ⟨rfl, rfl⟩)
  go_ret
  exact ⟨rfl, rfl⟩
theorem ntplace_zero {w : World} {g : Nat} (k0 : w.cell? ⟨g, 0, none⟩ = some (.bool false)) (a : Int) : Calls Try.prog 18 #[.pointer (some ⟨g, 0, none⟩), .int .i64 a] w fun e w' => e = .returned (.tuple #[.int .i64 0, .bool false]) ∧ w = w' := by
  have HM := Lib.hid (ntlen_zero k0)
  go_enter Try.func18, Try.ntmps18
  go_wp2_with (go_at_call 16; refine HM.out.mono ?_; rintro e w1 ⟨rfl, rfl⟩)
  go_ret2
  exact ⟨rfl, rfl⟩
theorem ntplace_none (h : Nt w B0 g v room L) (hn : L.length = 0) (a : Int) : Calls Try.prog 18 #[.pointer (some ⟨g, 0, none⟩), .int .i64 a] w fun e w' => e = .returned (.tuple #[.int .i64 0, .bool false]) ∧ w = w' := by
  have h0 := ntlen h
  rw [hn] at h0
  have HM := Lib.hid h0
  clear h h0 hn
  go_enter Try.func18, Try.ntmps18
  go_wp2_with (go_at_call 16; refine HM.out.mono ?_; rintro e w1 ⟨rfl, rfl⟩)
  go_ret2
  exact ⟨rfl, rfl⟩
theorem ntplace (h : Nt w B0 g v room L) (hn : 0 < L.length) (a : Int) : Calls Try.prog 18 #[.pointer (some ⟨g, 0, none⟩), .int .i64 a] w fun e w' => e = .returned (.tuple #[.int .i64 (plN a L.length : Int), .bool true]) ∧ w = w' := by
  obtain ⟨p1, p2, p3, p4⟩ := plN_eq a hn
  have hl := h.n
  have hr := h.m
  have HM := Lib.hid (ntlen h)
  obtain ⟨n, hnn⟩ : ∃ n, n = L.length := ⟨_, rfl⟩
  rw [← hnn] at hn p1 p2 p3 p4 hl HM ⊢
  have d0 : ((n : Int) == 0) = false := beq_eq_false_iff_ne.2 (by omega)
  have hn4 : n ≤ 4096 := by omega
  have HP : Hid ((a.tmod (n : Int) + (n : Int)) % (n : Int) = (plN a n : Int)) := Lib.hid (by rw [← Int.tmod_eq_emod_of_nonneg (by omega)]; exact p1)
  have e1 : wrap64 (a.tmod (n : Int)) = a.tmod (n : Int) := by unfold wrap64; omega
  have e2 : wrap64 (a.tmod (n : Int) + (n : Int)) = a.tmod (n : Int) + (n : Int) := by unfold wrap64; omega
  clear h hnn hl hr p1
  go_enter Try.func18, Try.ntmps18
  go_wp2_with (go_at_call 16; refine HM.out.mono ?_; rintro e w1 ⟨rfl, rfl⟩)
  go_ret2
  exact ⟨by rw [← HP.out]; rfl, rfl⟩
end
set_option maxRecDepth 100000 in
theorem ntclone (y : IT) (B : Nat) (w : World) (hA : Arg w B y.A y.c y.x.b) (hB : B ≤ w.heap.size) (hl : y.x.b.length ≤ 1000000) : Calls Try.prog 19 #[.agg (clI y).toArray] w fun e w' => ∃ P p, e = .returned (.agg (clI ⟨y.x, P, p⟩).toArray) ∧ OwnI w' w.heap.size ⟨y.x, P, p⟩ ∧ Below w.heap.size w w' := by
  obtain ⟨W, hW⟩ : ∃ W, W = (w.alloc (.cells (clI y).toArray 33)).alloc (.cells #[.int .i64 0, .bool false, .slice none 0 0] 33) := ⟨_, rfl⟩
  have hb : Below w.heap.size w W := by rw [hW]; exact ((Below.refl _ w).alloc (Nat.le_refl _) _).alloc (by simp) _
  have k0 : W.heap[w.heap.size]? = some (.cells (clI y).toArray 33 (0, 0)) := by rw [hW, Below.heap_alloc _ _ _ (by simp)]; exact World.alloc_heap_new w _
  have k1 : W.heap[w.heap.size + 1]? = some (.cells #[.int .i64 0, .bool false, .slice none 0 0] 33 (0, 0)) := by
    have := World.alloc_heap_new (w.alloc (.cells (clI y).toArray 33)) (.cells #[.int .i64 0, .bool false, .slice none 0 0] 33)
    rw [World.size_alloc] at this
    rw [hW]; exact this
  have zs : W.heap.size = w.heap.size + 2 := by rw [hW]; simp
  have hV' := hW.symm
  have HA := Lib.hid (hA.below (hb.mono hB))
  have k2 : W.cell? ⟨w.heap.size, 2, none⟩ = some (.slice y.A y.x.b.length y.c) := cells_at (i := 2) k0 rfl
  have hz := hb.size
  have hl2 : y.x.b.length ≤ 1099511627776 := by omega
  have HK0 := Lib.hid k0
  have HK1 := Lib.hid k1
  have HZ := Lib.hid zs
  have HB := Lib.hid (Nat.le_trans hB hz)
  clear hW hA k0 k1 zs hl
  go_enter Try.func19, Try.ntmps19
  go_upto_region 1 with fail
  try rw [hV']
  clear hV'
  go_upto_region 2 with (go_at_call 25; refine (clone_any y.A y.x.b y.c B W HA.out HB.out hl2).mono ?_; rintro e w1 ⟨v1, rfl, m1⟩; obtain ⟨P, p, rfl, g1, o1, x1⟩ := made_shape m1; have kk := (x1.block _ (heap_lt HK0.out)).trans HK0.out; have kf := heap_frozen kk 2; have kc := cells_at (i := 2) kk rfl)
  have ks := heap_setCell_same w1 w.heap.size 2 _ _ (.slice P y.x.b.length p) kk
  have kr := (heap_setCell_other w1 ⟨w.heap.size, 2, none⟩ (w.heap.size + 1) (.slice P y.x.b.length p) (by show w.heap.size + 1 ≠ w.heap.size; omega)).trans ((x1.block _ (heap_lt HK1.out)).trans HK1.out)
  rw [show (clI y).toArray.setIfInBounds 2 (.slice P y.x.b.length p) = (clI ⟨y.x, P, p⟩).toArray from rfl] at ks
  have o2 := own_setCell (p := ⟨w.heap.size, 2, none⟩) (u := .slice P y.x.b.length p) o1 (by have := HZ.out; show w.heap.size < _; omega)
  have b2 : Below w.heap.size w (w1.setCell ⟨w.heap.size, 2, none⟩ (.slice P y.x.b.length p)) := (hb.trans (x1.mono hz)).setCell (p := ⟨w.heap.size, 2, none⟩) (Nat.le_refl _) _
  generalize w1.setCell ⟨w.heap.size, 2, none⟩ (.slice P y.x.b.length p) = X at *
  have hr : X.rangeAt w.heap.size 0 (clI ⟨y.x, P, p⟩) := range_heap ks
  have kq := setRow_heap X (w.heap.size + 1) _ (clI ⟨y.x, P, p⟩).toArray _ _ kr
  have o3 := own_setRow (cs := (clI ⟨y.x, P, p⟩).toArray) (own_base o2 (Nat.le_refl _)) (by have := HZ.out; show w.heap.size + 1 < _; omega)
  have b3 : Below w.heap.size w (X.setRow (w.heap.size + 1) (clI ⟨y.x, P, p⟩).toArray) := below_row b2 (by omega)
  clear m1 g1 o1 x1 kk kf kc
  go_wp2_with (first
    | ((with_reducible show wpList _ _ _ (Oper.mk _ (Op.load 33 _) _ _ _ _ :: _) _ _); refine wpList_val rfl (run_load_nis rfl rfl hr rfl) ?_)
    | ((with_reducible show wpList _ _ _ (Oper.mk _ (Op.store 33 _ _) _ _ _ _ :: _) _ _); refine nis_store (cs := (clI ⟨y.x, P, p⟩).toArray) rfl rfl kr rfl rfl (clI_all _) ?_))
  refine bodyPost_ret (nis_result rfl rfl kq rfl) rfl ?_
  exact ⟨P, p, rfl, own_base o3 hz, b3⟩
theorem ntnew_bad (m : Int) (hm : m < 0 ∨ 4096 < m) (w : World) : Calls Try.prog 7 #[.int .i64 m] w fun e w' => e = .returned (.tuple #[.pointer none, .int .i64 1]) ∧ w = w' := by
  by_cases h1 : m < 0
  · have d1 : decide (m < 0) = true := decide_eq_true h1
    clear hm h1
    go_enter Try.func7, Try.ntmps7
    go_wp2
    go_ret2
    exact ⟨rfl, rfl⟩
  · have d1 : decide (m < 0) = false := decide_eq_false h1
    have d2 : decide (m > 4096) = true := decide_eq_true (by omega)
    have d2' : decide (4096 < m) = true := d2
    clear hm h1
    go_enter Try.func7, Try.ntmps7
    go_wp2
    go_ret2
    exact ⟨rfl, rfl⟩
theorem ntnew (m : Int) (hm : 0 ≤ m ∧ m ≤ 4096) (w : World) : Calls Try.prog 7 #[.int .i64 m] w fun e w' => e = .returned (.tuple #[.pointer (some ⟨w.heap.size, 0, none⟩), .int .i64 0]) ∧ Nt w' w.heap.size w.heap.size (.slice none 0 0) m [] ∧ Below w.heap.size w w' := by
  have d1 : decide (m < 0) = false := decide_eq_false (by omega)
  have d2 : decide (m > 4096) = false := decide_eq_false (by omega)
  have d2' : decide (4096 < m) = false := d2
  have HM := Lib.hid hm
  clear hm
  go_enter Try.func7, Try.ntmps7
  go_wp2
  go_ret2
  exact ⟨rfl, ⟨World.alloc_heap_new w _, Row34.nil _ _ _, Nat.le_refl _, HM.out.1, HM.out⟩, (Below.refl _ w).alloc (Nat.le_refl _) _⟩
theorem nrnew_bad (m : Int) (hm : m < 0 ∨ 4096 < m) (w : World) : Calls Try.prog 8 #[.int .i64 m] w fun e w' => e = .returned (.tuple #[.pointer none, .int .i64 1]) ∧ w = w' := by
  by_cases h1 : m < 0
  · have d1 : decide (m < 0) = true := decide_eq_true h1
    clear hm h1
    go_enter Try.func8, Try.ntmps8
    go_wp2
    go_ret2
    exact ⟨rfl, rfl⟩
  · have d1 : decide (m < 0) = false := decide_eq_false h1
    have d2 : decide (m > 4096) = true := decide_eq_true (by omega)
    have d2' : decide (4096 < m) = true := d2
    clear hm h1
    go_enter Try.func8, Try.ntmps8
    go_wp2
    go_ret2
    exact ⟨rfl, rfl⟩
theorem nrnew (m : Int) (hm : 0 ≤ m ∧ m ≤ 4096) (w : World) : Calls Try.prog 8 #[.int .i64 m] w fun e w' => e = .returned (.tuple #[.pointer (some ⟨w.heap.size, 0, none⟩), .int .i64 0]) ∧ Nr w' w.heap.size w.heap.size (.slice none 0 0) m [] ∧ Below w.heap.size w w' := by
  have d1 : decide (m < 0) = false := decide_eq_false (by omega)
  have d2 : decide (m > 4096) = false := decide_eq_false (by omega)
  have d2' : decide (4096 < m) = false := d2
  have HM := Lib.hid hm
  clear hm
  go_enter Try.func8, Try.ntmps8
  go_wp2
  go_ret2
  exact ⟨rfl, ⟨World.alloc_heap_new w _, Row34.nil _ _ _, Nat.le_refl _, HM.out.1, HM.out⟩, (Below.refl _ w).alloc (Nat.le_refl _) _⟩
end Go.Proofs.Ytpoigngpdcmipaa
