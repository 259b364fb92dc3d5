/-
  Contracts and lemmas on which the proofs of this seat stand (several texts in one). Conditions are each theorem's own.
-/
import Derived.Test.YtafidbjaeopciaaDoorBb5
import Derived.Sort.CutIn
import Derived.Test.YtafidbjaeopciaaDoorBb4
import Derived.Test.YtafidbjaeopciaaDoorBb2
import Derived.Test.YtafidbjaeopciaaDoorBb3
import Derived.Laws.MakeOwn
import Derived.Laws.CopyOwn
import Derived.Lib.AppendZerosOnto
import Derived.Lib.Overlaps
import Derived.Laws.Externs
import Derived.Laws.NewBlocks

/-
  Contracts of cut4's fragments and Cut. Conditions are each theorem's own.
-/
namespace Go.Proofs.YtafidbjaeopciaaDoor
open Go.RowKit Go.Shelf
attribute [local go_sem] Oper.semAt_some

theorem listI_valw {n : Nat} {P : Program} {ops : Array Oper} {rest : List Oper} {o : Oper} {a : Act} {w : World} {Q : Exit → Act → World → Prop} {v : Value} (hw : Region.wanted o (yielded ops a.tmps) = true) (hrun : (execOp a.eval o).run P w = .ok (.value v) w)
    (h : wpListIn Fence.wide n P ops Q rest (a.put o.dst v) w) : wpListIn Fence.wide n P ops Q (o :: rest) a w := by
  unfold wpListIn
  rw [if_pos hw]
  exact ⟨fun _ _ => trivial, by rw [show Fence.wide.round = none from rfl, Oper.semAt_none, hrun]; exact h⟩
theorem v4v_eq4 (q : P4) (A : Option Addr) (c : Nat) (A' : Option Addr) (c' : Nat) : v4v q A c A' c' = .agg (v4a q A c A' c') := rfl
theorem frg_len (mtu : Int) (o : List UInt8) (mf : Bool) : ∀ (f : Nat) (q : P4), (frg mtu o mf f q).length ≤ f
  | 0, _ => Nat.le_refl _
  | f + 1, q => by
    rw [frg]; split
    · have := frg_len mtu o mf f (rest1 mtu o q); simp; omega
    · simp
theorem rst4_len (mtu : Int) (o : List UInt8) (mf : Bool) (q : P4) : (rst4 mtu o mf q).length ≤ q.dat.length + 1 := frg_len mtu o mf _ q
end Go.Proofs.YtafidbjaeopciaaDoor

/-
  Contract of layer 13's helper of the statements: same. Conditions are each theorem's own.
-/
namespace Go.Proofs.YtafidbjaeopciaaDoor
open Go.RowKit Go.Shelf

instance : DecidableEq P4 := fun q r => decidable_of_iff (same4 q r = true) same4_iff
/-- A slice of packets at A, whose cells, and whose lists' cells, lie below block B. -/
structure L4 (w : World) (B : Nat) (A : Option Addr) (l : List X4) : Prop where
  rd : RdS cl4 11 w B A l
  arg : ∀ x ∈ l, Arg w B x.A x.c x.q.opt ∧ Arg w B x.A' x.c' x.q.dat
theorem L4.below {w w' : World} {B : Nat} {A : Option Addr} {l : List X4} (h : L4 w B A l) (hb : Below B w w') : L4 w' B A l := ⟨h.rd.below hb, fun x hx => ⟨(h.arg x hx).1.below hb, (h.arg x hx).2.below hb⟩⟩
theorem L4.more {w : World} {B B' : Nat} {A : Option Addr} {l : List X4} (h : L4 w B A l) (hB : B ≤ B') : L4 w B' A l := ⟨h.rd.more hB, fun x hx => ⟨(h.arg x hx).1.more hB, (h.arg x hx).2.more hB⟩⟩
end Go.Proofs.YtafidbjaeopciaaDoor

/-
  Contracts of cut4's follows, and of the document's fits of layer 13. Conditions are each theorem's own.
-/
namespace Go.Proofs.YtafidbjaeopciaaDoor
open Go.RowKit Go.Shelf

end Go.Proofs.YtafidbjaeopciaaDoor

/-
  A region that draws its order, loads, and then stores into what it loaded: a load is taken ahead as long as a certain store has not come up; the walk's moves. Conditions are each theorem's own.
-/
namespace Go.Proofs.YtafidbjaeopciaaDoor
open Go.RowKit

section
variable {n : Nat} {P : Program} {ops : Array Oper} {Q : Exit → Act → World → Prop} {md : Region.Mode} {S : World → Prop} {y : Nat}
/-- Whatever comes up next, S holds behind it, as long as operation y has not come up. -/
def anyHY (n : Nat) (P : Program) (md : Region.Mode) (ops : Array Oper) (Q : Exit → Act → World → Prop) (y : Nat) (S : World → Prop) : Nat → Array Bool → Act → World → Prop
  | 0, listed, a, w => Region.ready md ops listed = [] ∧ Q .normal a w
  | fuel + 1, listed, a, w => (Region.ready md ops listed = [] → Q .normal a w) ∧
    ∀ i ∈ Region.ready md ops listed, wpOpIn Fence.wide n P ops Q i (fun a' w' => ((listed.setIfInBounds i true).getD y true = false → S w') ∧ anyHY n P md ops Q y S fuel (listed.setIfInBounds i true) a' w') a w
theorem any_of_HY : ∀ (fuel : Nat) (listed : Array Bool) (a : Act) (w : World), anyHY n P md ops Q y S fuel listed a w → wpAnyIn Fence.wide n P md ops Q fuel listed a w
  | 0, _, _, _, h => h
  | fuel + 1, _, _, _, h => ⟨h.1, fun i hi => wpOpIn_mono (fun a' w' h' => any_of_HY fuel _ a' w' h'.2) (h.2 i hi)⟩
/-- Operation y waits for operation i. -/
def waitsB (md : Region.Mode) (ops : Array Oper) (y i : Nat) : Bool := match ops[y]? with | some o => o.after.any fun e => Region.binds md e && e.on == i | none => false
theorem waitsB_spec {i : Nat} {o : Oper} (h : waitsB md ops y i = true) (ho : ops[y]? = some o) : ∃ e ∈ o.after, Region.binds md e = true ∧ e.on = i := by
  unfold waitsB at h
  rw [ho] at h
  obtain ⟨e, he, hb⟩ := Array.any_eq_true'.1 h
  simp only [Bool.and_eq_true, beq_iff_eq] at hb
  exact ⟨e, he, hb.1, hb.2⟩
theorem takeY_all {i : Nat} {oi : Oper} {v : Value} (hi : ops[i]? = some oi) (hw : waitsB md ops y i = true) (hsel : ∀ (j : Nat) (o : Oper) cs b, ops[j]? = some o → o.op ≠ .select cs b) (hQ : ∀ c a w, Q (.panic c) (a.put oi.dst v) w → Q (.panic c) a w) :
    ∀ (fuel : Nat) (listed : Array Bool) (a : Act) (w : World), (∀ j oj, ops[j]? = some oj → j ≠ i → listed.getD j true = false → (∀ e ∈ oj.after, Region.binds md e = true → e.on ≠ i) → oi.apart ops oj = true) →
      i ∈ Region.ready md ops listed → listed.getD y true = false → YieldsIf P ops S oi v a → S w → anyHY n P md ops Q y S fuel (listed.setIfInBounds i true) (a.put oi.dst v) w → anyHY n P md ops Q y S (fuel + 1) listed a w
  | fuel, listed, a, w, free, hr, hyl, hy, hS, H => by
    refine ⟨fun h => (by rw [h] at hr; cases hr), fun j hj => ?_⟩
    by_cases hji : j = i
    · subst hji; exact opI_here hi hy hS ⟨fun _ => hS, H⟩
    have hj' := ready_mono hj hji
    cases fuel with
    | zero => rw [H.1] at hj'; cases hj'
    | succ fuel =>
      obtain ⟨hjun, oj, hoj, hall⟩ := mem_ready.1 hj
      have hnot : ∀ e ∈ oj.after, Region.binds md e = true → e.on ≠ i := fun e he hb heq => by
        have g1 := hall e he hb
        have g0 := (mem_ready.1 hr).1
        rw [heq] at g1
        rcases Nat.lt_or_ge i listed.size with h' | h'
        · simp [h'] at g0 g1; rw [g0] at g1; cases g1
        · simp [Array.getElem?_eq_none h'] at g1
      have hjy : j ≠ y := fun e => by
        subst e
        obtain ⟨e, he, hb, hon⟩ := waitsB_spec hw hoj
        exact hnot e he hb hon
      have hyl' : (listed.setIfInBounds j true).getD y true = false := by rw [getD_set_ne true hjy]; exact hyl
      refine wpOpIn_mono (fun a' w' h3 => ?_) (opI_swap hoj (free j oj hoj hji hjun hnot) (fun cs b => hsel i oi cs b hi) (fun cs b => hsel j oj cs b hoj) hQ hy (H.2 j hj'))
      have hS' : S w' := h3.2.1 (by rw [getD_set_ne true hjy]; by_cases hiy : i = y
                                    · subst hiy
                                      have g0 := (mem_ready.1 hr).1
                                      obtain ⟨e, he, hb, hon⟩ := waitsB_spec hw hi
                                      obtain ⟨_, o2, ho2, hall2⟩ := mem_ready.1 hr
                                      rw [hi] at ho2
                                      cases ho2
                                      have g1 := hall2 e he hb
                                      rw [hon] at g1
                                      exfalso
                                      rcases Nat.lt_or_ge i listed.size with h' | h'
                                      · simp [h'] at g0 g1; rw [g0] at g1; cases g1
                                      · simp [Array.getElem?_eq_none h'] at g1
                                    · rw [getD_set_ne true hiy]; exact hyl)
      refine ⟨fun _ => hS', takeY_all hi hw hsel hQ fuel (listed.setIfInBounds j true) a' w' (fun k ok hk hki hun hno => free k ok hk hki ?_ hno) (ready_mono hr (Ne.symm hji)) hyl' h3.1 hS' (by rw [Array.setIfInBounds_comm _ _ hji]; exact h3.2.2)⟩
      by_cases hjk : j = k
      · subst hjk; exact hjun
      · rw [getD_set_ne true hjk] at hun; exact hun
theorem pureY {i : Nat} {oi : Oper} {v : Value} {fuel : Nat} {listed : Array Bool} {a : Act} {w : World} (hi : ops[i]? = some oi) (hs : Region.noSelect ops = true) (hf : Region.free md ops listed i = true) (hr : (Region.ready md ops listed).contains i = true)
    (hd : waitsB md ops y i = true) (hyl : listed.getD y true = false) (hQ : ∀ c a w, Q (.panic c) (a.put oi.dst v) w → Q (.panic c) a w) (hw : Region.wanted oi (yielded ops a.tmps) = true) (hrun : ∀ w, S w → (execOp a.eval oi).run P w = .ok (.value v) w) (hS : S w)
    (h : anyHY n P md ops Q y S fuel (listed.setIfInBounds i true) (a.put oi.dst v) w) : anyHY n P md ops Q y S (fuel + 1) listed a w :=
  takeY_all hi hd (Region.noSelect_spec hs) hQ fuel listed a w (Region.free_spec hi hf) (by simpa using hr) hyl (.inl ⟨hw, hrun⟩) hS h
theorem oneY {i : Nat} {oi : Oper} {fuel : Nat} {listed : Array Bool} {a : Act} {w : World} (hr : Region.ready md ops listed = [i]) (hi : ops[i]? = some oi) (hw : Region.wanted oi (yielded ops a.tmps) = true)
    (h : ∀ K : Act → World → Prop, (∀ a w, ((listed.setIfInBounds i true).getD y true = false → S w) → anyHY n P md ops Q y S fuel (listed.setIfInBounds i true) a w → K a w) → oi.wpIn Fence.wide n P a w K Q) : anyHY n P md ops Q y S (fuel + 1) listed a w := by
  refine ⟨fun h0 => (by rw [hr] at h0; cases h0), fun j hj => ?_⟩
  rw [hr, List.mem_singleton] at hj
  subst hj
  unfold wpOpIn
  simp only [hi]
  rw [if_pos hw]
  exact h _ (fun a w hS hW => ⟨hS, hW⟩)
theorem doneY {listed : Array Bool} {a : Act} {w : World} (hr : Region.ready md ops listed = []) (h : Q .normal a w) : ∀ fuel, anyHY n P md ops Q y S fuel listed a w
  | 0 => ⟨hr, h⟩
  | _ + 1 => ⟨fun _ => h, by rw [hr]; simp⟩
theorem regionY (y : Nat) (S : World → Prop) {id : Nat} {a : Act} {w : World} (hm : P.follows .mixedOrders = true) (h : anyHY 0 P .any ops Q y S ops.size (Array.replicate ops.size false) a w.drew) : (Code.region id ops true).wp P Q a w :=
  wpIn_wide.1 (wpIn_region_any (n := 0) hm (any_of_HY _ _ _ _ h))
/-- An operation that yields a value; one that goes by its plain law. -/
theorem valI {o : Oper} {a : Act} {w : World} {K : Act → World → Prop} {v : Value} (hrun : (execOp a.eval o).run P w = .ok (.value v) w) (h : K (a.put o.dst v) w) : o.wpIn Fence.wide n P a w K Q :=
  ⟨fun _ _ => trivial, by rw [show Fence.wide.round = none from rfl, Oper.semAt_none, hrun]; exact h⟩
theorem plainI {o : Oper} {a : Act} {w : World} {K : Act → World → Prop} (hr : ∀ r args w', (execOp a.eval o).run P w ≠ .ok (.row r args) w') (h : o.wp P a w K Q) : o.wpIn Fence.wide n P a w K Q := by
  refine ⟨fun _ _ => trivial, ?_⟩
  rw [show Fence.wide.round = none from rfl, Oper.semAt_none]
  unfold Oper.wp at h
  generalize (execOp a.eval o).run P w = r at h hr ⊢
  rcases r with ⟨x, w'⟩ | ⟨x, w'⟩
  · cases x with
    | value v => exact h
    | skip => exact h
    | defer d => exact h
    | enter f args => exact ⟨fun h => (by cases h), callsIn_wide.2 h⟩
    | row r args => exact absurd rfl (hr r args w')
    | _ => exact h.elim
  · cases x with
    | panic v => exact h
    | _ => exact h.elim
end
end Go.Proofs.YtafidbjaeopciaaDoor

/-
  Contract of the document's Cut of layer 13. Conditions are each theorem's own.
-/
namespace Go.Proofs.YtafidbjaeopciaaDoor
open Go.RowKit Go.Shelf

section
variable {n : Nat} {Q : Exit → Act → World → Prop} {K : Act → World → Prop} {o : Oper} {a : Act} {w : World}
theorem growI {v : Value} {w' : World} (hrun : (execOp a.eval o).run Tryd.prog w = .ok (.value v) w') (h : K (a.put o.dst v) w') : o.wpIn Fence.wide n Tryd.prog a w K Q :=
  ⟨fun _ _ => trivial, by rw [show Fence.wide.round = none from rfl, Oper.semAt_none, hrun]; exact h⟩
theorem skipI {w' : World} (hrun : (execOp a.eval o).run Tryd.prog w = .ok .skip w') (h : K (a.put o.dst undef) w') : o.wpIn Fence.wide n Tryd.prog a w K Q :=
  ⟨fun _ _ => trivial, by rw [show Fence.wide.round = none from rfl, Oper.semAt_none, hrun]; exact h⟩
theorem appendI (s x : Operand) (ho : o.op = .call { callee := .builtin .append, args := #[s, x], argTypes := #[97, 97] })
    (base : Nat) (v : Value) (m : Nat) (xs : List Value) (hs : a.eval s = v) (hown : w.ownsRow base 5 1 v m xs)
    (B : Nat) (A : Option Addr) (c : Nat) (bs : List UInt8) (hx : a.eval x = .slice A bs.length c) (hA : A = none → c = 0) (hr : Rd w B A bs)
    (hlen : m + bs.length ≤ 2199023255552) (hbase : base ≤ w.heap.size)
    (h : ∀ v' w', w'.ownsRow base 5 1 v' (m + bs.length) (xs ++ row bs) → w.grownBy w' v.ownBlock → K (a.put o.dst v') w') : o.wpIn Fence.wide n Tryd.prog a w K Q := by
  obtain ⟨i0, hi, hz0, hz1, hz2⟩ := info_parts info_u8
  rcases A with _ | ad
  · have h0 : bs = [] := by
      rcases Nat.eq_zero_or_pos bs.length with e | e
      · exact List.eq_nil_of_length_eq_zero e
      · obtain ⟨_, _, e', _⟩ := hr e; cases e'
    subst h0
    obtain rfl := hA rfl
    have hrun := run_append_owned_none (P := Tryd.prog) (w := w) base 97 o.type 5 i0 1 Tryd.underlying97 hi v m xs hown
    refine growI (v := v) (w' := w) ?_ (h v w (by simpa [row] using hown) (World.grownBy.refl w _))
    simp [execOp, ho, resolve, invoke, builtin, hs, hx, hrun, Result.andThen]
  · obtain ⟨v', w', hrun, h1, h2, _⟩ := run_append_own (P := Tryd.prog) w base 97 o.type 5 i0 (.int .u8 0) 1 1 Tryd.underlying97 hi hz0 hz1 hz2 rfl (by decide) v m xs hown ad bs.length c (row bs)
      (by rw [row_length, Nat.mul_one]) hr.src (row_one bs) (by unfold maxLen; omega) (by omega) hbase
    refine growI (v := v') (w' := w') ?_ (h v' w' h1 h2)
    simp [execOp, ho, resolve, invoke, builtin, hs, hx, hrun, Result.andThen]
theorem store_slI {x y : Operand} {p : Addr} {v0 : Value} {A : Option Addr} {m c : Nat} (ho : o.op = .store 97 x y) (hx : a.eval x = .pointer (some p)) (hy : a.eval y = .slice A m c) (hc : w.cell? p = some v0) (hf : w.frozen? p = false)
    (h : K (a.put o.dst undef) (w.setCell p (.slice A m c))) : o.wpIn Fence.wide n Tryd.prog a w K Q := by
  refine skipI (w' := w.setCell p (.slice A m c)) ?_ h
  unfold execOp
  simp only [ho, hx, hy, Instr.storeAt, Instr.sureAddr, Sem.run_bind, Sem.run_pure, Result.andThen_ok]
  go_simp
end
theorem wpList_growU {ops : Array Oper} {rest : List Oper} {o : Oper} {a : Act} {w w' : World} {Q : Exit → Act → World → Prop} {v : Value} (hg : o.guard = none) (hrun : (execOp a.eval o).run Tryd.prog w = .ok (.value v) w') (h : wpList Tryd.prog ops Q rest (a.put o.dst v) w') : wpList Tryd.prog ops Q (o :: rest) a w :=
  wpList_plain hg fun K hK => by unfold Oper.wp; rw [hrun]; exact hK _ _ h
/-- The length of a slice. -/
def lenV (v : Value) : Nat := match v with | .slice _ n _ => n | _ => 0
theorem own_keepT {w w' : World} {base base' n n' s s' e e' : Nat} {v v' : Value} {xs xs' : List Value} (h : w.ownsRow base e s v n xs) (hv : w.ownsRow base' e' s' v' n' xs') (hg : w.grownBy w' v'.ownBlock) (hne : e' ≠ e) : w'.ownsRow base e s v n xs := by
  refine h.kept hg ?_
  rcases h.2 with ⟨rfl, _⟩ | ⟨g, cap, cur, rfl, _, hgb, _⟩
  · exact .inl rfl
  · refine .inr fun e1 => ?_
    rcases hv.2 with ⟨rfl, _⟩ | ⟨g2, cap2, cur2, rfl, _, hgb2, _⟩
    · simp [Value.ownBlock] at e1
    · have e2 : g = g2 := by simpa [Value.ownBlock] using e1
      subst e2
      rw [hgb] at hgb2
      cases hgb2
      exact hne rfl
theorem KeepR.below {r B : Nat} {X Y Z : World} (k : KeepR r Y Z) (h : Below B X Y) (hr : B ≤ r) : Below B X Z :=
  ⟨k.2.1.trans h.os, k.2.2.1.trans h.tape, k.2.2.2.1.trans h.output, by rw [k.1]; exact h.size, fun i hi => (k.2.2.2.2 i (by omega)).trans (h.block i hi)⟩
end Go.Proofs.YtafidbjaeopciaaDoor

/-
  Two facts of packets of IPv4 in fragments. No program. Conditions are each theorem's own.
-/
namespace Go.Proofs.YtafidbjaeopciaaDoor
open Go.RowKit

theorem off_bd {q : P4} (h : chk4 q = 0) : 0 ≤ q.off ∧ q.off ≤ 65535 := by
  obtain ⟨⟨_, _, _, _, _, _, _, _, _, _, _, _, a13, a14, _, _, _, _⟩, _, _⟩ := chk4_ok h
  exact ⟨a13, by omega⟩
theorem mem_datas {l : List P4} {x : P4} (h : x ∈ l) : x.dat.length ≤ (datas l).length := by
  induction l with
  | nil => cases h
  | cons a l ih =>
    unfold datas at ih ⊢
    rw [List.flatMap_cons, List.length_append]
    rcases List.mem_cons.1 h with rfl | h
    · omega
    · have := ih h; omega
theorem datas_le : ∀ (l : List P4) (m : Nat), (∀ q ∈ l, q.dat.length ≤ m) → (datas l).length ≤ l.length * m
  | [], _, _ => by simp [datas]
  | a :: l, m, h => by
    have h1 := datas_le l m (fun q hq => h q (List.mem_cons_of_mem _ hq))
    have h2 := h a (List.mem_cons_self ..)
    unfold datas at h1 ⊢
    rw [List.flatMap_cons, List.length_append, List.length_cons, Nat.add_mul]; omega
end Go.Proofs.YtafidbjaeopciaaDoor

/-
  Contract of the document's Glue of layer 13. Conditions are each theorem's own.
-/
namespace Go.Proofs.YtafidbjaeopciaaDoor
open Go.RowKit Go.Shelf

theorem own_keepB {w w' : World} {base E n n' s s' e e' : Nat} {v v' : Value} {xs xs' : List Value} (h : w.ownsRow base e s v n xs) (hs : ∀ k, v.ownBlock = some k → k < E) (hv : w.ownsRow E e' s' v' n' xs') (hg : w.grownBy w' v'.ownBlock) : w'.ownsRow base e s v n xs := by
  refine h.kept hg ?_
  rcases h.2 with ⟨rfl, _⟩ | ⟨g, cap, cur, rfl, _, hgb, _⟩
  · exact .inl rfl
  · refine .inr fun e1 => ?_
    rcases hv.2 with ⟨rfl, _⟩ | ⟨g2, cap2, cur2, rfl, hb2, hgb2, _⟩
    · simp [Value.ownBlock] at e1
    · have e2 : g = g2 := by simpa [Value.ownBlock] using e1
      have := hs g (by simp [Value.ownBlock])
      omega
end Go.Proofs.YtafidbjaeopciaaDoor

/-
  Parts as they lie in memory; contracts of the document's answers of layer 15 that read them. Conditions are each theorem's own.
-/
namespace Go.Proofs.YtafidbjaeopciaaDoor
open Go.RowKit Go.Shelf

/-- A part, and where its bytes lie. -/
structure XP where
  p : Pc
  A : Option Addr
  c : Nat
def clP (x : XP) : List Value := [.int .i64 x.p.off, .bool x.p.more, .slice x.A x.p.b.length x.c]
def piE (l : List XP) : List Pc := l.map (·.p)
def okP (p : Pc) : Prop := 0 ≤ p.off ∧ p.stop ≤ 65535
/-- At ⟨g, o⟩ lies a slice of parts; what it reaches lies below block B. -/
structure Ho (w : World) (B g o : Nat) (A : Option Addr) (c : Nat) (l : List XP) : Prop where
  cell : w.cell? ⟨g, o, none⟩ = some (.slice A l.length c)
  gB : g < B
  cap : l.length ≤ c
  rd : RdS clP 3 w B A l
  arg : ∀ x ∈ l, Arg w B x.A x.c x.p.b
  ok : ∀ x ∈ l, okP x.p
  n : l.length ≤ 100000
  none_ : A = none → c = 0
theorem Ho.below {w w' : World} {B g o : Nat} {A : Option Addr} {c : Nat} {l : List XP} (h : Ho w B g o A c l) (hb : Below B w w') : Ho w' B g o A c l :=
  ⟨(hb.cell h.gB).trans h.cell, h.gB, h.cap, h.rd.below hb, fun x hx => (h.arg x hx).below hb, h.ok, h.n, h.none_⟩
theorem Ho.more {w : World} {B B' g o : Nat} {A : Option Addr} {c : Nat} {l : List XP} (h : Ho w B g o A c l) (hB : B ≤ B') : Ho w B' g o A c l :=
  ⟨h.cell, Nat.lt_of_lt_of_le h.gB hB, h.cap, h.rd.more hB, fun x hx => (h.arg x hx).more hB, h.ok, h.n, h.none_⟩
theorem farP_nn : ∀ l : List Pc, 0 ≤ farP l
  | [] => Int.le_refl _
  | x :: l => by have := farP_nn l; rw [farP]; omega
theorem bytesP_le {n : Int} (hn : 0 ≤ n) : ∀ l : List Pc, (∀ x ∈ l, x.len ≤ n) → 0 ≤ bytesP l ∧ bytesP l ≤ n * (l.length : Int)
  | [], _ => by simp [bytesP]
  | x :: l, h => by
    obtain ⟨h1, h2⟩ := bytesP_le hn l (fun y hy => h y (List.mem_cons_of_mem _ hy))
    have h3 := h x (List.mem_cons_self ..)
    have h4 : 0 ≤ x.len := Int.natCast_nonneg _
    simp only [bytesP, List.length_cons]
    refine ⟨by omega, ?_⟩
    rw [show n * ((l.length + 1 : Nat) : Int) = n * (l.length : Int) + n by rw [Int.natCast_add, Int.mul_add]; simp]
    omega
theorem cover_cons (x : Pc) (l : List Pc) (a : Int) : coverP (x :: l) a = ((decide (x.off ≤ a) && decide (a < x.stop)) || coverP l a) := by simp [coverP]
end Go.Proofs.YtafidbjaeopciaaDoor

/-
  Contracts of the document's same, shares and Room of layer 15. Conditions are each theorem's own.
-/
namespace Go.Proofs.YtafidbjaeopciaaDoor
open Go.RowKit Go.Shelf

theorem clP_one (x : XP) : (clP x).toArray.all (·.oneCell') = true := by simp [clP, Value.oneCell']
theorem same_cons (x : Pc) (l : List Pc) (a : Int) (m : Bool) (b : List UInt8) : sameP (x :: l) ⟨a, m, b⟩ = (((x.off == a) && (x.more == m) && decide (x.b = b)) || sameP l ⟨a, m, b⟩) := by
  obtain ⟨x1, x2, x3⟩ := x
  rw [sameP, sameP, List.any_cons]
  congr 1
  rw [Bool.eq_iff_iff]
  simp [and_assoc]
theorem sharing_iff {x p : Pc} : sharing x p = true ↔ (0 < x.len ∧ 0 < p.len ∧ x.off < p.stop ∧ p.off < x.stop) ∨ (x.off = p.off ∧ x.len = 0 ∧ p.len = 0) := by
  simp only [sharing, Bool.or_eq_true, Bool.and_eq_true, decide_eq_true_eq, beq_iff_eq, and_assoc]
theorem shares_cons (x : Pc) (l : List Pc) (p : Pc) : sharesP (x :: l) p = (sharing x p || sharesP l p) := by simp [sharesP]
end Go.Proofs.YtafidbjaeopciaaDoor

/-
  Contracts of what the code of layer 15 asks of single parts. Conditions are each theorem's own.
-/
namespace Go.Proofs.YtafidbjaeopciaaDoor
open Go.RowKit Go.Shelf

theorem cells_at {w : World} {g i : Nat} {cs : Array Value} {ty : TypeId} {fr : Nat × Nat} {v : Value} (h : w.heap[g]? = some (.cells cs ty fr)) (hi : cs[i]? = some v) : w.cell? ⟨g, i, none⟩ = some v := by
  simp [World.cell?, h, hi]
end Go.Proofs.YtafidbjaeopciaaDoor

/-
  Contracts of meets, of the library's ContainsFunc at parts, of place and near of layer 15. Conditions are each theorem's own.
-/
namespace Go.Proofs.YtafidbjaeopciaaDoor
open Go.RowKit Go.Shelf
theorem min_if (a b : Int) : (if b < a then b else a) = min a b := by omega
/-! ### ContainsFunc -/
theorem row_of {w : World} {B : Nat} {A : Option Addr} {l : List XP} (h : RdS clP 3 w B A l) {k : Nat} {x : XP} (hx : l[k]? = some x) : ∃ b o, A = some ⟨b, o, none⟩ ∧ b < B ∧ w.rangeAt b (o + k * 3) (clP x) := by
  obtain ⟨b, o, e, hb, hr⟩ := h (by have := (List.getElem?_eq_some_iff.1 hx).1; omega)
  exact ⟨b, o, e, hb, hr k x hx⟩
/-! ### Search -/
end Go.Proofs.YtafidbjaeopciaaDoor

/-
  Parts that the code keeps, as they lie in memory; contracts of isMade, place and near of layer 15. Conditions are each theorem's own.
-/
namespace Go.Proofs.YtafidbjaeopciaaDoor
open Go.RowKit Go.Shelf
/-- At block g lies what the code of layer 15 keeps. -/
structure Hv (w : World) (g : Nat) (A : Option Addr) (c : Nat) (L : List XP) : Prop where
  made : w.cell? ⟨g, 0, none⟩ = some (.bool true)
  parts : w.cell? ⟨g, 1, none⟩ = some (.slice A L.length c)
  bytes : w.cell? ⟨g, 2, none⟩ = some (.int .i64 (bytesP (piE L)))
  far : w.cell? ⟨g, 3, none⟩ = some (.int .i64 (farP (piE L)))
  ended : w.cell? ⟨g, 4, none⟩ = some (.bool (endedP (piE L)))
  rd : RdS clP 3 w w.heap.size A L
  arg : ∀ x ∈ L, Arg w w.heap.size x.A x.c x.p.b
  cap : L.length ≤ c
  none_ : A = none → c = 0
  ris : Ris (piE L)
  n : L.length ≤ 100000
theorem Hv.lt {w : World} {g : Nat} {A : Option Addr} {c : Nat} {L : List XP} (h : Hv w g A c L) : g < w.heap.size := cell_block h.made
theorem Hv.below {w w' : World} {g : Nat} {A : Option Addr} {c : Nat} {L : List XP} (h : Hv w g A c L) (hb : Below w.heap.size w w') : Hv w' g A c L :=
  ⟨(hb.cell (p := ⟨g, 0, none⟩) h.lt).trans h.made, (hb.cell (p := ⟨g, 1, none⟩) h.lt).trans h.parts, (hb.cell (p := ⟨g, 2, none⟩) h.lt).trans h.bytes, (hb.cell (p := ⟨g, 3, none⟩) h.lt).trans h.far,
   (hb.cell (p := ⟨g, 4, none⟩) h.lt).trans h.ended, (h.rd.below hb).more hb.size, fun x hx => ((h.arg x hx).below hb).more hb.size, h.cap, h.none_, h.ris, h.n⟩
/-- Where a slice of a slice of parts begins. -/
def cutQ (A : Option Addr) (c lo : Nat) : Option Addr := if c = lo then A else A.map (·.add (lo * 3))
theorem RdS.cutQ {w : World} {B : Nat} {A : Option Addr} {c : Nat} {l : List XP} (h : RdS clP 3 w B A l) (hc : l.length ≤ c) (lo k : Nat) : RdS clP 3 w B (cutQ A c lo) ((l.drop lo).take k) := by
  intro hn
  have hlo : lo < l.length := by simp at hn; omega
  obtain ⟨b, o, rfl, hb, hr⟩ := h (by omega)
  refine ⟨b, o + lo * 3, by simp [Go.Proofs.YtafidbjaeopciaaDoor.cutQ, show ¬ c = lo by omega, add_off], hb, fun j x hx => ?_⟩
  rw [List.getElem?_take] at hx
  split at hx
  · rw [List.getElem?_drop] at hx
    have := hr (lo + j) x hx
    rwa [Nat.add_mul, ← Nat.add_assoc] at this
  · cases hx
theorem at_unique {L : List XP} (h : Ris (piE L)) (off : Int) {m : Nat} (hm : m ≤ L.length) (h1 : ∀ (t : Nat) (x : XP), t < m → L[t]? = some x → ¬ x.p.off ≥ off) (h2 : ∀ (t : Nat) (x : XP), m ≤ t → L[t]? = some x → x.p.off ≥ off) : m = atP (piE L) off := by
  have hl : (piE L).length = L.length := by simp [piE]
  have ha := atP_le (piE L) off
  have get : ∀ (t : Nat) (x : XP), L[t]? = some x → (piE L)[t]? = some x.p := fun t x hx => by rw [piE, List.getElem?_map, hx]; rfl
  rcases Nat.lt_trichotomy m (atP (piE L) off) with g | g | g
  · obtain ⟨x, hx⟩ : ∃ x, L[m]? = some x := ⟨_, List.getElem?_eq_getElem (by omega)⟩
    have := h2 m x (Nat.le_refl _) hx
    have := (at_lt h off (get m x hx)).1 g
    omega
  · exact g
  · obtain ⟨x, hx⟩ : ∃ x, L[atP (piE L) off]? = some x := ⟨_, List.getElem?_eq_getElem (by omega)⟩
    have := h1 _ x g hx
    have := (at_lt h off (get _ x hx)).2 (Nat.le_refl _)
    omega
/-- The parts on both sides of a place, with where they lie. -/
def nearX (L : List XP) (off : Int) : List XP := (L.drop (atP (piE L) off - 1)).take (min (atP (piE L) off + 1) L.length - (atP (piE L) off - 1))
theorem nearX_p (L : List XP) (off : Int) : piE (nearX L off) = nearP (piE L) off := by
  simp only [nearX, nearP, piE, List.map_take, List.map_drop, List.length_map]
theorem nearX_sub {L : List XP} {off : Int} : ∀ x ∈ nearX L off, x ∈ L := fun _ hx => List.mem_of_mem_drop (List.mem_of_mem_take hx)
theorem nearX_len (L : List XP) (off : Int) : (nearX L off).length = min (atP (piE L) off + 1) L.length - (atP (piE L) off - 1) := by
  have := atP_le (piE L) off
  have hl : (piE L).length = L.length := by simp [piE]
  rw [nearX, List.length_take, List.length_drop]; omega
end Go.Proofs.YtafidbjaeopciaaDoor

/-
  What layer 18's code keeps: a table, its array of places; New, places and the iterator over them. Conditions are each theorem's own.
-/
namespace Go.Proofs.YtafidbjaeopciaaDoor
open Go.RowKit Go.Shelf
attribute [local go_sem] Oper.semAt_some

theorem run_load_hstp {o : Oper} {a : Act} {w : World} {x : Operand} {p : Addr} {A : Option Addr} (ho : o.op = .load 57 x) (hx : a.eval x = .pointer (some p)) (hc : w.cell? p = some (.pointer A)) :
    (execOp a.eval o).run Tryd.prog w = .ok (.value (.pointer A)) w := by
  unfold execOp
  simp only [ho, hx, Instr.loadAt, Instr.sureAddr, Sem.run_bind, Sem.run_pure, Result.andThen_ok]
  go_simp
theorem run_load_hsar {o : Oper} {a : Act} {w : World} {x : Operand} {p : Addr} {A : Option Addr} {n c : Nat} (ho : o.op = .load 78 x) (hx : a.eval x = .pointer (some p)) (hc : w.cell? p = some (.slice A n c)) :
    (execOp a.eval o).run Tryd.prog w = .ok (.value (.slice A n c)) w := by
  unfold execOp
  simp only [ho, hx, Instr.loadAt, Instr.sureAddr, Sem.run_bind, Sem.run_pure, Result.andThen_ok]
  go_simp
theorem run_load_u64 {o : Oper} {a : Act} {w : World} {x : Operand} {p : Addr} {n : Int} (ho : o.op = .load 81 x) (hx : a.eval x = .pointer (some p)) (hc : w.cell? p = some (.int .u64 n)) :
    (execOp a.eval o).run Tryd.prog w = .ok (.value (.int .u64 n)) w := by
  unfold execOp
  simp only [ho, hx, Instr.loadAt, Instr.sureAddr, Sem.run_bind, Sem.run_pure, Result.andThen_ok]
  go_simp
theorem run_load_hsp {o : Oper} {a : Act} {w : World} {x : Operand} {g i : Nat} {cs : List Value} (ho : o.op = .load 85 x) (hx : a.eval x = .pointer (some ⟨g, i, none⟩)) (hr : w.rangeAt g i cs) (hl : cs.length = 4) :
    (execOp a.eval o).run Tryd.prog w = .ok (.value (.agg cs.toArray)) w := by
  have h := run_loadVar_mid (P := Tryd.prog) w g i 85 cs _ hr Tryd.underlying85 rfl (by rw [hl]; kernel_rfl)
  unfold execOp
  simp only [ho, hx, Instr.loadAt, Instr.sureAddr, Sem.run_bind, Sem.run_pure, Result.andThen_ok, h]

/-- A place's cells. -/
def clE : Option Ent → List Value
  | none => [.bool false, .int .u64 0, .string ByteArray.empty, .int .i64 0]
  | some e => [.bool true, .int .u64 (mkOf e.key), .string (strB e.key), .int .i64 e.n]
theorem clE_len (o : Option Ent) : (clE o).length = 4 := by cases o <;> rfl
theorem clE_one (o : Option Ent) : (clE o).toArray.all (·.oneCell') = true := by cases o <;> simp [clE, Value.oneCell']
/-- An array of places at b. -/
structure ArrH (w : World) (b : Nat) (L : List (Option Ent)) : Prop where
  obj : ∃ cur, w.heap[b]? = some (.cells cur 85 (0, 0)) ∧ cur.size = L.length * 4
  row : ∀ i o, L[i]? = some o → w.rangeAt b (i * 4) (clE o)
/-- A table at t, its array at b. -/
structure Hs (w : World) (t b : Nat) (cnt most : Int) (L : List (Option Ent)) : Prop where
  tab : w.heap[t]? = some (.cells #[.slice (some ⟨b, 0, none⟩) L.length L.length, .int .i64 cnt, .int .i64 most] 80 (0, 0))
  arr : ArrH w b L
theorem ArrH.new (w : World) (L : List (Option Ent)) : ArrH (w.alloc (.cells (L.flatMap clE).toArray 85)) w.heap.size L := by
  have h := World.alloc_heap_new w (.cells (L.flatMap clE).toArray 85)
  refine ⟨⟨_, h, by rw [List.size_toArray, flat_len L (fun x _ => clE_len x)]⟩, fun i o hi j v hv => ?_⟩
  rw [cell_of_row _ _ (i * 4 + j) _ _ _ h, List.getElem?_toArray]
  exact flat_at L (fun x _ => clE_len x) i o hi j v hv
theorem ArrH.keep {w w' : World} {b : Nat} {L : List (Option Ent)} (h : ArrH w b L) (hb : w'.heap[b]? = w.heap[b]?) : ArrH w' b L := by
  obtain ⟨cur, h1, h2⟩ := h.obj
  exact ⟨⟨cur, hb.trans h1, h2⟩, fun i o hi j v hv => (World.cell?_of_block hb).trans (h.row i o hi j v hv)⟩
theorem ArrH.lt {w : World} {b : Nat} {L : List (Option Ent)} (h : ArrH w b L) : b < w.heap.size := by
  obtain ⟨cur, h1, _⟩ := h.obj
  exact heap_lt h1
theorem heap_setCells {T : TypeId} (b : Nat) : ∀ (vs : List Value) (o : Nat) (w : World) (cur : Array Value), w.heap[b]? = some (.cells cur T (0, 0)) → ∃ cur', (w.setCells b o vs).heap[b]? = some (.cells cur' T (0, 0)) ∧ cur'.size = cur.size
  | [], _, _, cur, h => ⟨cur, h, rfl⟩
  | v :: vs, o, w, cur, h => by
    obtain ⟨cur', h1, h2⟩ := heap_setCells b vs (o + 1) (w.setCell ⟨b, o, none⟩ v) _ (heap_setCell_same w b o cur T v h)
    exact ⟨cur', h1, by rw [h2, Array.size_setIfInBounds]⟩
theorem ArrH.there {w : World} {b : Nat} {L : List (Option Ent)} (h : ArrH w b L) {i : Nat} (hi : i < L.length) : w.there b (i * 4) 4 := fun j hj => by
  obtain ⟨cur, h1, h2⟩ := h.obj
  refine ⟨?_, heap_frozen h1 _⟩
  rw [cell_of_row _ _ _ _ _ _ h1, Array.getElem?_eq_getElem (by rw [h2]; omega)]; rfl
theorem ArrH.set {w : World} {b : Nat} {L : List (Option Ent)} (h : ArrH w b L) {i : Nat} (hi : i < L.length) (o : Option Ent) : ArrH (w.setCells b (i * 4) (clE o)) b (L.set i o) := by
  obtain ⟨cur, h1, h2⟩ := h.obj
  obtain ⟨cur', h3, h4⟩ := heap_setCells b (clE o) (i * 4) w cur h1
  refine ⟨⟨cur', h3, by rw [h4, h2, List.length_set]⟩, fun j x hx => ?_⟩
  rw [List.getElem?_set] at hx
  split at hx
  · rename_i e
    subst e
    have hx : some o = some x := by simpa [hi] using hx
    obtain rfl := Option.some.inj hx
    exact World.rangeAt_setCells_same w b (i * 4) (clE o) (by rw [clE_len]; exact h.there hi)
  · exact World.rangeAt_setCells_apart (h.row j x hx) b (i * 4) (clE o) (.inr (by rw [clE_len, clE_len]; omega))
section
variable {w w' : World} {t b : Nat} {cnt most : Int} {L : List (Option Ent)}
theorem Hs.ne (h : Hs w t b cnt most L) : t ≠ b := fun e => by
  have h1 := h.tab
  obtain ⟨cur, h3, _⟩ := h.arr.obj
  rw [e, h3] at h1
  injection h1 with h1
  injection h1 with _ h2 _
  exact absurd h2 (nat_ne (by kernel_rfl))
theorem Hs.c0 (h : Hs w t b cnt most L) : w.cell? ⟨t, 0, none⟩ = some (.slice (some ⟨b, 0, none⟩) L.length L.length) := cells_at h.tab rfl
theorem Hs.c1 (h : Hs w t b cnt most L) : w.cell? ⟨t, 1, none⟩ = some (.int .i64 cnt) := cells_at h.tab rfl
theorem Hs.c2 (h : Hs w t b cnt most L) : w.cell? ⟨t, 2, none⟩ = some (.int .i64 most) := cells_at h.tab rfl
theorem Hs.keep (h : Hs w t b cnt most L) (h1 : w'.heap[t]? = w.heap[t]?) (h2 : w'.heap[b]? = w.heap[b]?) : Hs w' t b cnt most L := ⟨h1.trans h.tab, h.arr.keep h2⟩
theorem Hs.below (h : Hs w t b cnt most L) (hb : Below w.heap.size w w') : Hs w' t b cnt most L := h.keep (hb.block t (heap_lt h.tab)) (hb.block b h.arr.lt)
theorem Hs.at_ (h : Hs w t b cnt most L) {i : Nat} {o : Option Ent} (hi : L[i]? = some o) : w.rangeAt b (i * 4) (clE o) := h.arr.row i o hi
end
theorem plH_get {L : List (Option Ent)} {i : Nat} (hi : i < L.length) : L[i]? = some (plH L i) := by
  unfold plH
  rw [List.getElem?_eq_getElem hi]; rfl
theorem info_hsp : (Tryd.prog.info? 85).map (fun i => (i.zero, i.size, i.bytes)) = some (some (.agg (clE none).toArray), 4, 40) := by kernel_rfl
theorem made_flat (n : Nat) : madeCells (clE none).toArray (n * 4) = ((List.replicate n (none : Option Ent)).flatMap clE).toArray := by
  have hl := flat_len (cl := clE) (sz := 4) (List.replicate n none) (fun x _ => clE_len x)
  rw [List.length_replicate] at hl
  apply Array.ext
  · rw [size_madeCells, List.size_toArray, hl]
  · intro i h1 h2
    rw [size_madeCells] at h1
    have h3 : (List.replicate n (none : Option Ent))[i / 4]? = some none := by rw [List.getElem?_replicate, if_pos (by omega)]
    have h4 : i % 4 < (clE none).length := by rw [clE_len]; omega
    have h5 := flat_at (List.replicate n (none : Option Ent)) (fun x _ => clE_len x) (i / 4) none h3 (i % 4) _ (List.getElem?_eq_getElem h4)
    rw [show i / 4 * 4 + i % 4 = i from by omega] at h5
    rw [List.getElem?_eq_getElem (by rw [hl]; exact h1)] at h5
    refine Eq.trans ?_ (Option.some.inj h5).symm
    have hz : (clE none).toArray.size = 4 := rfl
    simp only [madeCells, Array.getElem_map, Array.getElem_range]
    show (clE none).toArray[i % 4]! = _
    rw [getElem!_pos _ _ (by rw [hz]; omega)]
    rfl
theorem run_mk_places (n : Nat) (w : World) (hn : n ≤ 1000000) : (Instr.makeSlice 78 (.int .i64 (n : Int)) (.int .i64 (n : Int))).run Tryd.prog w =
    .ok (.slice (some ⟨w.heap.size, 0, none⟩) n n) (w.alloc (.cells ((List.replicate n (none : Option Ent)).flatMap clE).toArray 85)) := by
  obtain ⟨i0, hi, hz0, hz1, hz2⟩ := info_parts info_hsp
  have h := run_make (P := Tryd.prog) w 78 85 i0 _ Tryd.underlying78 hi hz0 .i64 .i64 n n (by omega) (Int.le_refl _) (by rw [hz2]; omega) (by omega)
  rw [Int.toNat_natCast, hz1] at h
  rw [h, ← made_flat]; rfl
set_option maxRecDepth 100000 in
theorem hsnew_ok (most : Int) (w : World) (h0 : 0 ≤ most) (h1 : most ≤ 65536) : Calls Tryd.prog 22 #[.int .i64 most] w fun e w' =>
    e = .returned (.tuple #[.pointer (some ⟨w.heap.size + 1, 0, none⟩), .int .i64 0]) ∧ Hs w' (w.heap.size + 1) w.heap.size 0 most (List.replicate 8 none) ∧ Below w.heap.size w w' := by
  have d1 : decide (most < 0) = false := decide_eq_false (by omega)
  have d2 : decide (most > 65536) = false := decide_eq_false (by omega)
  have d3 : decide (65536 < most) = false := d2
  go_enter Tryd.func22, Tryd.ntmps22
  have hmk : ∀ w, (Instr.makeSlice 78 (.int .i64 8) (.int .i64 8)).run Tryd.prog w = .ok (.slice (some ⟨w.heap.size, 0, none⟩) 8 8) (w.alloc (.cells ((List.replicate 8 (none : Option Ent)).flatMap clE).toArray 85)) := fun w => run_mk_places 8 w (by decide)
  generalize hR : ((List.replicate 8 (none : Option Ent)).flatMap clE).toArray = R8 at hmk
  go_wp2
  refine bodyPost_ret (results_tmp2 rfl _ _ _) rfl ⟨rfl, ⟨?_, ?_⟩, ((Below.refl _ w).alloc (Nat.le_refl _) _).alloc (by simp) _⟩
  · have := World.alloc_heap_new (w.alloc (.cells R8 85)) (.cells #[.slice (some ⟨w.heap.size, 0, none⟩) 8 8, .int .i64 0, .int .i64 most] 80)
    rw [World.size_alloc] at this
    exact this
  · rw [← hR]
    exact (ArrH.new w _).keep (Below.heap_alloc _ _ _ (by simp))
theorem hsnew_bad (most : Int) (w : World) (h : most < 0 ∨ most > 65536) : Calls Tryd.prog 22 #[.int .i64 most] w fun e w' => e = .returned (.tuple #[.pointer none, .int .i64 1]) ∧ w = w' := by
  by_cases h1 : most < 0
  · have d1 : decide (most < 0) = true := decide_eq_true h1
    clear h
    go_enter Tryd.func22, Tryd.ntmps22
    go_wp2
    exact bodyPost_ret (results_tmp2 rfl _ _ _) rfl ⟨rfl, rfl⟩
  · have d1 : decide (most < 0) = false := decide_eq_false h1
    have d2 : decide (most > 65536) = true := decide_eq_true (by omega)
    have d3 : decide (65536 < most) = true := d2
    clear h
    go_enter Tryd.func22, Tryd.ntmps22
    go_wp2
    exact bodyPost_ret (results_tmp2 rfl _ _ _) rfl ⟨rfl, rfl⟩
/-- What the iterator over places reads. -/
def Cel3 (g1 g2 t b N fr : Nat) (w : World) : Prop :=
  w.cell? ⟨g1, 0, none⟩ = some (.pointer (some ⟨t, 0, none⟩)) ∧ w.cell? ⟨g2, 0, none⟩ = some (.int .i64 (fr : Int)) ∧ w.cell? ⟨t, 0, none⟩ = some (.slice (some ⟨b, 0, none⟩) N N)
def ps3 (g1 g2 t : Nat) : List Addr := [⟨g1, 0, none⟩, ⟨g2, 0, none⟩, ⟨t, 0, none⟩]
theorem Cel3.keep {g1 g2 t b N fr : Nat} {X Y : World} (h : Cel3 g1 g2 t b N fr X) (k : KeepC (ps3 g1 g2 t) X Y) : Cel3 g1 g2 t b N fr Y :=
  ⟨(k _ (by simp [ps3])).trans h.1, (k _ (by simp [ps3])).trans h.2.1, (k _ (by simp [ps3])).trans h.2.2⟩
def encP (x : Nat) : Array Value := #[.int .i64 (x : Int)]
/-- What is known of a place when it comes. -/
def GP (N fr : Nat) (pre : List Nat) (x : Nat) (_ : World) : Prop := x = rnd N fr pre.length ∧ pre.length < N
theorem hsplaces (t fr : Nat) (w : World) : Calls Tryd.prog 41 #[.pointer (some ⟨t, 0, none⟩), .int .i64 (fr : Int)] w fun e w' =>
    e = .returned (.func (.func 46) #[] #[.pointer (some ⟨w.heap.size, 0, none⟩), .pointer (some ⟨w.heap.size + 1, 0, none⟩)]) ∧ w' = (w.alloc (.cells #[.pointer (some ⟨t, 0, none⟩)] 57)).alloc (.cells #[.int .i64 (fr : Int)] 3) := by
  go_enter Tryd.func41, Tryd.ntmps41
  go_wp2
  go_ret
  exact ⟨rfl, rfl⟩
theorem frm_mod {N fr k : Nat} (hf : fr ≤ N) (hk : k < N) : ((fr : Int) + (k : Int)) % (N : Int) = ((rnd N fr k : Nat) : Int) := by
  rw [← rnd_mod hf hk]; simp
set_option maxRecDepth 100000 in
set_option maxHeartbeats 4000000 in
theorem places1_in (m : Nat) (l g1 g2 t b N fr : Nat) (J Jx : List Nat → World → Prop) (W : World) (hJA0 : AbidesFrom W.heap.size J) (hJxS : ∀ pre Y, Jx pre Y → Cel3 g1 g2 t b N fr Y)
    (hY : ∀ pre x X, J pre X → GP N fr pre x X → YieldAt Fence.wide (m - 1) Tryd.prog l (encP x) X fun e Y =>
      (e = .returned (.bool true) ∧ J (pre ++ [x]) Y ∧ KeepC (ps3 g1 g2 t) X Y) ∨ (e = .returned (.bool false) ∧ Jx (pre ++ [x]) Y))
    (hC : Cel3 g1 g2 t b N fr W) (hN : N ≤ 1000000) (hfr : fr ≤ N) (hJ : J [] W) :
    CallsIn Fence.wide m Tryd.prog 46 #[.func (.yield l) #[] #[], .pointer (some ⟨g1, 0, none⟩), .pointer (some ⟨g2, 0, none⟩)] W fun e W' => (∃ v, e = .returned v) ∧
      ((∃ xs, xs = (List.range N).map (rnd N fr) ∧ J xs W') ∨ (∃ pre : List Nat, True ∧ Jx pre W')) := by
  have hJA := hJA0
  have hC1 := hC.1
  have hC3 := hC.2.2
  clear hJA0
  refine callsIn_of_wp Tryd.func46 rfl trivial ?_ rfl
  simp only [Tryd.ntmps46, List.size_toArray, List.length_cons, List.length_nil, Nat.reduceAdd, Nat.reduceSub, Array.replicate_succ, Array.replicate_zero, List.push_toArray, List.append_toArray, List.nil_append, List.cons_append]
  gi_wp2_with (first
    | ((with_reducible show wpListIn _ _ _ _ _ (Oper.mkOf _ (Op.load 57 _) _ _ _ _ :: _) _ _); refine listW_val rfl (fun c h => by cases h) (run_load_hstp rfl rfl hC1) ?_)
    | ((with_reducible show wpListIn _ _ _ _ _ (Oper.mkOf _ (Op.load 78 _) _ _ _ _ :: _) _ _); refine listW_val rfl (fun c h => by cases h) (run_load_hsar rfl rfl hC3) ?_))
  gi_loopw [10] (fun i wr => ∃ (k : Nat) (pre : List Nat), k ≤ N ∧ i = .int .i64 (k : Int) ∧ Hid (pre.length = k) ∧ Hid (pre = (List.range k).map (rnd N fr)) ∧ J pre wr ∧ Cel3 g1 g2 t b N fr wr)
    (fun i _ => N - (intOf i).toNat)
  case atStart => exact ⟨0, [], Nat.zero_le _, rfl, Lib.hid rfl, Lib.hid rfl, hJ, hC⟩
  case round =>
    obtain ⟨k, pre, hk, rfl, HPL, HPR, hJs, hSc⟩ := hrel
    by_cases hlt : k < N
    · have HAD : Hid (IntKind.i64.wrap ((fr : Int) + (k : Int)) = (fr : Int) + (k : Int)) := Lib.hid (IntWalk.i64_in _ (by omega))
      have HMD := Lib.hid (frm_mod hfr hlt)
      have hJA' := (fun pre A B r h1 h2 h3 => hJA pre A B r h1 h2 h3 : AbidesFrom W.heap.size J)
      clear hC hC1 hC3
      gi_upto_region 3 with fail
      refine regionI (S := Cel3 g1 g2 t b N fr) (by kernel_rfl) hSc (fun hS => ?_)
      refine pureI (i := 0) (oi := ⟨some 13, _, _, _, _, _⟩) rfl (by kernel_rfl) (by kernel_rfl) (by kernel_rfl) (fun _ _ _ h => h) (by rfl) (v := ?_) (fun w hSw => ?_) hS (fun hS => ?_)
      rotate_left
      · go_simp; try with_reducible rfl
      try go_frame
      refine pureI (i := 1) (oi := ⟨some 14, _, _, _, _, _⟩) rfl (by kernel_rfl) (by kernel_rfl) (by kernel_rfl) (fun _ _ _ h => h) (by rfl) (fun w hSw => run_load_int rfl rfl hSw.2.1) hS (fun hS => ?_)
      try go_frame
      refine pureI (i := 2) (oi := ⟨some 15, _, _, _, _, _⟩) rfl (by kernel_rfl) (by kernel_rfl) (by kernel_rfl) (fun _ _ _ h => h) (by rfl) (v := ?_) (fun w hSw => ?_) hS (fun hS => ?_)
      rotate_left
      · go_simp; try with_reducible rfl
      try go_frame
      refine pureI (i := 3) (oi := ⟨some 16, _, _, _, _, _⟩) rfl (by kernel_rfl) (by kernel_rfl) (by kernel_rfl) (fun _ _ _ h => h) (by rfl) (v := .int .i64 ((fr : Int) + (k : Int))) (fun w hSw => by go_simp; try exact HAD.out) hS (fun hS => ?_)
      try go_frame
      refine pureI (i := 4) (oi := ⟨some 17, _, _, _, _, _⟩) rfl (by kernel_rfl) (by kernel_rfl) (by kernel_rfl) (fun _ _ _ h => h) (by rfl) (fun w hSw => run_load_hstp rfl rfl hSw.1) hS (fun hS => ?_)
      try go_frame
      refine pureI (i := 5) (oi := ⟨some 18, _, _, _, _, _⟩) rfl (by kernel_rfl) (by kernel_rfl) (by kernel_rfl) (fun _ _ _ h => h) (by rfl) (v := ?_) (fun w hSw => ?_) hS (fun hS => ?_)
      rotate_left
      · go_simp; try with_reducible rfl
      try go_frame
      refine pureI (i := 6) (oi := ⟨some 19, _, _, _, _, _⟩) rfl (by kernel_rfl) (by kernel_rfl) (by kernel_rfl) (fun _ _ _ h => h) (by rfl) (v := ?_) (fun w hSw => ?_) hS (fun hS => ?_)
      rotate_left
      · go_simp; try with_reducible rfl
      try go_frame
      refine pureI (i := 7) (oi := ⟨some 20, _, _, _, _, _⟩) rfl (by kernel_rfl) (by kernel_rfl) (by kernel_rfl) (fun _ _ _ h => h) (by rfl) (fun w hSw => run_load_hsar rfl rfl hSw.2.2) hS (fun hS => ?_)
      try go_frame
      refine pureI (i := 8) (oi := ⟨some 21, _, _, _, _, _⟩) rfl (by kernel_rfl) (by kernel_rfl) (by kernel_rfl) (fun _ _ _ h => h) (by rfl) (v := ?_) (fun w hSw => ?_) hS (fun hS => ?_)
      rotate_left
      · go_simp; try with_reducible rfl
      try go_frame
      refine pureI (i := 9) (oi := ⟨some 22, _, _, _, _, _⟩) rfl (by kernel_rfl) (by kernel_rfl) (by kernel_rfl) (fun _ _ _ h => h) (by rfl) (v := .int .i64 ((rnd N fr k : Nat) : Int)) (fun w hSw => by go_simp; rw [if_neg (by omega), Int.tmod_eq_emod_of_nonneg (by omega), HMD.out]) hS (fun hS => ?_)
      try go_frame
      refine oneI (i := 10) (oi := ⟨some 23, _, _, _, _, _⟩) (by kernel_rfl) rfl (by rfl) (fun K hK => ?_)
      refine yieldI (l := l) (args := encP (rnd N fr k)) (by go_simp; try rfl) (hY pre (rnd N fr k) _ (hJA' pre _ _ none hJs (grown_none (Below.refl _ wr).drew) (fun _ e => by cases e)) ⟨by rw [HPL.out], by rw [HPL.out]; exact hlt⟩) ?_
      rintro e W3 (⟨rfl, hJ3, hk3⟩ | ⟨rfl, hJx3⟩)
      · have hS3 : Cel3 g1 g2 t b N fr W3 := hSc.keep hk3
        refine ⟨_, rfl, hK _ _ hS3 (fun hS => ?_)⟩
        clear hK K
        try go_frame
        refine pureI (i := 11) (oi := ⟨some 24, _, _, _, _, _⟩) rfl (by kernel_rfl) (by kernel_rfl) (by kernel_rfl) (fun _ _ _ h => h) (by rfl) (v := ?_) (fun w hSw => ?_) hS (fun hS => ?_)
        rotate_left
        · go_simp; try with_reducible rfl
        try go_frame
        refine doneI (by kernel_rfl) ?_ _
        gi_wp2
        go_roundw
        case rel => exact ⟨k + 1, pre ++ [rnd N fr k], by omega, by simp, Lib.hid (by rw [List.length_append, HPL.out]; rfl), Lib.hid (by rw [HPR.out, List.range_succ, List.map_append]; rfl), hJ3, hS3⟩
        case measure => simp [intOf]; omega
      · refine ⟨_, rfl, hK _ _ (hJxS _ _ hJx3) (fun hS => ?_)⟩
        clear hK K
        try go_frame
        refine pureI (i := 11) (oi := ⟨some 24, _, _, _, _, _⟩) rfl (by kernel_rfl) (by kernel_rfl) (by kernel_rfl) (fun _ _ _ h => h) (by rfl) (v := ?_) (fun w hSw => ?_) hS (fun hS => ?_)
        rotate_left
        · go_simp; try with_reducible rfl
        try go_frame
        refine doneI (by kernel_rfl) ?_ _
        gi_wp2
        refine bodyPost_ret (results_none rfl _ _ _) rfl ?_
        exact ⟨⟨_, rfl⟩, .inr ⟨_, trivial, hJx3⟩⟩
    · obtain rfl : N = k := by omega
      gi_wp2
      try rw [Exit.noGoto_normal]
      go_end0
      exact ⟨⟨_, rfl⟩, .inl ⟨_, HPR.out, hJs⟩⟩
end Go.Proofs.YtafidbjaeopciaaDoor

/-
  find of layer 18's code. Conditions are each theorem's own.
-/
namespace Go.Proofs.YtafidbjaeopciaaDoor
open Go.RowKit Go.Shelf
attribute [local go_sem] Oper.semAt_some

/-- Q, where nothing panics. -/
def noPanic (Q : Exit → Act → World → Prop) : Exit → Act → World → Prop
  | .panic _, _, _ => False
  | e, a, w => Q e a w
theorem noPanic_to {Q : Exit → Act → World → Prop} (e : Exit) (a : Act) (w : World) (h : noPanic Q e a w) : Q e a w := by
  cases e <;> first | exact h | exact h.elim
theorem noPanic_normal {Q : Exit → Act → World → Prop} {a : Act} {w : World} (h : Q .normal a w) : noPanic Q .normal a w := h
/-- Five blocks of find's own. -/
structure Fbx (W : World) (B t : Nat) (key : List UInt8) (r : Int) (f : Bool) : Prop where
  b0 : Boxed W B 57 (.pointer (some ⟨t, 0, none⟩))
  b1 : Boxed W (B + 1) 9 (.string (strB key))
  b2 : Boxed W (B + 1 + 1) 81 (.int .u64 (mkOf key))
  b3 : Boxed W (B + 1 + 1 + 1) 3 (.int .i64 r)
  b4 : Boxed W (B + 1 + 1 + 1 + 1) 4 (.bool f)
section
variable {W V : World} {B t n : Nat} {key : List UInt8} {r : Int} {f : Bool}
theorem Fbx.sz (h : Fbx W B t key r f) : B + 5 ≤ W.heap.size := by have := heap_lt (show W.heap[B + 1 + 1 + 1 + 1]? = _ from h.b4); omega
theorem Fbx.below (h : Fbx W B t key r f) (hb : Below n W V) (hn : B + 1 + 1 + 1 + 1 < n) : Fbx V B t key r f :=
  ⟨Boxed.below h.b0 hb (by omega), Boxed.below h.b1 hb (by omega), Boxed.below h.b2 hb (by omega), Boxed.below h.b3 hb (by omega), Boxed.below h.b4 hb hn⟩
theorem Fbx.kept {row : Option Nat} (h : Fbx W B t key r f) (hg : W.grownBy V row) (hr : ∀ k, row = some k → n ≤ k ∧ ∃ o : Obj, W.heap[k]? = some o ∧ o.isCells = false) : Fbx V B t key r f :=
  ⟨box_keep h.b0 hg hr, box_keep h.b1 hg hr, box_keep h.b2 hg hr, box_keep h.b3 hg hr, box_keep h.b4 hg hr⟩
theorem Fbx.set (h : Fbx W B t key r f) (r' : Int) (f' : Bool) : Fbx ((W.setCell ⟨B + 1 + 1 + 1, 0, none⟩ (.int .i64 r')).setCell ⟨B + 1 + 1 + 1 + 1, 0, none⟩ (.bool f')) B t key r' f' :=
  ⟨(h.b0.other (by omega) _).other (by omega) _, (h.b1.other (by omega) _).other (by omega) _, (h.b2.other (by omega) _).other (by omega) _, (Boxed.set _ h.b3).other (by omega) _, Boxed.set _ (h.b4.other (by omega) _)⟩
end
theorem Fbx.drew {W : World} {B t : Nat} {key : List UInt8} {r : Int} {f : Bool} (h : Fbx W B t key r f) : Fbx W.drew B t key r f := ⟨h.b0, h.b1, h.b2, h.b3, h.b4⟩
theorem Fbx.new (w : World) (t : Nat) (key : List UInt8) (W : World) (hW : W = ((((w.alloc (.cells #[.pointer (some ⟨t, 0, none⟩)] 57)).alloc (.cells #[.string (strB key)] 9)).alloc (.cells #[.int .u64 (mkOf key)] 81)).alloc (.cells #[.int .i64 0] 3)).alloc (.cells #[.bool false] 4)) :
    Fbx W w.heap.size t key 0 false ∧ Below w.heap.size w W := by
  have a1 : ∀ (V : World) (g : Nat) (T : TypeId) (v : Value), V.heap.size = g → Boxed (V.alloc (.cells #[v] T)) g T v := fun V g T v e => by subst e; exact Boxed.new V T v
  have hB : Below w.heap.size w W := by rw [hW]; exact (((((Below.refl w.heap.size w).alloc (Nat.le_refl _) _).alloc (by simp) _).alloc (by simp; omega) _).alloc (by simp; omega) _).alloc (by simp; omega) _
  refine ⟨?_, hB⟩
  rw [hW]
  exact ⟨((((a1 _ _ _ _ (by first | rfl | simp)).alloc _).alloc _).alloc _).alloc _, (((a1 _ _ _ _ (by first | rfl | simp)).alloc _).alloc _).alloc _, ((a1 _ _ _ _ (by first | rfl | simp)).alloc _).alloc _, (a1 _ _ _ _ (by first | rfl | simp)).alloc _, a1 _ _ _ _ (by first | rfl | simp)⟩
theorem places_below {w W : World} {t fr : Nat} (h : W = (w.alloc (.cells #[.pointer (some ⟨t, 0, none⟩)] 57)).alloc (.cells #[.int .i64 (fr : Int)] 3)) : Below w.heap.size w W := by
  rw [h]; exact ((Below.refl _ w).alloc (Nat.le_refl _) _).alloc (by simp) _
theorem places_cel {w W : World} {t b N fr : Nat} (h : W = (w.alloc (.cells #[.pointer (some ⟨t, 0, none⟩)] 57)).alloc (.cells #[.int .i64 (fr : Int)] 3)) (ht : w.cell? ⟨t, 0, none⟩ = some (.slice (some ⟨b, 0, none⟩) N N)) : Cel3 w.heap.size (w.heap.size + 1) t b N fr W := by
  have htl := cell_block ht
  refine ⟨?_, ?_, ((places_below h).cell (p := ⟨t, 0, none⟩) htl).trans ht⟩
  · rw [h]
    exact Boxed.cell ((Boxed.new w 57 (.pointer (some ⟨t, 0, none⟩))).alloc _)
  · rw [h]
    have := Boxed.new (w.alloc (.cells #[.pointer (some ⟨t, 0, none⟩)] 57)) 3 (.int .i64 (fr : Int))
    rw [World.size_alloc] at this
    exact Boxed.cell this
theorem Cel3.kept {g1 g2 t b N fr n : Nat} {W V : World} {row : Option Nat} (h : Cel3 g1 g2 t b N fr W) (hg : W.grownBy V row) (hr : ∀ k, row = some k → n ≤ k ∧ ∃ o : Obj, W.heap[k]? = some o ∧ o.isCells = false) : Cel3 g1 g2 t b N fr V :=
  ⟨cell_kept h.1 hg (fun k e => (hr k e).2), cell_kept h.2.1 hg (fun k e => (hr k e).2), cell_kept h.2.2 hg (fun k e => (hr k e).2)⟩
theorem Cel3.below {g1 g2 t b N fr n : Nat} {W V : World} (h : Cel3 g1 g2 t b N fr W) (hb : Below n W V) (h1 : g1 < n) (h2 : g2 < n) (h3 : t < n) : Cel3 g1 g2 t b N fr V :=
  h.keep (KeepC.of_below hb (fun p hp => by simp only [ps3, List.mem_cons, List.not_mem_nil, or_false] at hp; rcases hp with rfl | rfl | rfl <;> assumption))
theorem places_seq (w W : World) (t b N fr : Nat) (h : W = (w.alloc (.cells #[.pointer (some ⟨t, 0, none⟩)] 57)).alloc (.cells #[.int .i64 (fr : Int)] 3)) (ht : w.cell? ⟨t, 0, none⟩ = some (.slice (some ⟨b, 0, none⟩) N N)) (hN : N ≤ 1000000) (hf : fr ≤ N) (m : Nat) :
    SeqSafe m Tryd.prog 46 #[.pointer (some ⟨w.heap.size, 0, none⟩), .pointer (some ⟨w.heap.size + 1, 0, none⟩)] encP (GP N fr) (KeepC (ps3 w.heap.size (w.heap.size + 1) t)) (Cel3 w.heap.size (w.heap.size + 1) t b N fr) (fun xs => xs = (List.range N).map (rnd N fr)) (fun _ => True) W := by
  intro l J Jx V hV hJ _ hS hY h0
  have hc := places_cel h ht
  have hz : W.heap.size = w.heap.size + 2 := by rw [h]; simp
  have htl := cell_block ht
  exact places1_in m l _ _ t b N fr J Jx V hJ hS hY (hc.below hV (by omega) (by omega) (by simp at htl; omega)) hN hf h0
/-- What find answers. -/
def FindOut (L : List (Option Ent)) (key : List UInt8) (e : Ending) : Prop :=
  (∃ (i : Nat) (x : Ent), plH L i = some x ∧ x.key = key ∧ e = .returned (.tuple #[.int .i64 (i : Int), .bool true])) ∨ ((∀ i x, plH L i = some x → x.key ≠ key) ∧ e = .returned (.tuple #[.int .i64 0, .bool false]))
theorem cells2 {fn : Func} {p q : Tmp} {tmps : Array Value} {w : World} {g g' : Nat} {x y : Value} (h : fn.results = #[.cell p 3, .cell q 4])
    (hp : tmps.getD p undef = .pointer (some ⟨g, 0, none⟩)) (hq : tmps.getD q undef = .pointer (some ⟨g', 0, none⟩)) (h0 : Boxed w g 3 x) (h1 : Boxed w g' 4 y) :
    (results fn tmps).run Tryd.prog w = .ok (.tuple #[x, y]) w := by
  have hp' : tmps[p]?.getD undef = .pointer (some ⟨g, 0, none⟩) := by simpa using hp
  have hq' : tmps[q]?.getD undef = .pointer (some ⟨g', 0, none⟩) := by simpa using hq
  simp [results, h, hp', hq', asAddr, loadv_int h0, loadv_bool h1]
theorem run_load_stH {o : Oper} {a : Act} {w : World} {x : Operand} {p : Addr} {s : ByteArray} (ho : o.op = .load 9 x) (hx : a.eval x = .pointer (some p)) (hc : w.cell? p = some (.string s)) :
    (execOp a.eval o).run Tryd.prog w = .ok (.value (.string s)) w := by
  unfold execOp
  simp only [ho, hx, Instr.loadAt, Instr.sureAddr, Sem.run_bind, Sem.run_pure, Result.andThen_ok]
  go_simp
section
variable {w : World} {t b : Nat} {cnt most : Int} {L : List (Option Ent)}
set_option maxRecDepth 100000 in
set_option maxHeartbeats 4000000 in
theorem hsfind (h : Hs w t b cnt most L) (hP : Prb (hmN L.length) L) (hN : L.length ≤ 1000000) (key : List UInt8) :
    Calls Tryd.prog 35 #[.pointer (some ⟨t, 0, none⟩), .string (strB key), .int .u64 (mkOf key)] w fun e w' => FindOut L key e ∧ Below w.heap.size w w' := by
  have HH := Lib.hid h
  have HP := Lib.hid hP
  have hh := hP.home key
  have hN0 : 0 < L.length := by omega
  have htl := heap_lt h.tab
  clear h hP
  refine (callsIn_wide (n := 4)).1 ?_
  refine callsIn_of_wp_marks Tryd.func35 rfl trivial ?_ rfl
  simp only [Tryd.ntmps35, List.size_toArray, List.length_cons, List.length_nil, Nat.reduceAdd, Nat.reduceSub, Array.replicate_succ, Array.replicate_zero, List.push_toArray, List.append_toArray, List.nil_append, List.cons_append]
  gi_wp2
  refine wpIn_wide.2 (wp_scope_straight ((wpIn_wide (n := 4)).1 ?_))
  gi_wp2
  refine wpIn_wide.2 (wp_label ?_)
  gi_upto_region 1 with fail
  obtain ⟨W, hW⟩ : ∃ W, W = ((((w.alloc (.cells #[.pointer (some ⟨t, 0, none⟩)] 57)).alloc (.cells #[.string (strB key)] 9)).alloc (.cells #[.int .u64 (mkOf key)] 81)).alloc (.cells #[.int .i64 0] 3)).alloc (.cells #[.bool false] 4) := ⟨_, rfl⟩
  obtain ⟨hF, hBW⟩ := Fbx.new w t key W hW
  rw [← hW]
  clear hW
  refine wpIn_mono (Q := noPanic _) ?_ noPanic_to
  refine regionI (S := fun V => Fbx V w.heap.size t key 0 false ∧ Below w.heap.size w V) (by kernel_rfl) ⟨hF.below (Below.refl W.heap.size W).drew (by have := hF.sz; omega), hBW.drew⟩ (fun hS => ?_)
  clear hF hBW
  refine pureI (i := 0) (oi := ⟨some 10, _, _, _, _, _⟩) rfl (by kernel_rfl) (by kernel_rfl) (by kernel_rfl) (fun _ _ _ h => h) (by rfl) (fun w hSw => run_load_hstp rfl rfl (Boxed.cell hSw.1.b0)) hS (fun hS => ?_)
  try go_frame
  refine pureI (i := 1) (oi := ⟨some 11, _, _, _, _, _⟩) rfl (by kernel_rfl) (by kernel_rfl) (by kernel_rfl) (fun _ _ _ h => h) (by rfl) (fun w hSw => run_load_hstp rfl rfl (Boxed.cell hSw.1.b0)) hS (fun hS => ?_)
  try go_frame
  refine pureI (i := 2) (oi := ⟨some 12, _, _, _, _, _⟩) rfl (by kernel_rfl) (by kernel_rfl) (by kernel_rfl) (fun _ _ _ h => h) (by rfl) (fun w hSw => run_load_u64 rfl rfl (Boxed.cell hSw.1.b2)) hS (fun hS => ?_)
  try go_frame
  refine oneI (i := 3) (oi := ⟨some 13, _, _, _, _, _⟩) (by kernel_rfl) rfl (by rfl) (fun K hK => ?_)
  refine callI (f := 42) (args := #[.pointer (some ⟨t, 0, none⟩), .int .u64 (mkOf key)]) (by go_simp; try rfl) ?_
  refine (hshome t b L.length L.length key _ (hS.2.cell (p := ⟨t, 0, none⟩) (heap_lt HH.out.tab) |>.trans HH.out.c0) hN0 hN).mono ?_
  rintro e w6 ⟨rfl, rfl⟩
  refine ⟨_, rfl, hK _ _ hS (fun hS => ?_)⟩
  clear hK K
  try go_frame
  refine oneI (i := 4) (oi := ⟨some 14, _, _, _, _, _⟩) (by kernel_rfl) rfl (by rfl) (fun K hK => ?_)
  refine callI (f := 41) (args := #[.pointer (some ⟨t, 0, none⟩), .int .i64 ((hmN L.length key : Nat) : Int)]) (by go_simp; try rfl) ?_
  refine (hsplaces t (hmN L.length key) _).mono ?_
  rintro e w7 ⟨rfl, hw7⟩
  have hb7 := places_below hw7
  have hct := (hS.2.cell (p := ⟨t, 0, none⟩) htl).trans HH.out.c0
  have hsW := hS.1.sz
  refine ⟨_, rfl, hK _ _ ⟨hS.1.below hb7 (by have := hS.1.sz; omega), hS.2.trans (hb7.mono hS.2.size)⟩ (fun hS => ?_)⟩
  clear hK K
  try go_frame
  refine doneI (by kernel_rfl) ?_ _
  refine noPanic_normal ?_
  have hseq := places_seq _ _ t b L.length (hmN L.length key) hw7 hct hN (Nat.le_of_lt hh) (4 - 1)
  have hC7 := places_cel hw7 hct
  have hz7 : w7.heap.size = W.drew.heap.size + 2 := by rw [hw7]; simp
  clear hw7 hb7 hct
  generalize W.drew.heap.size = g1 at *
  gi_wp2
  refine range_safe (by omega) (gf := 46) (lb := #[.pointer (some ⟨g1, 0, none⟩), .pointer (some ⟨g1 + 1, 0, none⟩)]) rfl (enters_of Tryd.func46 (by kernel_rfl) rfl)
    hseq KeepC.trans (fun V l r r' hl hr => KeepC.loop hr) (Below.refl _ _) (fun _ => rfl)
    (fun pre x V l r r' h _ hl => h)
    (fun pre X => Seen L key (hmN L.length key) pre.length ∧ Cel3 g1 (g1 + 1) t b L.length (hmN L.length key) X ∧ Fbx X w.heap.size t key 0 false ∧ Below w.heap.size w X)
    (fun cd _ X => Cel3 g1 (g1 + 1) t b L.length (hmN L.length key) X ∧ Below w.heap.size w X ∧ ((cd = .exit 0 ∧ (∀ i x, plH L i = some x → x.key ≠ key) ∧ Fbx X w.heap.size t key 0 false) ∨ (cd = .ret ∧ ∃ (i : Nat) (x : Ent), plH L i = some x ∧ x.key = key ∧ Fbx X w.heap.size t key (i : Int) true)))
    (fun pre X Y r hs hg hr => ⟨hs.1, hs.2.1.kept hg hr, hs.2.2.1.kept hg hr, below_keep hs.2.2.2 hg hr (by omega) (Nat.le_refl _)⟩)
    (fun cd pre X Y r hs hg hr => ⟨hs.1.kept hg hr, below_keep hs.2.1 hg hr (by omega) (Nat.le_refl _), hs.2.2.imp (fun h => ⟨h.1, h.2.1, h.2.2.kept hg hr⟩) (fun h => by obtain ⟨h1, i, x, h2, h3, h4⟩ := h; exact ⟨h1, i, x, h2, h3, h4.kept hg hr⟩)⟩)
    (fun cd pre X h => h.1)
    ⟨fun d hd => absurd hd (Nat.not_lt_zero _), hC7, hS.1, hS.2⟩
    (fun x => { tmps := #[.pointer (some ⟨t, 0, none⟩), .string (strB key), .int .u64 (mkOf key), .pointer (some ⟨w.heap.size, 0, none⟩), .pointer (some ⟨w.heap.size + 1, 0, none⟩), .pointer (some ⟨w.heap.size + 1 + 1, 0, none⟩), .pointer (some ⟨w.heap.size + 1 + 1 + 1, 0, none⟩), .pointer (some ⟨w.heap.size + 1 + 1 + 1 + 1, 0, none⟩), .int .i64 (x : Int), undef, .pointer (some ⟨t, 0, none⟩), .pointer (some ⟨t, 0, none⟩), .int .u64 (mkOf key), .int .i64 ((hmN L.length key : Nat) : Int), .func (.func 46) #[] #[.pointer (some ⟨g1, 0, none⟩), .pointer (some ⟨g1 + 1, 0, none⟩)], .int .i64 (x : Int), undef, undef, undef, undef, undef, undef, undef, undef, undef, undef, undef, undef, undef, undef, undef, undef, undef, undef, undef, undef, undef, undef, undef, undef, undef, undef, undef, undef], defers := [] }) ?assign ?body ?done ?stop
  case assign =>
    intro l x X K hK
    dsimp only [encP]
    gi_wp2
    exact hK
  case body =>
    rintro l pre x X ⟨hseen, hcel, hF, hB⟩ ⟨hx, hpl⟩
    have hxl : x < L.length := by rw [hx]; exact rnd_lt hh hpl
    have hrow := (HH.out.below hB).at_ (plH_get hxl)
    have HX := Lib.hid hx
    have HSN := Lib.hid hseen
    clear hx hseen
    have kb0 := Boxed.cell hF.b0
    have kb1 := Boxed.cell hF.b1
    have kb2 := Boxed.cell hF.b2
    have kb3 := Boxed.cell hF.b3
    have kb4 := Boxed.cell hF.b4
    have kf3 := Boxed.frozen hF.b3
    have kf4 := Boxed.frozen hF.b4
    have kt := hcel.2.2
    have hne3 : ∀ p ∈ ps3 g1 (g1 + 1) t, p.block ≠ w.heap.size + 1 + 1 + 1 := fun p hp => by simp only [ps3, List.mem_cons, List.not_mem_nil, or_false] at hp; rcases hp with rfl | rfl | rfl <;> simp <;> omega
    have hne4 : ∀ p ∈ ps3 g1 (g1 + 1) t, p.block ≠ w.heap.size + 1 + 1 + 1 + 1 := fun p hp => by simp only [ps3, List.mem_cons, List.not_mem_nil, or_false] at hp; rcases hp with rfl | rfl | rfl <;> simp <;> omega
    cases hp : plH L x with
    | none =>
      rw [hp] at hrow
      have k0 : X.cell? ⟨b, x * 4, none⟩ = some (.bool false) := hrow 0 _ rfl
      have HN := Lib.hid (HP.out.absent hpl HSN.out (HX.out ▸ hp))
      clear hrow hp
      gi_wp2
      exact ⟨(KeepsOthers.refl _).from _, hcel, hB, .inl ⟨rfl, HN.out, hF⟩⟩
    | some y =>
      rw [hp] at hrow
      have k0 : X.cell? ⟨b, x * 4, none⟩ = some (.bool true) := hrow 0 _ rfl
      have k1 : X.cell? ⟨b, x * 4 + 1, none⟩ = some (.int .u64 (mkOf y.key)) := hrow 1 _ rfl
      have k2 : X.cell? ⟨b, x * 4 + 2, none⟩ = some (.string (strB y.key)) := hrow 2 _ rfl
      have HPL := Lib.hid hp
      clear hrow hp
      by_cases hy : y.key = key
      · have dm : (mkOf y.key == mkOf key) = true := by rw [hy]; simp
        have dk : ((strB y.key).toList == (strB key).toList) = true := by rw [hy]; simp
        gi_upto_region 5 with fail
        refine region_roundH (S := fun V => V = X.drew) (by kernel_rfl) (by kernel_rfl) (fun h => by obtain ⟨_, _, h⟩ := h; exact h) rfl (fun hS => ?_)
        refine held_pure (i := 0) (oi := ⟨some 29, _, _, _, _, _⟩) rfl (by kernel_rfl) (by kernel_rfl) (by kernel_rfl) (fun _ _ _ h => h) (by rfl) (v := ?_) (fun w hSw => ?_) hS (fun hS => ?_)
        rotate_left
        · go_simp; try with_reducible rfl
        try go_frame
        refine held_pure (i := 1) (oi := ⟨some 30, _, _, _, _, _⟩) rfl (by kernel_rfl) (by kernel_rfl) (by kernel_rfl) (fun _ _ _ h => h) (by rfl) (v := ?_) (fun w hSw => ?_) hS (fun hS => ?_)
        rotate_left
        · go_simp; try with_reducible rfl
        try go_frame
        refine held_pure (i := 2) (oi := ⟨some 31, _, _, _, _, _⟩) rfl (by kernel_rfl) (by kernel_rfl) (by kernel_rfl) (fun _ _ _ h => h) (by rfl) (v := ?_) (fun w hSw => ?_) hS (fun hS => ?_)
        rotate_left
        · go_simp; try with_reducible rfl
        try go_frame
        refine held_pure (i := 3) (oi := ⟨some 32, _, _, _, _, _⟩) rfl (by kernel_rfl) (by kernel_rfl) (by kernel_rfl) (fun _ _ _ h => h) (by rfl) (fun w hSw => run_load_u64 rfl rfl (by rw [hSw]; exact k1)) hS (fun hS => ?_)
        try go_frame
        refine held_pure (i := 4) (oi := ⟨some 33, _, _, _, _, _⟩) rfl (by kernel_rfl) (by kernel_rfl) (by kernel_rfl) (fun _ _ _ h => h) (by rfl) (fun w hSw => run_load_u64 rfl rfl (by rw [hSw]; exact kb2)) hS (fun hS => ?_)
        try go_frame
        refine held_pure (i := 5) (oi := ⟨some 34, _, _, _, _, _⟩) rfl (by kernel_rfl) (by kernel_rfl) (by kernel_rfl) (fun _ _ _ h => h) (by rfl) (v := .bool true) (fun w hSw => by go_simp; try exact dm) hS (fun hS => ?_)
        try go_frame
        refine held_pure (i := 6) (oi := ⟨some 35, _, _, _, _, _⟩) rfl (by kernel_rfl) (by kernel_rfl) (by kernel_rfl) (fun _ _ _ h => h) (by rfl) (v := ?_) (fun w hSw => ?_) hS (fun hS => ?_)
        rotate_left
        · go_simp; try with_reducible rfl
        try go_frame
        refine held_pure (i := 7) (oi := ⟨some 36, _, _, _, _, _⟩) rfl (by kernel_rfl) (by kernel_rfl) (by kernel_rfl) (fun _ _ _ h => h) (by rfl) (v := ?_) (fun w hSw => ?_) hS (fun hS => ?_)
        rotate_left
        · go_simp; try with_reducible rfl
        try go_frame
        refine held_pure (i := 8) (oi := ⟨some 37, _, _, _, _, _⟩) rfl (by kernel_rfl) (by kernel_rfl) (by kernel_rfl) (fun _ _ _ h => h) (by rfl) (v := ?_) (fun w hSw => ?_) hS (fun hS => ?_)
        rotate_left
        · go_simp; try with_reducible rfl
        try go_frame
        refine held_pure (i := 9) (oi := ⟨some 38, _, _, _, _, _⟩) rfl (by kernel_rfl) (by kernel_rfl) (by kernel_rfl) (fun _ _ _ h => h) (by rfl) (v := ?_) (fun w hSw => ?_) hS (fun hS => ?_)
        rotate_left
        · go_simp; try with_reducible rfl
        try go_frame
        refine held_pure (i := 10) (oi := ⟨some 39, _, _, _, _, _⟩) rfl (by kernel_rfl) (by kernel_rfl) (by kernel_rfl) (fun _ _ _ h => h) (by rfl) (fun w hSw => run_load_stH rfl rfl (by rw [hSw]; exact k2)) hS (fun hS => ?_)
        try go_frame
        refine held_pure (i := 11) (oi := ⟨some 40, _, _, _, _, _⟩) rfl (by kernel_rfl) (by kernel_rfl) (by kernel_rfl) (fun _ _ _ h => h) (by rfl) (fun w hSw => run_load_stH rfl rfl (by rw [hSw]; exact kb1)) hS (fun hS => ?_)
        try go_frame
        refine held_pure (i := 12) (oi := ⟨some 41, _, _, _, _, _⟩) rfl (by kernel_rfl) (by kernel_rfl) (by kernel_rfl) (fun _ _ _ h => h) (by rfl) (v := .bool true) (fun w hSw => by go_simp; try exact dk) hS (fun hS => ?_)
        try go_frame
        refine held_pure (i := 13) (oi := ⟨some 42, _, _, _, _, _⟩) rfl (by kernel_rfl) (by kernel_rfl) (by kernel_rfl) (fun _ _ _ h => h) (by rfl) (v := ?_) (fun w hSw => ?_) hS (fun hS => ?_)
        rotate_left
        · go_simp; try with_reducible rfl
        try go_frame
        refine held_pure (i := 14) (oi := ⟨some 28, _, _, _, _, _⟩) rfl (by kernel_rfl) (by kernel_rfl) (by kernel_rfl) (fun _ _ _ h => h) (by rfl) (v := ?_) (fun w hSw => ?_) hS (fun hS => ?_)
        rotate_left
        · go_simp; try with_reducible rfl
        try go_frame
        refine wpAnyH_done (by kernel_rfl) ?_ _
        gi_wp2
        all_goals exact ⟨(((KeepsOthers.drew _).trans (KeepsOthers.setCell _ _ _)).trans (KeepsOthers.setCell _ _ _)).from _, (hcel.keep (KeepC.cell (X := X) (a := ⟨w.heap.size + 1 + 1 + 1, 0, none⟩) (v := .int .i64 (x : Int)) hne3)).keep (KeepC.cell hne4), ((hB.drew).setCell (p := ⟨w.heap.size + 1 + 1 + 1, 0, none⟩) (by simp; omega) _).setCell (p := ⟨w.heap.size + 1 + 1 + 1 + 1, 0, none⟩) (by simp; omega) _, .inr ⟨rfl, x, y, HPL.out, hy, (Fbx.set hF _ _).drew⟩⟩
      · have dk : ((strB y.key).toList == (strB key).toList) = false := by rw [strB_eq]; exact decide_eq_false hy
        have hsn : Seen L key (hmN L.length key) (pre ++ [x]).length := fun d hd => by
          rw [List.length_append] at hd
          rcases Nat.lt_or_ge d pre.length with h | h
          · exact HSN.out d h
          · have hde : d = pre.length := by simp at hd; omega
            rw [hde, ← HX.out]
            exact ⟨y, HPL.out, hy⟩
        have HS2 := Lib.hid hsn
        clear hsn
        by_cases hm : mkOf y.key = mkOf key
        · have dm : (mkOf y.key == mkOf key) = true := by rw [hm]; simp
          clear hy hm
          gi_upto_region 5 with fail
          refine region_roundH (S := fun V => V = X.drew) (by kernel_rfl) (by kernel_rfl) (fun h => by obtain ⟨_, _, h⟩ := h; exact h) rfl (fun hS => ?_)
          refine held_pure (i := 0) (oi := ⟨some 29, _, _, _, _, _⟩) rfl (by kernel_rfl) (by kernel_rfl) (by kernel_rfl) (fun _ _ _ h => h) (by rfl) (v := ?_) (fun w hSw => ?_) hS (fun hS => ?_)
          rotate_left
          · go_simp; try with_reducible rfl
          try go_frame
          refine held_pure (i := 1) (oi := ⟨some 30, _, _, _, _, _⟩) rfl (by kernel_rfl) (by kernel_rfl) (by kernel_rfl) (fun _ _ _ h => h) (by rfl) (v := ?_) (fun w hSw => ?_) hS (fun hS => ?_)
          rotate_left
          · go_simp; try with_reducible rfl
          try go_frame
          refine held_pure (i := 2) (oi := ⟨some 31, _, _, _, _, _⟩) rfl (by kernel_rfl) (by kernel_rfl) (by kernel_rfl) (fun _ _ _ h => h) (by rfl) (v := ?_) (fun w hSw => ?_) hS (fun hS => ?_)
          rotate_left
          · go_simp; try with_reducible rfl
          try go_frame
          refine held_pure (i := 3) (oi := ⟨some 32, _, _, _, _, _⟩) rfl (by kernel_rfl) (by kernel_rfl) (by kernel_rfl) (fun _ _ _ h => h) (by rfl) (fun w hSw => run_load_u64 rfl rfl (by rw [hSw]; exact k1)) hS (fun hS => ?_)
          try go_frame
          refine held_pure (i := 4) (oi := ⟨some 33, _, _, _, _, _⟩) rfl (by kernel_rfl) (by kernel_rfl) (by kernel_rfl) (fun _ _ _ h => h) (by rfl) (fun w hSw => run_load_u64 rfl rfl (by rw [hSw]; exact kb2)) hS (fun hS => ?_)
          try go_frame
          refine held_pure (i := 5) (oi := ⟨some 34, _, _, _, _, _⟩) rfl (by kernel_rfl) (by kernel_rfl) (by kernel_rfl) (fun _ _ _ h => h) (by rfl) (v := .bool true) (fun w hSw => by go_simp; try exact dm) hS (fun hS => ?_)
          try go_frame
          refine held_pure (i := 6) (oi := ⟨some 35, _, _, _, _, _⟩) rfl (by kernel_rfl) (by kernel_rfl) (by kernel_rfl) (fun _ _ _ h => h) (by rfl) (v := ?_) (fun w hSw => ?_) hS (fun hS => ?_)
          rotate_left
          · go_simp; try with_reducible rfl
          try go_frame
          refine held_pure (i := 7) (oi := ⟨some 36, _, _, _, _, _⟩) rfl (by kernel_rfl) (by kernel_rfl) (by kernel_rfl) (fun _ _ _ h => h) (by rfl) (v := ?_) (fun w hSw => ?_) hS (fun hS => ?_)
          rotate_left
          · go_simp; try with_reducible rfl
          try go_frame
          refine held_pure (i := 8) (oi := ⟨some 37, _, _, _, _, _⟩) rfl (by kernel_rfl) (by kernel_rfl) (by kernel_rfl) (fun _ _ _ h => h) (by rfl) (v := ?_) (fun w hSw => ?_) hS (fun hS => ?_)
          rotate_left
          · go_simp; try with_reducible rfl
          try go_frame
          refine held_pure (i := 9) (oi := ⟨some 38, _, _, _, _, _⟩) rfl (by kernel_rfl) (by kernel_rfl) (by kernel_rfl) (fun _ _ _ h => h) (by rfl) (v := ?_) (fun w hSw => ?_) hS (fun hS => ?_)
          rotate_left
          · go_simp; try with_reducible rfl
          try go_frame
          refine held_pure (i := 10) (oi := ⟨some 39, _, _, _, _, _⟩) rfl (by kernel_rfl) (by kernel_rfl) (by kernel_rfl) (fun _ _ _ h => h) (by rfl) (fun w hSw => run_load_stH rfl rfl (by rw [hSw]; exact k2)) hS (fun hS => ?_)
          try go_frame
          refine held_pure (i := 11) (oi := ⟨some 40, _, _, _, _, _⟩) rfl (by kernel_rfl) (by kernel_rfl) (by kernel_rfl) (fun _ _ _ h => h) (by rfl) (fun w hSw => run_load_stH rfl rfl (by rw [hSw]; exact kb1)) hS (fun hS => ?_)
          try go_frame
          refine held_pure (i := 12) (oi := ⟨some 41, _, _, _, _, _⟩) rfl (by kernel_rfl) (by kernel_rfl) (by kernel_rfl) (fun _ _ _ h => h) (by rfl) (v := .bool false) (fun w hSw => by go_simp; try exact dk) hS (fun hS => ?_)
          try go_frame
          refine held_pure (i := 13) (oi := ⟨some 42, _, _, _, _, _⟩) rfl (by kernel_rfl) (by kernel_rfl) (by kernel_rfl) (fun _ _ _ h => h) (by rfl) (v := ?_) (fun w hSw => ?_) hS (fun hS => ?_)
          rotate_left
          · go_simp; try with_reducible rfl
          try go_frame
          refine held_pure (i := 14) (oi := ⟨some 28, _, _, _, _, _⟩) rfl (by kernel_rfl) (by kernel_rfl) (by kernel_rfl) (fun _ _ _ h => h) (by rfl) (v := ?_) (fun w hSw => ?_) hS (fun hS => ?_)
          rotate_left
          · go_simp; try with_reducible rfl
          try go_frame
          refine wpAnyH_done (by kernel_rfl) ?_ _
          gi_wp2
          all_goals exact ⟨(KeepsOthers.drew _).from _, KeepC.refl _ _, HS2.out, hcel, hF.drew, hB.drew⟩
        · have dm : (mkOf y.key == mkOf key) = false := by simpa using hm
          clear hy hm
          gi_upto_region 5 with fail
          refine region_roundH (S := fun V => V = X.drew) (by kernel_rfl) (by kernel_rfl) (fun h => by obtain ⟨_, _, h⟩ := h; exact h) rfl (fun hS => ?_)
          refine held_pure (i := 0) (oi := ⟨some 29, _, _, _, _, _⟩) rfl (by kernel_rfl) (by kernel_rfl) (by kernel_rfl) (fun _ _ _ h => h) (by rfl) (v := ?_) (fun w hSw => ?_) hS (fun hS => ?_)
          rotate_left
          · go_simp; try with_reducible rfl
          try go_frame
          refine held_pure (i := 1) (oi := ⟨some 30, _, _, _, _, _⟩) rfl (by kernel_rfl) (by kernel_rfl) (by kernel_rfl) (fun _ _ _ h => h) (by rfl) (v := ?_) (fun w hSw => ?_) hS (fun hS => ?_)
          rotate_left
          · go_simp; try with_reducible rfl
          try go_frame
          refine held_pure (i := 2) (oi := ⟨some 31, _, _, _, _, _⟩) rfl (by kernel_rfl) (by kernel_rfl) (by kernel_rfl) (fun _ _ _ h => h) (by rfl) (v := ?_) (fun w hSw => ?_) hS (fun hS => ?_)
          rotate_left
          · go_simp; try with_reducible rfl
          try go_frame
          refine held_pure (i := 3) (oi := ⟨some 32, _, _, _, _, _⟩) rfl (by kernel_rfl) (by kernel_rfl) (by kernel_rfl) (fun _ _ _ h => h) (by rfl) (fun w hSw => run_load_u64 rfl rfl (by rw [hSw]; exact k1)) hS (fun hS => ?_)
          try go_frame
          refine held_pure (i := 4) (oi := ⟨some 33, _, _, _, _, _⟩) rfl (by kernel_rfl) (by kernel_rfl) (by kernel_rfl) (fun _ _ _ h => h) (by rfl) (fun w hSw => run_load_u64 rfl rfl (by rw [hSw]; exact kb2)) hS (fun hS => ?_)
          try go_frame
          refine held_pure (i := 5) (oi := ⟨some 34, _, _, _, _, _⟩) rfl (by kernel_rfl) (by kernel_rfl) (by kernel_rfl) (fun _ _ _ h => h) (by rfl) (v := .bool false) (fun w hSw => by go_simp; try exact dm) hS (fun hS => ?_)
          try go_frame
          refine held_pure (i := 6) (oi := ⟨some 35, _, _, _, _, _⟩) rfl (by kernel_rfl) (by kernel_rfl) (by kernel_rfl) (fun _ _ _ h => h) (by rfl) (v := ?_) (fun w hSw => ?_) hS (fun hS => ?_)
          rotate_left
          · go_simp; try with_reducible rfl
          try go_frame
          refine held_skip (i := 7) (oi := ⟨some 36, _, _, _, _, _⟩) rfl (by kernel_rfl) (by kernel_rfl) (by kernel_rfl) (fun _ _ _ h => h) (by rfl) hS (fun hS => ?_)
          try go_frame
          refine held_skip (i := 8) (oi := ⟨some 37, _, _, _, _, _⟩) rfl (by kernel_rfl) (by kernel_rfl) (by kernel_rfl) (fun _ _ _ h => h) (by rfl) hS (fun hS => ?_)
          try go_frame
          refine held_skip (i := 9) (oi := ⟨some 38, _, _, _, _, _⟩) rfl (by kernel_rfl) (by kernel_rfl) (by kernel_rfl) (fun _ _ _ h => h) (by rfl) hS (fun hS => ?_)
          try go_frame
          refine held_skip (i := 10) (oi := ⟨some 39, _, _, _, _, _⟩) rfl (by kernel_rfl) (by kernel_rfl) (by kernel_rfl) (fun _ _ _ h => h) (by rfl) hS (fun hS => ?_)
          try go_frame
          refine held_skip (i := 11) (oi := ⟨some 40, _, _, _, _, _⟩) rfl (by kernel_rfl) (by kernel_rfl) (by kernel_rfl) (fun _ _ _ h => h) (by rfl) hS (fun hS => ?_)
          try go_frame
          refine held_skip (i := 12) (oi := ⟨some 41, _, _, _, _, _⟩) rfl (by kernel_rfl) (by kernel_rfl) (by kernel_rfl) (fun _ _ _ h => h) (by rfl) hS (fun hS => ?_)
          try go_frame
          refine held_pure (i := 13) (oi := ⟨some 42, _, _, _, _, _⟩) rfl (by kernel_rfl) (by kernel_rfl) (by kernel_rfl) (fun _ _ _ h => h) (by rfl) (v := ?_) (fun w hSw => ?_) hS (fun hS => ?_)
          rotate_left
          · go_simp; try with_reducible rfl
          try go_frame
          refine held_pure (i := 14) (oi := ⟨some 28, _, _, _, _, _⟩) rfl (by kernel_rfl) (by kernel_rfl) (by kernel_rfl) (fun _ _ _ h => h) (by rfl) (v := ?_) (fun w hSw => ?_) hS (fun hS => ?_)
          rotate_left
          · go_simp; try with_reducible rfl
          try go_frame
          refine wpAnyH_done (by kernel_rfl) ?_ _
          gi_wp2
          all_goals exact ⟨(KeepsOthers.drew _).from _, KeepC.refl _ _, HS2.out, hcel, hF.drew, hB.drew⟩
  case done =>
    rintro D xs X hD hS ⟨hseen, hcel, hF, hB⟩ hK
    rw [hS, List.length_map, List.length_range] at hseen
    have HA := Lib.hid (absent_all hh hseen)
    clear hseen hS hseq hC7
    have hm1 : Marks w7.heap.size X.heap.size [{ target := .collected D, args := #[] }] X := (Marks.push (hi := D) (ds := []) trivial (Nat.le_refl _) hD hK).more (heap_lt hK)
    have kb3 := Boxed.cell hF.b3
    have kb4 := Boxed.cell (Boxed.other hF.b4 (B' := w.heap.size + 1 + 1 + 1) (by omega) (.int .i64 0))
    have kf3 := Boxed.frozen hF.b3
    have kf4 := Boxed.frozen (Boxed.other hF.b4 (B' := w.heap.size + 1 + 1 + 1) (by omega) (.int .i64 0))
    gi_wp2
    refine leaves_marks w7.heap.size (fun Y => Fbx Y w.heap.size t key 0 false ∧ Below w.heap.size w Y) (fun Y D hY h1 h2 => ⟨hY.1.kept (n := w7.heap.size) (grownBy_putObj' Y D _) (fun k e => by cases e; exact ⟨h1, _, h2, rfl⟩), hY.2.trans (belowK_b (w := w) (Nat.le_refl _) Y D _ _ (by omega) h2 rfl rfl)⟩)
      (fun Y hY => ⟨_, cells2 rfl rfl rfl hY.1.b3 hY.1.b4, Or.inr ⟨HA.out, rfl⟩, hY.2⟩) _ _ _ (hm1.keep (fun k h1 _ => (Below.heap_setCell _ _ _ _ (by simp; omega)).trans (Below.heap_setCell _ _ _ _ (by simp; omega))))
      ⟨Fbx.set hF _ _, (hB.setCell (p := ⟨w.heap.size + 1 + 1 + 1, 0, none⟩) (by simp; omega) _).setCell (p := ⟨w.heap.size + 1 + 1 + 1 + 1, 0, none⟩) (by simp; omega) _⟩
  case stop =>
    rintro D cd pre X hD _ ⟨hcel, hB, h⟩ hK
    have hm1 : Marks w7.heap.size X.heap.size [{ target := .collected D, args := #[] }] X := (Marks.push (hi := D) (ds := []) trivial (Nat.le_refl _) hD hK).more (heap_lt hK)
    rcases h with ⟨rfl, hno, hF⟩ | ⟨rfl, i, x, hx, hk, hF⟩
    · have HA := Lib.hid hno
      clear hno
      have kb3 := Boxed.cell hF.b3
      have kb4 := Boxed.cell (Boxed.other hF.b4 (B' := w.heap.size + 1 + 1 + 1) (by omega) (.int .i64 0))
      have kf3 := Boxed.frozen hF.b3
      have kf4 := Boxed.frozen (Boxed.other hF.b4 (B' := w.heap.size + 1 + 1 + 1) (by omega) (.int .i64 0))
      gi_wp2
      refine leaves_marks w7.heap.size (fun Y => Fbx Y w.heap.size t key 0 false ∧ Below w.heap.size w Y) (fun Y D hY h1 h2 => ⟨hY.1.kept (n := w7.heap.size) (grownBy_putObj' Y D _) (fun k e => by cases e; exact ⟨h1, _, h2, rfl⟩), hY.2.trans (belowK_b (w := w) (Nat.le_refl _) Y D _ _ (by omega) h2 rfl rfl)⟩)
        (fun Y hY => ⟨_, cells2 rfl rfl rfl hY.1.b3 hY.1.b4, Or.inr ⟨HA.out, rfl⟩, hY.2⟩) _ _ _ (hm1.keep (fun k h1 _ => (Below.heap_setCell _ _ _ _ (by simp; omega)).trans (Below.heap_setCell _ _ _ _ (by simp; omega))))
        ⟨Fbx.set hF _ _, (hB.setCell (p := ⟨w.heap.size + 1 + 1 + 1, 0, none⟩) (by simp; omega) _).setCell (p := ⟨w.heap.size + 1 + 1 + 1 + 1, 0, none⟩) (by simp; omega) _⟩
    · gi_wp2
      refine leaves_marks w7.heap.size (fun Y => Fbx Y w.heap.size t key (i : Int) true ∧ Below w.heap.size w Y) (fun Y D hY h1 h2 => ⟨hY.1.kept (n := w7.heap.size) (grownBy_putObj' Y D _) (fun k e => by cases e; exact ⟨h1, _, h2, rfl⟩), hY.2.trans (belowK_b (w := w) (Nat.le_refl _) Y D _ _ (by omega) h2 rfl rfl)⟩)
        (fun Y hY => ⟨_, cells2 rfl rfl rfl hY.1.b3 hY.1.b4, Or.inl ⟨i, x, hx, hk, rfl⟩, hY.2⟩) _ _ _ hm1
        ⟨hF, hB⟩
end
end Go.Proofs.YtafidbjaeopciaaDoor

/-
  Contracts of the document's Room and Add of layer 15. Conditions are each theorem's own.
-/
namespace Go.Proofs.YtafidbjaeopciaaDoor
open Go.RowKit Go.Shelf

theorem clP_ones (x : XP) : ∀ u ∈ clP x, u.oneCell' = true := by
  intro u hu
  simp only [clP, List.mem_cons, List.not_mem_nil, or_false] at hu
  rcases hu with rfl | rfl | rfl <;> rfl
theorem flat3 (l : List XP) : (l.flatMap clP).length = l.length * 3 := flat_len l (fun _ _ => rfl)
end Go.Proofs.YtafidbjaeopciaaDoor

/-
  A part put into a row of parts: the library's Insert, read off its text. What is kept where some blocks are written. Conditions are each theorem's own.
-/
namespace Go.Proofs.YtafidbjaeopciaaDoor
open Go.RowKit Go.Shelf

/-- All blocks but some lie as they lay. -/
structure Kept (S : Nat → Prop) (w w' : World) : Prop where
  os : w'.os = w.os
  tape : w'.tape = w.tape
  output : w'.output = w.output
  size : w.heap.size ≤ w'.heap.size
  block : ∀ k, k < w.heap.size → ¬ S k → w'.heap[k]? = w.heap[k]?
section
variable {S T : Nat → Prop} {a b c : World}
theorem Kept.of_below (h : Below a.heap.size a b) : Kept S a b := ⟨h.os, h.tape, h.output, h.size, fun k hk _ => h.block k hk⟩
theorem Kept.refl (a : World) : Kept S a a := Kept.of_below (Below.refl _ a)
theorem Kept.trans (h : Kept S a b) (k : Kept T b c) (hT : ∀ i, i < a.heap.size → T i → S i) : Kept S a c :=
  ⟨k.os.trans h.os, k.tape.trans h.tape, k.output.trans h.output, Nat.le_trans h.size k.size,
   fun i hi hs => (k.block i (Nat.lt_of_lt_of_le hi h.size) (fun t => hs (hT i hi t))).trans (h.block i hi hs)⟩
theorem Kept.then_below (h : Kept S a b) (k : Below b.heap.size b c) : Kept S a c := h.trans (T := fun _ => False) (Kept.of_below k) (fun _ _ f => f.elim)
theorem Kept.mono (h : Kept S a b) (hS : ∀ i, i < a.heap.size → S i → T i) : Kept T a b := ⟨h.os, h.tape, h.output, h.size, fun k hk hn => h.block k hk (fun s => hn (hS k hk s))⟩
theorem Kept.below {B : Nat} (h : Kept S a b) (hB : B ≤ a.heap.size) (hS : ∀ i, S i → B ≤ i) : Below B a b := ⟨h.os, h.tape, h.output, h.size, fun k hk => h.block k (by omega) (fun s => by have := hS k s; omega)⟩
theorem Kept.of_grown {r : Option Nat} (h : a.grownBy b r) : Kept (fun k => some k = r) a b := ⟨h.os, h.tape, h.output, h.size, fun k hk hn => h.block k hk hn⟩
theorem Kept.setRow (w : World) (g : Nat) (cs : Array Value) : Kept (fun k => k = g) w (w.setRow g cs) := ⟨rfl, rfl, rfl, by simp [World.setRow], fun k _ hn => setRow_other w g k cs hn⟩
theorem Kept.drew (w : World) : Kept S w w.drew := Kept.of_below (Below.refl _ w).drew
end
theorem splice_get {α : Type} {L cs : List α} {k : Nat} (h : k + cs.length ≤ L.length) (j : Nat) : (splice L k cs)[j]? = if k ≤ j ∧ j < k + cs.length then cs[j - k]? else L[j]? := by
  unfold splice
  by_cases h1 : j < k
  · rw [if_neg (by omega), List.getElem?_append_left (by simp; omega), List.getElem?_take, if_pos h1]
  · rw [List.getElem?_append_right (by simp; omega), List.length_take, Nat.min_eq_left (by omega)]
    by_cases h2 : j < k + cs.length
    · rw [if_pos ⟨by omega, h2⟩, List.getElem?_append_left (by omega)]
    · rw [if_neg (by omega), List.getElem?_append_right (by omega), List.getElem?_drop]
      congr 1; omega
/-- What the two copies leave, in either order: the cells ahead of the place, the new ones, the others. -/
theorem ins_take {α : Type} {R xs C : List α} {i n : Nat} (hi : i ≤ n) (hx : xs.length = n * 3) (hC : C.length = 3) (hp : ∀ j, j < i * 3 → R[j]? = xs[j]?) (R' : List α)
    (hR' : ∀ j, j < n * 3 + 3 → R'[j]? = if j < i * 3 then R[j]? else if j < i * 3 + 3 then C[j - i * 3]? else xs[j - 3]?) : R'.take (n * 3 + 3) = xs.take (i * 3) ++ (C ++ xs.drop (i * 3)) := by
  refine List.ext_getElem? fun j => ?_
  rw [List.getElem?_take]
  by_cases hj : j < n * 3 + 3
  · rw [if_pos hj, hR' j hj]
    by_cases h1 : j < i * 3
    · rw [if_pos h1, List.getElem?_append_left (by simp; omega), List.getElem?_take, if_pos h1, hp j h1]
    · rw [if_neg h1, List.getElem?_append_right (by simp; omega), List.length_take, Nat.min_eq_left (by omega)]
      by_cases h2 : j < i * 3 + 3
      · rw [if_pos h2, List.getElem?_append_left (by omega)]
      · rw [if_neg h2, List.getElem?_append_right (by omega), List.getElem?_drop]
        congr 1; omega
  · rw [if_neg hj, List.getElem?_eq_none]
    simp; omega
/-- copy, over rows of elements of three cells. -/
theorem run_copy3 (w : World) (dT sT ty elem : TypeId) (g o dLen dCap : Nat) (a : Addr) (sLen sCap : Nat) (cur : Array Value) (t : TypeId) (cs : List Value) (k : Nat)
    (hu : Tryd.prog.underlying dT = some (.slice elem)) (hs : (Tryd.prog.info? elem).map (·.size) = some 3) (hk : k = Nat.min sLen dLen)
    (hg : w.heap[g]? = some (.cells cur t (0, 0))) (hn : cs.length = k * 3)
    (hsrc : ∀ j v, cs[j]? = some v → w.cell? (a.add j) = some v) (hfit : o + cs.length ≤ cur.size) (h1 : ∀ v ∈ cs, v.oneCell' = true) :
    (Builtin.copy_ #[dT, sT] ty #[.slice (some ⟨g, o, none⟩) dLen dCap, .slice (some a) sLen sCap]).run Tryd.prog w =
      .ok (goInt k) (w.setRow g (splice cur.toList o cs).toArray) := by
  have hl := run_loadCells_list (P := Tryd.prog) w a cs hsrc
  have hst := run_storeCells_at Tryd.prog g o t cs 0 cur w hg (by simpa using hfit) h1
  cases hq : Tryd.prog.info? elem with
  | none => simp [hq] at hs
  | some i =>
    have hi : i.size = 3 := by simpa [hq] using hs
    rw [hn] at hl
    subst hk
    simp [Builtin.copy_, run_underlying hu, Builtin.lenOf, Builtin.firstCells, sizeOf, typeInfo, hq, hi, hl, hst, splice]
theorem wpList_copy_eq {P : Program} {w : World} {ops : Array Oper} {rest : List Oper} {o : Oper} {a : Act} {Q : Exit → Act → World → Prop} (hgd : o.guard = none) (d s : Operand) (t t' : TypeId)
    (ho : o.op = .call { callee := .builtin .copy, args := #[d, s], argTypes := #[t, t'] }) (v u : Value) (hd : a.eval d = v) (hs : a.eval s = u) {v' : Value} {w1 : World}
    (hr : (Builtin.copy_ #[t, t'] o.type #[v, u]).run P w = .ok v' w1) (h : ∀ w', w' = w1 → wpList P ops Q rest (a.put o.dst v') w') : wpList P ops Q (o :: rest) a w :=
  wpList_plain hgd fun K hK => by
    unfold Oper.wp execOp
    simp only [ho, resolve, invoke, builtin, Sem.run_bind, Sem.run_pure, Result.andThen_ok, List.map_toArray, List.map_cons, List.map_nil, hd, hs, hr]
    exact hK _ _ (h _ rfl)
theorem step_copy_eq {P : Program} {ops : Array Oper} {o : Oper} {a : Act} {w : World} {K : Act → World → Prop} {Q : Exit → Act → World → Prop} {E : Prop}
    (hg : o.guard = none) (d x : Operand) (dT sT : TypeId) (hop : o.op = Op.call { callee := Callee.builtin Builtin.copy, args := #[d, x], argTypes := #[dT, sT] })
    (v u : Value) (hd : a.eval d = v) (hx : a.eval x = u) {v' : Value} {w1 : World} (hr : (Builtin.copy_ #[dT, sT] o.type #[v, u]).run P w = .ok v' w1) (hK : ∀ w', w' = w1 → K (a.put o.dst v') w') :
    if Region.wanted o (yielded ops a.tmps) = true then Oper.wp P o a w K Q else E := by
  have hw : Region.wanted o (yielded ops a.tmps) = true := by simp [Region.wanted, hg]
  rw [if_pos hw]
  unfold Oper.wp
  simp [execOp, hop, resolve, invoke, builtin, hd, hx, hr, Result.andThen]
  exact hK _ rfl
theorem clP_oneM {L : List XP} : ∀ u ∈ L.flatMap clP, u.oneCell' = true := fun u hu => by
  obtain ⟨y, _, hy⟩ := List.mem_flatMap.1 hu
  exact clP_ones y u hy
def putX (L : List XP) (i : Nat) (x : XP) : List XP := L.take i ++ x :: L.drop i
theorem putX_cells (L : List XP) (i : Nat) (x : XP) : (putX L i x).flatMap clP = (L.flatMap clP).take (i * 3) ++ (clP x ++ (L.flatMap clP).drop (i * 3)) := by
  have h : ∀ (L : List XP) (i : Nat), (L.take i).flatMap clP = (L.flatMap clP).take (i * 3) ∧ (L.drop i).flatMap clP = (L.flatMap clP).drop (i * 3) := fun L => by
    induction L with
    | nil => intro i; simp
    | cons a L ih =>
      intro i
      cases i with
      | zero => simp
      | succ i =>
        obtain ⟨h1, h2⟩ := ih i
        rw [List.take_succ_cons, List.drop_succ_cons, List.flatMap_cons, List.flatMap_cons, h1, h2]
        have e : (i + 1) * 3 = (clP a).length + i * 3 := by show _ = 3 + i * 3; omega
        rw [e, List.take_length_add_append, List.drop_length_add_append]
        exact ⟨rfl, rfl⟩
  rw [putX, List.flatMap_append, List.flatMap_cons, (h L i).1, (h L i).2]
end Go.Proofs.YtafidbjaeopciaaDoor

/-
  A part put into a row of parts: the library's Insert where there is no room, and at the end. Conditions are each theorem's own.
-/
namespace Go.Proofs.YtafidbjaeopciaaDoor
open Go.RowKit Go.Shelf
end Go.Proofs.YtafidbjaeopciaaDoor
