/-
  Contracts and lemmas on which the proofs of this seat stand (several texts in one). Conditions are each theorem's own.
-/
import Derived.Test.YthdaclbgandmcaaHa2
import Derived.Test.YthdaclbgandmcaaHa5
import Derived.Test.YthdaclbgandmcaaHa3
import Derived.Test.YthdaclbgandmcaaHa1

/-
  A region that draws its order, loads, and then stores into what it loaded: a load is taken ahead as long as a certain store has not come up; the walk's moves. Conditions are each theorem's own.
-/
namespace Go.Proofs.Ythdaclbgandmcaa
open Go.RowKit

section
variable {n : Nat} {P : Program} {ops : Array Oper} {Q : Exit → Act → World → Prop} {md : Region.Mode} {S : World → Prop} {y : Nat}
/-- Whatever comes up next, S holds behind it, as long as operation y has not come up. -/
def anyHY (n : Nat) (P : Program) (md : Region.Mode) (ops : Array Oper) (Q : Exit → Act → World → Prop) (y : Nat) (S : World → Prop) : Nat → Array Bool → Act → World → Prop
  | 0, listed, a, w => Region.ready md ops listed = [] ∧ Q .normal a w
  | fuel + 1, listed, a, w => (Region.ready md ops listed = [] → Q .normal a w) ∧
    ∀ i ∈ Region.ready md ops listed, wpOpIn Fence.wide n P ops Q i (fun a' w' => ((listed.setIfInBounds i true).getD y true = false → S w') ∧ anyHY n P md ops Q y S fuel (listed.setIfInBounds i true) a' w') a w
theorem any_of_HY : ∀ (fuel : Nat) (listed : Array Bool) (a : Act) (w : World), anyHY n P md ops Q y S fuel listed a w → wpAnyIn Fence.wide n P md ops Q fuel listed a w
  | 0, _, _, _, h => h
  | fuel + 1, _, _, _, h => ⟨h.1, fun i hi => wpOpIn_mono (fun a' w' h' => any_of_HY fuel _ a' w' h'.2) (h.2 i hi)⟩
/-- Operation y waits for operation i. -/
def waitsB (md : Region.Mode) (ops : Array Oper) (y i : Nat) : Bool := match ops[y]? with | some o => o.after.any fun e => Region.binds md e && e.on == i | none => false
theorem waitsB_spec {i : Nat} {o : Oper} (h : waitsB md ops y i = true) (ho : ops[y]? = some o) : ∃ e ∈ o.after, Region.binds md e = true ∧ e.on = i := by
  unfold waitsB at h
  rw [ho] at h
  obtain ⟨e, he, hb⟩ := Array.any_eq_true'.1 h
  simp only [Bool.and_eq_true, beq_iff_eq] at hb
  exact ⟨e, he, hb.1, hb.2⟩
theorem takeY_all {i : Nat} {oi : Oper} {v : Value} (hi : ops[i]? = some oi) (hw : waitsB md ops y i = true) (hsel : ∀ (j : Nat) (o : Oper) cs b, ops[j]? = some o → o.op ≠ .select cs b) (hQ : ∀ c a w, Q (.panic c) (a.put oi.dst v) w → Q (.panic c) a w) :
    ∀ (fuel : Nat) (listed : Array Bool) (a : Act) (w : World), (∀ j oj, ops[j]? = some oj → j ≠ i → listed.getD j true = false → (∀ e ∈ oj.after, Region.binds md e = true → e.on ≠ i) → oi.apart ops oj = true) →
      i ∈ Region.ready md ops listed → listed.getD y true = false → YieldsIf P ops S oi v a → S w → anyHY n P md ops Q y S fuel (listed.setIfInBounds i true) (a.put oi.dst v) w → anyHY n P md ops Q y S (fuel + 1) listed a w
  | fuel, listed, a, w, free, hr, hyl, hy, hS, H => by
    refine ⟨fun h => (by rw [h] at hr; cases hr), fun j hj => ?_⟩
    by_cases hji : j = i
    · subst hji; exact opI_here hi hy hS ⟨fun _ => hS, H⟩
    have hj' := ready_mono hj hji
    cases fuel with
    | zero => rw [H.1] at hj'; cases hj'
    | succ fuel =>
      obtain ⟨hjun, oj, hoj, hall⟩ := mem_ready.1 hj
      have hnot : ∀ e ∈ oj.after, Region.binds md e = true → e.on ≠ i := fun e he hb heq => by
        have g1 := hall e he hb
        have g0 := (mem_ready.1 hr).1
        rw [heq] at g1
        rcases Nat.lt_or_ge i listed.size with h' | h'
        · simp [h'] at g0 g1; rw [g0] at g1; cases g1
        · simp [Array.getElem?_eq_none h'] at g1
      have hjy : j ≠ y := fun e => by
        subst e
        obtain ⟨e, he, hb, hon⟩ := waitsB_spec hw hoj
        exact hnot e he hb hon
      have hyl' : (listed.setIfInBounds j true).getD y true = false := by rw [getD_set_ne true hjy]; exact hyl
      refine wpOpIn_mono (fun a' w' h3 => ?_) (opI_swap hoj (free j oj hoj hji hjun hnot) (fun cs b => hsel i oi cs b hi) (fun cs b => hsel j oj cs b hoj) hQ hy (H.2 j hj'))
      have hS' : S w' := h3.2.1 (by rw [getD_set_ne true hjy]; by_cases hiy : i = y
                                    · subst hiy
                                      have g0 := (mem_ready.1 hr).1
                                      obtain ⟨e, he, hb, hon⟩ := waitsB_spec hw hi
                                      obtain ⟨_, o2, ho2, hall2⟩ := mem_ready.1 hr
                                      rw [hi] at ho2
                                      cases ho2
                                      have g1 := hall2 e he hb
                                      rw [hon] at g1
                                      exfalso
                                      rcases Nat.lt_or_ge i listed.size with h' | h'
                                      · simp [h'] at g0 g1; rw [g0] at g1; cases g1
                                      · simp [Array.getElem?_eq_none h'] at g1
                                    · rw [getD_set_ne true hiy]; exact hyl)
      refine ⟨fun _ => hS', takeY_all hi hw hsel hQ fuel (listed.setIfInBounds j true) a' w' (fun k ok hk hki hun hno => free k ok hk hki ?_ hno) (ready_mono hr (Ne.symm hji)) hyl' h3.1 hS' (by rw [Array.setIfInBounds_comm _ _ hji]; exact h3.2.2)⟩
      by_cases hjk : j = k
      · subst hjk; exact hjun
      · rw [getD_set_ne true hjk] at hun; exact hun
theorem pureY {i : Nat} {oi : Oper} {v : Value} {fuel : Nat} {listed : Array Bool} {a : Act} {w : World} (hi : ops[i]? = some oi) (hs : Region.noSelect ops = true) (hf : Region.free md ops listed i = true) (hr : (Region.ready md ops listed).contains i = true)
    (hd : waitsB md ops y i = true) (hyl : listed.getD y true = false) (hQ : ∀ c a w, Q (.panic c) (a.put oi.dst v) w → Q (.panic c) a w) (hw : Region.wanted oi (yielded ops a.tmps) = true) (hrun : ∀ w, S w → (execOp a.eval oi).run P w = .ok (.value v) w) (hS : S w)
    (h : anyHY n P md ops Q y S fuel (listed.setIfInBounds i true) (a.put oi.dst v) w) : anyHY n P md ops Q y S (fuel + 1) listed a w :=
  takeY_all hi hd (Region.noSelect_spec hs) hQ fuel listed a w (Region.free_spec hi hf) (by simpa using hr) hyl (.inl ⟨hw, hrun⟩) hS h
theorem oneY {i : Nat} {oi : Oper} {fuel : Nat} {listed : Array Bool} {a : Act} {w : World} (hr : Region.ready md ops listed = [i]) (hi : ops[i]? = some oi) (hw : Region.wanted oi (yielded ops a.tmps) = true)
    (h : ∀ K : Act → World → Prop, (∀ a w, ((listed.setIfInBounds i true).getD y true = false → S w) → anyHY n P md ops Q y S fuel (listed.setIfInBounds i true) a w → K a w) → oi.wpIn Fence.wide n P a w K Q) : anyHY n P md ops Q y S (fuel + 1) listed a w := by
  refine ⟨fun h0 => (by rw [hr] at h0; cases h0), fun j hj => ?_⟩
  rw [hr, List.mem_singleton] at hj
  subst hj
  unfold wpOpIn
  simp only [hi]
  rw [if_pos hw]
  exact h _ (fun a w hS hW => ⟨hS, hW⟩)
theorem doneY {listed : Array Bool} {a : Act} {w : World} (hr : Region.ready md ops listed = []) (h : Q .normal a w) : ∀ fuel, anyHY n P md ops Q y S fuel listed a w
  | 0 => ⟨hr, h⟩
  | _ + 1 => ⟨fun _ => h, by rw [hr]; simp⟩
theorem regionY (y : Nat) (S : World → Prop) {id : Nat} {a : Act} {w : World} (hm : P.follows .mixedOrders = true) (h : anyHY 0 P .any ops Q y S ops.size (Array.replicate ops.size false) a w.drew) : (Code.region id ops true).wp P Q a w :=
  wpIn_wide.1 (wpIn_region_any (n := 0) hm (any_of_HY _ _ _ _ h))
/-- An operation that yields a value; one that goes by its plain law. -/
theorem valI {o : Oper} {a : Act} {w : World} {K : Act → World → Prop} {v : Value} (hrun : (execOp a.eval o).run P w = .ok (.value v) w) (h : K (a.put o.dst v) w) : o.wpIn Fence.wide n P a w K Q :=
  ⟨fun _ _ => trivial, by rw [show Fence.wide.round = none from rfl, Oper.semAt_none, hrun]; exact h⟩
theorem plainI {o : Oper} {a : Act} {w : World} {K : Act → World → Prop} (hr : ∀ r args w', (execOp a.eval o).run P w ≠ .ok (.row r args) w') (h : o.wp P a w K Q) : o.wpIn Fence.wide n P a w K Q := by
  refine ⟨fun _ _ => trivial, ?_⟩
  rw [show Fence.wide.round = none from rfl, Oper.semAt_none]
  unfold Oper.wp at h
  generalize (execOp a.eval o).run P w = r at h hr ⊢
  rcases r with ⟨x, w'⟩ | ⟨x, w'⟩
  · cases x with
    | value v => exact h
    | skip => exact h
    | defer d => exact h
    | enter f args => exact ⟨fun h => (by cases h), callsIn_wide.2 h⟩
    | row r args => exact absurd rfl (hr r args w')
    | _ => exact h.elim
  · cases x with
    | panic v => exact h
    | _ => exact h.elim
end
end Go.Proofs.Ythdaclbgandmcaa

/-
  Contract of the document's Cut of layer 13. Conditions are each theorem's own.
-/
namespace Go.Proofs.Ythdaclbgandmcaa
open Go.RowKit Go.Shelf

section
variable {n : Nat} {Q : Exit → Act → World → Prop} {K : Act → World → Prop} {o : Oper} {a : Act} {w : World}
theorem growI {v : Value} {w' : World} (hrun : (execOp a.eval o).run Try.prog w = .ok (.value v) w') (h : K (a.put o.dst v) w') : o.wpIn Fence.wide n Try.prog a w K Q :=
  ⟨fun _ _ => trivial, by rw [show Fence.wide.round = none from rfl, Oper.semAt_none, hrun]; exact h⟩
theorem skipI {w' : World} (hrun : (execOp a.eval o).run Try.prog w = .ok .skip w') (h : K (a.put o.dst undef) w') : o.wpIn Fence.wide n Try.prog a w K Q :=
  ⟨fun _ _ => trivial, by rw [show Fence.wide.round = none from rfl, Oper.semAt_none, hrun]; exact h⟩
theorem appendI (s x : Operand) (ho : o.op = .call { callee := .builtin .append, args := #[s, x], argTypes := #[32, 32] })
    (base : Nat) (v : Value) (m : Nat) (xs : List Value) (hs : a.eval s = v) (hown : w.ownsRow base 5 1 v m xs)
    (B : Nat) (A : Option Addr) (c : Nat) (bs : List UInt8) (hx : a.eval x = .slice A bs.length c) (hA : A = none → c = 0) (hr : Rd w B A bs)
    (hlen : m + bs.length ≤ 2199023255552) (hbase : base ≤ w.heap.size)
    (h : ∀ v' w', w'.ownsRow base 5 1 v' (m + bs.length) (xs ++ row bs) → w.grownBy w' v.ownBlock → K (a.put o.dst v') w') : o.wpIn Fence.wide n Try.prog a w K Q := by
  obtain ⟨i0, hi, hz0, hz1, hz2⟩ := info_parts info_u8
  rcases A with _ | ad
  · have h0 : bs = [] := by
      rcases Nat.eq_zero_or_pos bs.length with e | e
      · exact List.eq_nil_of_length_eq_zero e
      · obtain ⟨_, _, e', _⟩ := hr e; cases e'
    subst h0
    obtain rfl := hA rfl
    have hrun := run_append_owned_none (P := Try.prog) (w := w) base 32 o.type 5 i0 1 Try.underlying32 hi v m xs hown
    refine growI (v := v) (w' := w) ?_ (h v w (by simpa [row] using hown) (World.grownBy.refl w _))
    simp [execOp, ho, resolve, invoke, builtin, hs, hx, hrun, Result.andThen]
  · obtain ⟨v', w', hrun, h1, h2, _⟩ := run_append_own (P := Try.prog) w base 32 o.type 5 i0 (.int .u8 0) 1 1 Try.underlying32 hi hz0 hz1 hz2 rfl (by decide) v m xs hown ad bs.length c (row bs)
      (by rw [row_length, Nat.mul_one]) hr.src (row_one bs) (by unfold maxLen; omega) (by omega) hbase
    refine growI (v := v') (w' := w') ?_ (h v' w' h1 h2)
    simp [execOp, ho, resolve, invoke, builtin, hs, hx, hrun, Result.andThen]
theorem store_slI {x y : Operand} {p : Addr} {v0 : Value} {A : Option Addr} {m c : Nat} (ho : o.op = .store 32 x y) (hx : a.eval x = .pointer (some p)) (hy : a.eval y = .slice A m c) (hc : w.cell? p = some v0) (hf : w.frozen? p = false)
    (h : K (a.put o.dst undef) (w.setCell p (.slice A m c))) : o.wpIn Fence.wide n Try.prog a w K Q := by
  refine skipI (w' := w.setCell p (.slice A m c)) ?_ h
  unfold execOp
  simp only [ho, hx, hy, Instr.storeAt, Instr.sureAddr, Sem.run_bind, Sem.run_pure, Result.andThen_ok]
  go_simp
end
theorem wpList_growU {ops : Array Oper} {rest : List Oper} {o : Oper} {a : Act} {w w' : World} {Q : Exit → Act → World → Prop} {v : Value} (hg : o.guard = none) (hrun : (execOp a.eval o).run Try.prog w = .ok (.value v) w') (h : wpList Try.prog ops Q rest (a.put o.dst v) w') : wpList Try.prog ops Q (o :: rest) a w :=
  wpList_plain hg fun K hK => by unfold Oper.wp; rw [hrun]; exact hK _ _ h
/-- The length of a slice. -/
def lenV (v : Value) : Nat := match v with | .slice _ n _ => n | _ => 0
theorem own_keepT {w w' : World} {base base' n n' s s' e e' : Nat} {v v' : Value} {xs xs' : List Value} (h : w.ownsRow base e s v n xs) (hv : w.ownsRow base' e' s' v' n' xs') (hg : w.grownBy w' v'.ownBlock) (hne : e' ≠ e) : w'.ownsRow base e s v n xs := by
  refine h.kept hg ?_
  rcases h.2 with ⟨rfl, _⟩ | ⟨g, cap, cur, rfl, _, hgb, _⟩
  · exact .inl rfl
  · refine .inr fun e1 => ?_
    rcases hv.2 with ⟨rfl, _⟩ | ⟨g2, cap2, cur2, rfl, _, hgb2, _⟩
    · simp [Value.ownBlock] at e1
    · have e2 : g = g2 := by simpa [Value.ownBlock] using e1
      subst e2
      rw [hgb] at hgb2
      cases hgb2
      exact hne rfl
theorem KeepR.below {r B : Nat} {X Y Z : World} (k : KeepR r Y Z) (h : Below B X Y) (hr : B ≤ r) : Below B X Z :=
  ⟨k.2.1.trans h.os, k.2.2.1.trans h.tape, k.2.2.2.1.trans h.output, by rw [k.1]; exact h.size, fun i hi => (k.2.2.2.2 i (by omega)).trans (h.block i hi)⟩
end Go.Proofs.Ythdaclbgandmcaa

/-
  Two facts of packets of IPv4 in fragments. No program. Conditions are each theorem's own.
-/
namespace Go.Proofs.Ythdaclbgandmcaa
open Go.RowKit

theorem off_bd {q : P4} (h : chk4 q = 0) : 0 ≤ q.off ∧ q.off ≤ 65535 := by
  obtain ⟨⟨_, _, _, _, _, _, _, _, _, _, _, _, a13, a14, _, _, _, _⟩, _, _⟩ := chk4_ok h
  exact ⟨a13, by omega⟩
theorem mem_datas {l : List P4} {x : P4} (h : x ∈ l) : x.dat.length ≤ (datas l).length := by
  induction l with
  | nil => cases h
  | cons a l ih =>
    unfold datas at ih ⊢
    rw [List.flatMap_cons, List.length_append]
    rcases List.mem_cons.1 h with rfl | h
    · omega
    · have := ih h; omega
theorem datas_le : ∀ (l : List P4) (m : Nat), (∀ q ∈ l, q.dat.length ≤ m) → (datas l).length ≤ l.length * m
  | [], _, _ => by simp [datas]
  | a :: l, m, h => by
    have h1 := datas_le l m (fun q hq => h q (List.mem_cons_of_mem _ hq))
    have h2 := h a (List.mem_cons_self ..)
    unfold datas at h1 ⊢
    rw [List.flatMap_cons, List.length_append, List.length_cons, Nat.add_mul]; omega
end Go.Proofs.Ythdaclbgandmcaa

/-
  Contract of the document's Glue of layer 13. Conditions are each theorem's own.
-/
namespace Go.Proofs.Ythdaclbgandmcaa
open Go.RowKit Go.Shelf

theorem own_keepB {w w' : World} {base E n n' s s' e e' : Nat} {v v' : Value} {xs xs' : List Value} (h : w.ownsRow base e s v n xs) (hs : ∀ k, v.ownBlock = some k → k < E) (hv : w.ownsRow E e' s' v' n' xs') (hg : w.grownBy w' v'.ownBlock) : w'.ownsRow base e s v n xs := by
  refine h.kept hg ?_
  rcases h.2 with ⟨rfl, _⟩ | ⟨g, cap, cur, rfl, _, hgb, _⟩
  · exact .inl rfl
  · refine .inr fun e1 => ?_
    rcases hv.2 with ⟨rfl, _⟩ | ⟨g2, cap2, cur2, rfl, hb2, hgb2, _⟩
    · simp [Value.ownBlock] at e1
    · have e2 : g = g2 := by simpa [Value.ownBlock] using e1
      have := hs g (by simp [Value.ownBlock])
      omega
end Go.Proofs.Ythdaclbgandmcaa

/-
  Parts as they lie in memory; contracts of the document's answers of layer 15 that read them. Conditions are each theorem's own.
-/
namespace Go.Proofs.Ythdaclbgandmcaa
open Go.RowKit Go.Shelf

/-- A part, and where its bytes lie. -/
structure XP where
  p : Pc
  A : Option Addr
  c : Nat
def clP (x : XP) : List Value := [.int .i64 x.p.off, .bool x.p.more, .slice x.A x.p.b.length x.c]
def piE (l : List XP) : List Pc := l.map (·.p)
def okP (p : Pc) : Prop := 0 ≤ p.off ∧ p.stop ≤ 65535
/-- At ⟨g, o⟩ lies a slice of parts; what it reaches lies below block B. -/
structure Ho (w : World) (B g o : Nat) (A : Option Addr) (c : Nat) (l : List XP) : Prop where
  cell : w.cell? ⟨g, o, none⟩ = some (.slice A l.length c)
  gB : g < B
  cap : l.length ≤ c
  rd : RdS clP 3 w B A l
  arg : ∀ x ∈ l, Arg w B x.A x.c x.p.b
  ok : ∀ x ∈ l, okP x.p
  n : l.length ≤ 100000
  none_ : A = none → c = 0
theorem Ho.below {w w' : World} {B g o : Nat} {A : Option Addr} {c : Nat} {l : List XP} (h : Ho w B g o A c l) (hb : Below B w w') : Ho w' B g o A c l :=
  ⟨(hb.cell h.gB).trans h.cell, h.gB, h.cap, h.rd.below hb, fun x hx => (h.arg x hx).below hb, h.ok, h.n, h.none_⟩
theorem Ho.more {w : World} {B B' g o : Nat} {A : Option Addr} {c : Nat} {l : List XP} (h : Ho w B g o A c l) (hB : B ≤ B') : Ho w B' g o A c l :=
  ⟨h.cell, Nat.lt_of_lt_of_le h.gB hB, h.cap, h.rd.more hB, fun x hx => (h.arg x hx).more hB, h.ok, h.n, h.none_⟩
theorem run_load_ps {o : Oper} {a : Act} {w : World} {x : Operand} {p : Addr} {A : Option Addr} {n c : Nat} (ho : o.op = .load 96 x) (hx : a.eval x = .pointer (some p)) (hc : w.cell? p = some (.slice A n c)) :
    (execOp a.eval o).run Try.prog w = .ok (.value (.slice A n c)) w := by
  unfold execOp
  simp only [ho, hx, Instr.loadAt, Instr.sureAddr, Sem.run_bind, Sem.run_pure, Result.andThen_ok]
  go_simp
theorem farP_nn : ∀ l : List Pc, 0 ≤ farP l
  | [] => Int.le_refl _
  | x :: l => by have := farP_nn l; rw [farP]; omega
theorem bytesP_le {n : Int} (hn : 0 ≤ n) : ∀ l : List Pc, (∀ x ∈ l, x.len ≤ n) → 0 ≤ bytesP l ∧ bytesP l ≤ n * (l.length : Int)
  | [], _ => by simp [bytesP]
  | x :: l, h => by
    obtain ⟨h1, h2⟩ := bytesP_le hn l (fun y hy => h y (List.mem_cons_of_mem _ hy))
    have h3 := h x (List.mem_cons_self ..)
    have h4 : 0 ≤ x.len := Int.natCast_nonneg _
    simp only [bytesP, List.length_cons]
    refine ⟨by omega, ?_⟩
    rw [show n * ((l.length + 1 : Nat) : Int) = n * (l.length : Int) + n by rw [Int.natCast_add, Int.mul_add]; simp]
    omega
set_option maxRecDepth 100000 in
set_option maxHeartbeats 1000000 in
theorem r15end (A : Option Addr) (c : Nat) (l : List XP) (B g o : Nat) (w : World) (h : Ho w B g o A c l) (hB : B ≤ w.heap.size) :
    Calls Try.prog 99 #[.pointer (some ⟨g, o, none⟩)] w fun e w' => e = .returned (.int .i64 (endP (piE l))) ∧ Below w.heap.size w w' := by
  obtain ⟨n, hn⟩ : ∃ n, n = l.length := ⟨_, rfl⟩
  have HN := Lib.hid hn
  obtain ⟨L, hL⟩ : ∃ L, L = piE l := ⟨_, rfl⟩
  have HL := Lib.hid hL
  have HO := Lib.hid h
  have k0 := h.cell
  have hgz : g < w.heap.size := cell_block k0
  have hn1 : n ≤ 100000 := by rw [hn]; exact h.n
  have hn2 : n ≤ c := by rw [hn]; exact h.cap
  rw [← hn] at k0
  rw [← hL]
  clear hn hL h
  go_enter Try.func99, Try.ntmps99
  go_wp2
  go_loopw [3] (fun i wr => ∃ (k : Nat), k ≤ n ∧ i = .int .i64 (k : Int) ∧ Hid (endP L = endP (L.drop k)) ∧ Below w.heap.size w wr)
    (fun i _ => n - (intOf i).toNat)
  case atStart => exact ⟨0, Nat.zero_le _, rfl, Lib.hid rfl, Below.refl _ _⟩
  case round =>
    obtain ⟨k, hk, rfl, HE, hbel⟩ := hrel
    have kc := (hbel.cell (p := ⟨g, o, none⟩) hgz).trans k0
    by_cases hlt : k < n
    · skip
      obtain ⟨x, hx⟩ : ∃ x, l[k]? = some x := ⟨_, List.getElem?_eq_getElem (by rw [← HN.out]; exact hlt)⟩
      have hxm := List.mem_of_getElem? hx
      obtain ⟨ok1, ok2⟩ := HO.out.ok x hxm
      have ok3 : x.p.stop = x.p.off + (x.p.b.length : Int) := rfl
      obtain ⟨b1, o1, e1, hb1', hr1⟩ := HO.out.rd (by rw [← HN.out]; omega)
      obtain rfl := e1
      have hr := range_below (hr1 k x hx) hb1' (hbel.mono hB)
      have kx0 : wr.cell? ⟨b1, o1 + k * 3, none⟩ = some (.int .i64 x.p.off) := by simpa using hr 0 _ rfl
      have kx1 : wr.cell? ⟨b1, o1 + k * 3 + 1, none⟩ = some (.bool x.p.more) := hr 1 _ rfl
      have kx2 : wr.cell? ⟨b1, o1 + k * 3 + 2, none⟩ = some (.slice x.A x.p.b.length x.c) := hr 2 _ rfl
      have HXD : Hid (L.drop k = x.p :: L.drop (k + 1)) := Lib.hid (by
        have hl : k < L.length := by rw [HL.out, piE, List.length_map, ← HN.out]; exact hlt
        rw [List.drop_eq_getElem_cons hl]
        congr 1
        have h1 : L[k]? = some x.p := by rw [HL.out, piE, List.getElem?_map, hx]; rfl
        rw [List.getElem?_eq_getElem hl] at h1
        exact Option.some.inj h1)
      have hzr := hbel.size
      have hb1 : b1 < wr.heap.size := by omega
      have hgr : g < wr.heap.size := by omega
      clear hr1 hx
      cases hm : x.p.more with
      | true =>
        rw [hm] at kx1
        go_wp2
        go_roundw
        case rel => exact ⟨k + 1, by omega, by simp, Lib.hid (by rw [HE.out, HXD.out]; rw [endP, hm]; rfl), hbel⟩
        case measure => simp [intOf]; omega
      | false =>
        rw [hm] at kx1
        have HW : Hid (IntKind.i64.wrap (x.p.off + (x.p.b.length : Int)) = x.p.stop) := Lib.hid (by rw [ok3]; exact IntWalk.i64_in _ (by omega))
        go_upto_region 5 with fail
        refine wp_region_held_drew (S := fun w' => Below wr.heap.size wr w') (by kernel_rfl) (Below.refl _ wr).drew (fun hS => ?_)
        refine held_pure (i := 0) (oi := ⟨some 22, _, _, _, _, _⟩) rfl (by kernel_rfl) (by kernel_rfl) (by kernel_rfl) (fun _ _ _ h => h) (by rfl) (v := ?_) (fun w hSw => ?_) hS (fun hS => ?_)
        rotate_left
        · go_simp; try with_reducible rfl
        try go_frame
        refine held_pure (i := 1) (oi := ⟨some 23, _, _, _, _, _⟩) rfl (by kernel_rfl) (by kernel_rfl) (by kernel_rfl) (fun _ _ _ h => h) (by rfl) (v := ?_) (fun w hSw => ?_) hS (fun hS => ?_)
        rotate_left
        · go_simp; try with_reducible rfl
        try go_frame
        refine held_pure (i := 2) (oi := ⟨some 24, _, _, _, _, _⟩) rfl (by kernel_rfl) (by kernel_rfl) (by kernel_rfl) (fun _ _ _ h => h) (by rfl) (v := ?_) (fun w hSw => ?_) hS (fun hS => ?_)
        rotate_left
        · go_simp; try with_reducible rfl
        try go_frame
        refine held_pure (i := 3) (oi := ⟨some 25, _, _, _, _, _⟩) rfl (by kernel_rfl) (by kernel_rfl) (by kernel_rfl) (fun _ _ _ h => h) (by rfl) (fun w hSw => run_load_ps rfl rfl ((hSw.cell (p := ⟨g, o, none⟩) hgr).trans kc)) hS (fun hS => ?_)
        try go_frame
        refine held_pure (i := 4) (oi := ⟨some 26, _, _, _, _, _⟩) rfl (by kernel_rfl) (by kernel_rfl) (by kernel_rfl) (fun _ _ _ h => h) (by rfl) (v := ?_) (fun w hSw => ?_) hS (fun hS => ?_)
        rotate_left
        · go_simp; try with_reducible rfl
        try go_frame
        refine held_pure (i := 5) (oi := ⟨some 27, _, _, _, _, _⟩) rfl (by kernel_rfl) (by kernel_rfl) (by kernel_rfl) (fun _ _ _ h => h) (by rfl) (v := Value.pointer (some ⟨b1, o1 + k * 3, none⟩)) (fun w hSw => by go_simp; try (exact fun h => absurd h (by omega))) hS (fun hS => ?_)
        try go_frame
        refine held_pure (i := 6) (oi := ⟨some 28, _, _, _, _, _⟩) rfl (by kernel_rfl) (by kernel_rfl) (by kernel_rfl) (fun _ _ _ h => h) (by rfl) (v := ?_) (fun w hSw => ?_) hS (fun hS => ?_)
        rotate_left
        · go_simp; try with_reducible rfl
        try go_frame
        refine held_pure (i := 7) (oi := ⟨some 29, _, _, _, _, _⟩) rfl (by kernel_rfl) (by kernel_rfl) (by kernel_rfl) (fun _ _ _ h => h) (by rfl) (fun w hSw => run_load_int rfl rfl ((hSw.cell (p := ⟨b1, o1 + k * 3, none⟩) hb1).trans kx0)) hS (fun hS => ?_)
        try go_frame
        refine held_pure (i := 8) (oi := ⟨some 30, _, _, _, _, _⟩) rfl (by kernel_rfl) (by kernel_rfl) (by kernel_rfl) (fun _ _ _ h => h) (by rfl) (v := ?_) (fun w hSw => ?_) hS (fun hS => ?_)
        rotate_left
        · go_simp; try with_reducible rfl
        try go_frame
        refine held_pure (i := 9) (oi := ⟨some 31, _, _, _, _, _⟩) rfl (by kernel_rfl) (by kernel_rfl) (by kernel_rfl) (fun _ _ _ h => h) (by rfl) (v := ?_) (fun w hSw => ?_) hS (fun hS => ?_)
        rotate_left
        · go_simp; try with_reducible rfl
        try go_frame
        refine held_pure (i := 10) (oi := ⟨some 32, _, _, _, _, _⟩) rfl (by kernel_rfl) (by kernel_rfl) (by kernel_rfl) (fun _ _ _ h => h) (by rfl) (v := ?_) (fun w hSw => ?_) hS (fun hS => ?_)
        rotate_left
        · go_simp; try with_reducible rfl
        try go_frame
        refine held_pure (i := 11) (oi := ⟨some 33, _, _, _, _, _⟩) rfl (by kernel_rfl) (by kernel_rfl) (by kernel_rfl) (fun _ _ _ h => h) (by rfl) (fun w hSw => run_load_ps rfl rfl ((hSw.cell (p := ⟨g, o, none⟩) hgr).trans kc)) hS (fun hS => ?_)
        try go_frame
        refine held_pure (i := 12) (oi := ⟨some 34, _, _, _, _, _⟩) rfl (by kernel_rfl) (by kernel_rfl) (by kernel_rfl) (fun _ _ _ h => h) (by rfl) (v := ?_) (fun w hSw => ?_) hS (fun hS => ?_)
        rotate_left
        · go_simp; try with_reducible rfl
        try go_frame
        refine held_pure (i := 13) (oi := ⟨some 35, _, _, _, _, _⟩) rfl (by kernel_rfl) (by kernel_rfl) (by kernel_rfl) (fun _ _ _ h => h) (by rfl) (v := Value.pointer (some ⟨b1, o1 + k * 3, none⟩)) (fun w hSw => by go_simp; try (exact fun h => absurd h (by omega))) hS (fun hS => ?_)
        try go_frame
        refine held_pure (i := 14) (oi := ⟨some 36, _, _, _, _, _⟩) rfl (by kernel_rfl) (by kernel_rfl) (by kernel_rfl) (fun _ _ _ h => h) (by rfl) (v := Value.pointer (some ⟨b1, o1 + k * 3 + 2, none⟩)) (fun w hSw => by go_simp) hS (fun hS => ?_)
        try go_frame
        refine held_pure (i := 15) (oi := ⟨some 37, _, _, _, _, _⟩) rfl (by kernel_rfl) (by kernel_rfl) (by kernel_rfl) (fun _ _ _ h => h) (by rfl) (fun w hSw => run_load_sl rfl rfl ((hSw.cell (p := ⟨b1, o1 + k * 3 + 2, none⟩) hb1).trans kx2)) hS (fun hS => ?_)
        try go_frame
        refine held_pure (i := 16) (oi := ⟨some 38, _, _, _, _, _⟩) rfl (by kernel_rfl) (by kernel_rfl) (by kernel_rfl) (fun _ _ _ h => h) (by rfl) (v := ?_) (fun w hSw => ?_) hS (fun hS => ?_)
        rotate_left
        · go_simp; try with_reducible rfl
        try go_frame
        refine held_pure (i := 17) (oi := ⟨some 39, _, _, _, _, _⟩) rfl (by kernel_rfl) (by kernel_rfl) (by kernel_rfl) (fun _ _ _ h => h) (by rfl) (v := .int .i64 x.p.stop) (fun w hSw => by go_simp; exact HW.out) hS (fun hS => ?_)
        try go_frame
        refine held_pure (i := 18) (oi := ⟨some 2, _, _, _, _, _⟩) rfl (by kernel_rfl) (by kernel_rfl) (by kernel_rfl) (fun _ _ _ h => h) (by rfl) (v := ?_) (fun w hSw => ?_) hS (fun hS => ?_)
        rotate_left
        · go_simp; try with_reducible rfl
        try go_frame
        refine wpAnyH_done (by kernel_rfl) ?_ _
        go_wp2_with fail
        go_ret
        exact ⟨by rw [HE.out, HXD.out, endP, hm]; rfl, hbel.trans (hS.mono hzr)⟩
    · obtain rfl : n = k := by omega
      go_wp2
      go_ret
      exact ⟨by rw [HE.out, List.drop_eq_nil_of_le (by rw [HL.out, piE, List.length_map, ← HN.out]; exact Nat.le_refl _)]; rfl, hbel⟩
set_option maxRecDepth 100000 in
set_option maxHeartbeats 1000000 in
theorem r15far (A : Option Addr) (c : Nat) (l : List XP) (B g o : Nat) (w : World) (h : Ho w B g o A c l) (hB : B ≤ w.heap.size) :
    Calls Try.prog 100 #[.pointer (some ⟨g, o, none⟩)] w fun e w' => e = .returned (.int .i64 (farP (piE l))) ∧ Below w.heap.size w w' := by
  obtain ⟨n, hn⟩ : ∃ n, n = l.length := ⟨_, rfl⟩
  have HN := Lib.hid hn
  obtain ⟨L, hL⟩ : ∃ L, L = piE l := ⟨_, rfl⟩
  have HL := Lib.hid hL
  have HO := Lib.hid h
  have k0 := h.cell
  have hgz : g < w.heap.size := cell_block k0
  have hn1 : n ≤ 100000 := by rw [hn]; exact h.n
  have hn2 : n ≤ c := by rw [hn]; exact h.cap
  rw [← hn] at k0
  rw [← hL]
  clear hn hL h
  go_enter Try.func100, Try.ntmps100
  go_wp2
  go_loopw [3, 4] (fun t i wr => ∃ (k : Nat) (s : Int), k ≤ n ∧ i = .int .i64 (k : Int) ∧ t = .int .i64 s ∧ (0 ≤ s ∧ s ≤ 65535) ∧ Hid (farP L = max s (farP (L.drop k))) ∧ Below w.heap.size w wr)
    (fun t i _ => n - (intOf i).toNat)
  case atStart => exact ⟨0, 0, Nat.zero_le _, rfl, rfl, by omega, Lib.hid (by rw [List.drop_zero]; exact (Int.max_eq_right (farP_nn _)).symm), Below.refl _ _⟩
  case round =>
    obtain ⟨k, s, hk, rfl, rfl, hs0, HE, hbel⟩ := hrel
    have kc := (hbel.cell (p := ⟨g, o, none⟩) hgz).trans k0
    by_cases hlt : k < n
    · skip
      obtain ⟨x, hx⟩ : ∃ x, l[k]? = some x := ⟨_, List.getElem?_eq_getElem (by rw [← HN.out]; exact hlt)⟩
      have hxm := List.mem_of_getElem? hx
      obtain ⟨ok1, ok2⟩ := HO.out.ok x hxm
      have ok3 : x.p.stop = x.p.off + (x.p.b.length : Int) := rfl
      obtain ⟨b1, o1, e1, hb1', hr1⟩ := HO.out.rd (by rw [← HN.out]; omega)
      obtain rfl := e1
      have hr := range_below (hr1 k x hx) hb1' (hbel.mono hB)
      have kx0 : wr.cell? ⟨b1, o1 + k * 3, none⟩ = some (.int .i64 x.p.off) := by simpa using hr 0 _ rfl
      have kx1 : wr.cell? ⟨b1, o1 + k * 3 + 1, none⟩ = some (.bool x.p.more) := hr 1 _ rfl
      have kx2 : wr.cell? ⟨b1, o1 + k * 3 + 2, none⟩ = some (.slice x.A x.p.b.length x.c) := hr 2 _ rfl
      have HXD : Hid (L.drop k = x.p :: L.drop (k + 1)) := Lib.hid (by
        have hl : k < L.length := by rw [HL.out, piE, List.length_map, ← HN.out]; exact hlt
        rw [List.drop_eq_getElem_cons hl]
        congr 1
        have h1 : L[k]? = some x.p := by rw [HL.out, piE, List.getElem?_map, hx]; rfl
        rw [List.getElem?_eq_getElem hl] at h1
        exact Option.some.inj h1)
      have hzr := hbel.size
      have hb1 : b1 < wr.heap.size := by omega
      have hgr : g < wr.heap.size := by omega
      clear hr1 hx
      have HW : Hid (IntKind.i64.wrap (x.p.off + (x.p.b.length : Int)) = x.p.stop) := Lib.hid (by rw [ok3]; exact IntWalk.i64_in _ (by omega))
      go_upto_region 5 with fail
      refine wp_region_held_drew (S := fun w' => Below wr.heap.size wr w') (by kernel_rfl) (Below.refl _ wr).drew (fun hS => ?_)
      refine held_pure (i := 0) (oi := ⟨some 14, _, _, _, _, _⟩) rfl (by kernel_rfl) (by kernel_rfl) (by kernel_rfl) (fun _ _ _ h => h) (by rfl) (v := ?_) (fun w hSw => ?_) hS (fun hS => ?_)
      rotate_left
      · go_simp; try with_reducible rfl
      try go_frame
      refine held_pure (i := 1) (oi := ⟨some 15, _, _, _, _, _⟩) rfl (by kernel_rfl) (by kernel_rfl) (by kernel_rfl) (fun _ _ _ h => h) (by rfl) (v := ?_) (fun w hSw => ?_) hS (fun hS => ?_)
      rotate_left
      · go_simp; try with_reducible rfl
      try go_frame
      refine held_pure (i := 2) (oi := ⟨some 16, _, _, _, _, _⟩) rfl (by kernel_rfl) (by kernel_rfl) (by kernel_rfl) (fun _ _ _ h => h) (by rfl) (v := ?_) (fun w hSw => ?_) hS (fun hS => ?_)
      rotate_left
      · go_simp; try with_reducible rfl
      try go_frame
      refine held_pure (i := 3) (oi := ⟨some 17, _, _, _, _, _⟩) rfl (by kernel_rfl) (by kernel_rfl) (by kernel_rfl) (fun _ _ _ h => h) (by rfl) (v := ?_) (fun w hSw => ?_) hS (fun hS => ?_)
      rotate_left
      · go_simp; try with_reducible rfl
      try go_frame
      refine held_pure (i := 4) (oi := ⟨some 18, _, _, _, _, _⟩) rfl (by kernel_rfl) (by kernel_rfl) (by kernel_rfl) (fun _ _ _ h => h) (by rfl) (fun w hSw => run_load_ps rfl rfl ((hSw.cell (p := ⟨g, o, none⟩) hgr).trans kc)) hS (fun hS => ?_)
      try go_frame
      refine held_pure (i := 5) (oi := ⟨some 19, _, _, _, _, _⟩) rfl (by kernel_rfl) (by kernel_rfl) (by kernel_rfl) (fun _ _ _ h => h) (by rfl) (v := ?_) (fun w hSw => ?_) hS (fun hS => ?_)
      rotate_left
      · go_simp; try with_reducible rfl
      try go_frame
      refine held_pure (i := 6) (oi := ⟨some 20, _, _, _, _, _⟩) rfl (by kernel_rfl) (by kernel_rfl) (by kernel_rfl) (fun _ _ _ h => h) (by rfl) (v := Value.pointer (some ⟨b1, o1 + k * 3, none⟩)) (fun w hSw => by go_simp; try (exact fun h => absurd h (by omega))) hS (fun hS => ?_)
      try go_frame
      refine held_pure (i := 7) (oi := ⟨some 21, _, _, _, _, _⟩) rfl (by kernel_rfl) (by kernel_rfl) (by kernel_rfl) (fun _ _ _ h => h) (by rfl) (v := ?_) (fun w hSw => ?_) hS (fun hS => ?_)
      rotate_left
      · go_simp; try with_reducible rfl
      try go_frame
      refine held_pure (i := 8) (oi := ⟨some 22, _, _, _, _, _⟩) rfl (by kernel_rfl) (by kernel_rfl) (by kernel_rfl) (fun _ _ _ h => h) (by rfl) (fun w hSw => run_load_int rfl rfl ((hSw.cell (p := ⟨b1, o1 + k * 3, none⟩) hb1).trans kx0)) hS (fun hS => ?_)
      try go_frame
      refine held_pure (i := 9) (oi := ⟨some 23, _, _, _, _, _⟩) rfl (by kernel_rfl) (by kernel_rfl) (by kernel_rfl) (fun _ _ _ h => h) (by rfl) (v := ?_) (fun w hSw => ?_) hS (fun hS => ?_)
      rotate_left
      · go_simp; try with_reducible rfl
      try go_frame
      refine held_pure (i := 10) (oi := ⟨some 24, _, _, _, _, _⟩) rfl (by kernel_rfl) (by kernel_rfl) (by kernel_rfl) (fun _ _ _ h => h) (by rfl) (v := ?_) (fun w hSw => ?_) hS (fun hS => ?_)
      rotate_left
      · go_simp; try with_reducible rfl
      try go_frame
      refine held_pure (i := 11) (oi := ⟨some 25, _, _, _, _, _⟩) rfl (by kernel_rfl) (by kernel_rfl) (by kernel_rfl) (fun _ _ _ h => h) (by rfl) (v := ?_) (fun w hSw => ?_) hS (fun hS => ?_)
      rotate_left
      · go_simp; try with_reducible rfl
      try go_frame
      refine held_pure (i := 12) (oi := ⟨some 26, _, _, _, _, _⟩) rfl (by kernel_rfl) (by kernel_rfl) (by kernel_rfl) (fun _ _ _ h => h) (by rfl) (fun w hSw => run_load_ps rfl rfl ((hSw.cell (p := ⟨g, o, none⟩) hgr).trans kc)) hS (fun hS => ?_)
      try go_frame
      refine held_pure (i := 13) (oi := ⟨some 27, _, _, _, _, _⟩) rfl (by kernel_rfl) (by kernel_rfl) (by kernel_rfl) (fun _ _ _ h => h) (by rfl) (v := ?_) (fun w hSw => ?_) hS (fun hS => ?_)
      rotate_left
      · go_simp; try with_reducible rfl
      try go_frame
      refine held_pure (i := 14) (oi := ⟨some 28, _, _, _, _, _⟩) rfl (by kernel_rfl) (by kernel_rfl) (by kernel_rfl) (fun _ _ _ h => h) (by rfl) (v := Value.pointer (some ⟨b1, o1 + k * 3, none⟩)) (fun w hSw => by go_simp; try (exact fun h => absurd h (by omega))) hS (fun hS => ?_)
      try go_frame
      refine held_pure (i := 15) (oi := ⟨some 29, _, _, _, _, _⟩) rfl (by kernel_rfl) (by kernel_rfl) (by kernel_rfl) (fun _ _ _ h => h) (by rfl) (v := Value.pointer (some ⟨b1, o1 + k * 3 + 2, none⟩)) (fun w hSw => by go_simp) hS (fun hS => ?_)
      try go_frame
      refine held_pure (i := 16) (oi := ⟨some 30, _, _, _, _, _⟩) rfl (by kernel_rfl) (by kernel_rfl) (by kernel_rfl) (fun _ _ _ h => h) (by rfl) (fun w hSw => run_load_sl rfl rfl ((hSw.cell (p := ⟨b1, o1 + k * 3 + 2, none⟩) hb1).trans kx2)) hS (fun hS => ?_)
      try go_frame
      refine held_pure (i := 17) (oi := ⟨some 31, _, _, _, _, _⟩) rfl (by kernel_rfl) (by kernel_rfl) (by kernel_rfl) (fun _ _ _ h => h) (by rfl) (v := ?_) (fun w hSw => ?_) hS (fun hS => ?_)
      rotate_left
      · go_simp; try with_reducible rfl
      try go_frame
      refine held_pure (i := 18) (oi := ⟨some 32, _, _, _, _, _⟩) rfl (by kernel_rfl) (by kernel_rfl) (by kernel_rfl) (fun _ _ _ h => h) (by rfl) (v := .int .i64 x.p.stop) (fun w hSw => by go_simp; exact HW.out) hS (fun hS => ?_)
      try go_frame
      refine held_pure (i := 19) (oi := ⟨some 33, _, _, _, _, _⟩) rfl (by kernel_rfl) (by kernel_rfl) (by kernel_rfl) (fun _ _ _ h => h) (by rfl) (v := .int .i64 (max s x.p.stop)) (fun w hSw => by go_simp) hS (fun hS => ?_)
      try go_frame
      refine held_pure (i := 20) (oi := ⟨some 3, _, _, _, _, _⟩) rfl (by kernel_rfl) (by kernel_rfl) (by kernel_rfl) (fun _ _ _ h => h) (by rfl) (v := ?_) (fun w hSw => ?_) hS (fun hS => ?_)
      rotate_left
      · go_simp; try with_reducible rfl
      try go_frame
      refine wpAnyH_done (by kernel_rfl) ?_ _
      go_wp2_with fail
      go_roundw
      case rel => exact ⟨k + 1, max s x.p.stop, by omega, by simp, rfl, by omega, Lib.hid (by rw [HE.out, HXD.out, farP]; omega), hbel.trans (hS.mono hzr)⟩
      case measure => simp [intOf]; omega
    · obtain rfl : n = k := by omega
      go_wp2
      go_ret
      exact ⟨by rw [HE.out, List.drop_eq_nil_of_le (by rw [HL.out, piE, List.length_map, ← HN.out]; exact Nat.le_refl _), farP, Int.max_eq_left hs0.1]; rfl, hbel⟩
set_option maxRecDepth 100000 in
set_option maxHeartbeats 1000000 in
theorem r15bytes (A : Option Addr) (c : Nat) (l : List XP) (B g o : Nat) (w : World) (h : Ho w B g o A c l) (hB : B ≤ w.heap.size) :
    Calls Try.prog 59 #[.pointer (some ⟨g, o, none⟩)] w fun e w' => e = .returned (.int .i64 (bytesP (piE l))) ∧ Below w.heap.size w w' := by
  obtain ⟨n, hn⟩ : ∃ n, n = l.length := ⟨_, rfl⟩
  have HN := Lib.hid hn
  obtain ⟨L, hL⟩ : ∃ L, L = piE l := ⟨_, rfl⟩
  have HL := Lib.hid hL
  have HO := Lib.hid h
  have k0 := h.cell
  have hgz : g < w.heap.size := cell_block k0
  have hn1 : n ≤ 100000 := by rw [hn]; exact h.n
  have hn2 : n ≤ c := by rw [hn]; exact h.cap
  rw [← hn] at k0
  rw [← hL]
  clear hn hL h
  go_enter Try.func59, Try.ntmps59
  go_wp2
  go_loopw [3, 4] (fun t i wr => ∃ (k : Nat) (s : Int), k ≤ n ∧ i = .int .i64 (k : Int) ∧ t = .int .i64 s ∧ (0 ≤ s ∧ s ≤ 65535 * (k : Int)) ∧ Hid (bytesP L = s + bytesP (L.drop k)) ∧ Below w.heap.size w wr)
    (fun t i _ => n - (intOf i).toNat)
  case atStart => exact ⟨0, 0, Nat.zero_le _, rfl, rfl, by omega, Lib.hid (by rw [List.drop_zero, Int.zero_add]), Below.refl _ _⟩
  case round =>
    obtain ⟨k, s, hk, rfl, rfl, hs0, HE, hbel⟩ := hrel
    have kc := (hbel.cell (p := ⟨g, o, none⟩) hgz).trans k0
    by_cases hlt : k < n
    · skip
      obtain ⟨x, hx⟩ : ∃ x, l[k]? = some x := ⟨_, List.getElem?_eq_getElem (by rw [← HN.out]; exact hlt)⟩
      have hxm := List.mem_of_getElem? hx
      obtain ⟨ok1, ok2⟩ := HO.out.ok x hxm
      have ok3 : x.p.stop = x.p.off + (x.p.b.length : Int) := rfl
      obtain ⟨b1, o1, e1, hb1', hr1⟩ := HO.out.rd (by rw [← HN.out]; omega)
      obtain rfl := e1
      have hr := range_below (hr1 k x hx) hb1' (hbel.mono hB)
      have kx0 : wr.cell? ⟨b1, o1 + k * 3, none⟩ = some (.int .i64 x.p.off) := by simpa using hr 0 _ rfl
      have kx1 : wr.cell? ⟨b1, o1 + k * 3 + 1, none⟩ = some (.bool x.p.more) := hr 1 _ rfl
      have kx2 : wr.cell? ⟨b1, o1 + k * 3 + 2, none⟩ = some (.slice x.A x.p.b.length x.c) := hr 2 _ rfl
      have HXD : Hid (L.drop k = x.p :: L.drop (k + 1)) := Lib.hid (by
        have hl : k < L.length := by rw [HL.out, piE, List.length_map, ← HN.out]; exact hlt
        rw [List.drop_eq_getElem_cons hl]
        congr 1
        have h1 : L[k]? = some x.p := by rw [HL.out, piE, List.getElem?_map, hx]; rfl
        rw [List.getElem?_eq_getElem hl] at h1
        exact Option.some.inj h1)
      have hzr := hbel.size
      have hb1 : b1 < wr.heap.size := by omega
      have hgr : g < wr.heap.size := by omega
      clear hr1 hx
      have hb0 : x.p.b.length ≤ 65535 := by omega
      have e2 : wrap64 (s + (x.p.b.length : Int)) = s + (x.p.b.length : Int) := by unfold wrap64; omega
      go_wp2
      go_roundw
      case rel => exact ⟨k + 1, s + (x.p.b.length : Int), by omega, by simp, rfl, by omega, Lib.hid (by rw [HE.out, HXD.out, bytesP, Pc.len]; omega), hbel⟩
      case measure => simp [intOf]; omega
    · obtain rfl : n = k := by omega
      go_wp2
      go_ret
      exact ⟨by rw [HE.out, List.drop_eq_nil_of_le (by rw [HL.out, piE, List.length_map, ← HN.out]; exact Nat.le_refl _), bytesP, Int.add_zero]; rfl, hbel⟩
theorem cover_cons (x : Pc) (l : List Pc) (a : Int) : coverP (x :: l) a = ((decide (x.off ≤ a) && decide (a < x.stop)) || coverP l a) := by simp [coverP]
end Go.Proofs.Ythdaclbgandmcaa

/-
  Contracts of the document's same, shares and Room of layer 15. Conditions are each theorem's own.
-/
namespace Go.Proofs.Ythdaclbgandmcaa
open Go.RowKit Go.Shelf

theorem clP_one (x : XP) : (clP x).toArray.all (·.oneCell') = true := by simp [clP, Value.oneCell']
theorem run_load_pc {o : Oper} {a : Act} {w : World} {x : Operand} {g i : Nat} {cs : List Value} (ho : o.op = .load 172 x) (hx : a.eval x = .pointer (some ⟨g, i, none⟩)) (hr : w.rangeAt g i cs) (hl : cs.length = 3) :
    (execOp a.eval o).run Try.prog w = .ok (.value (.agg cs.toArray)) w := by
  have h := run_loadVar_mid (P := Try.prog) w g i 172 cs _ hr Try.underlying172 rfl (by rw [hl]; kernel_rfl)
  unfold execOp
  simp only [ho, hx, Instr.loadAt, Instr.sureAddr, Sem.run_bind, Sem.run_pure, Result.andThen_ok, h]
theorem pc_store {ops : Array Oper} {rest : List Oper} {x y : Operand} {ty : TypeId} {pos : String} {af : Array Edge} {a : Act} {w : World} {Q : Exit → Act → World → Prop}
    {g : Nat} {t : TypeId} {cs old : Array Value} (hx : a.eval x = .pointer (some ⟨g, 0, none⟩)) (hy : a.eval y = .agg cs) (hg : w.heap[g]? = some (.cells old t (0, 0))) (ho : old.size = 3) (hl : cs.size = 3) (h1 : cs.all (·.oneCell') = true)
    (h : wpList Try.prog ops Q rest (a.put none undef) (w.setRow g cs)) : wpList Try.prog ops Q (⟨none, .store 172 x y, ty, pos, af, none⟩ :: rest) a w :=
  wpList_plain rfl fun _ hK => wp_store_row 172 x y rfl g cs hx hy t old hg (by rw [hl]; kernel_rfl) (by rw [ho, hl]) h1 (hK _ _ h)
theorem pc_store_new {ops : Array Oper} {rest : List Oper} {x y : Operand} {ty : TypeId} {pos : String} {af : Array Edge} {a : Act} {w : World} {Q : Exit → Act → World → Prop}
    {t : TypeId} {cs old : Array Value} (hx : a.eval x = .pointer (some ⟨w.heap.size, 0, none⟩)) (hy : a.eval y = .agg cs) (ho : old.size = 3) (hl : cs.size = 3) (h1 : cs.all (·.oneCell') = true)
    (h : wpList Try.prog ops Q rest (a.put none undef) (w.alloc (.cells cs t))) : wpList Try.prog ops Q (⟨none, .store 172 x y, ty, pos, af, none⟩ :: rest) a (w.alloc (.cells old t)) :=
  pc_store hx hy (World.alloc_heap_new w _) ho hl h1 (by rw [World.setRow_alloc_new]; exact h)
theorem same_cons (x : Pc) (l : List Pc) (a : Int) (m : Bool) (b : List UInt8) : sameP (x :: l) ⟨a, m, b⟩ = (((x.off == a) && (x.more == m) && decide (x.b = b)) || sameP l ⟨a, m, b⟩) := by
  obtain ⟨x1, x2, x3⟩ := x
  rw [sameP, sameP, List.any_cons]
  congr 1
  rw [Bool.eq_iff_iff]
  simp [and_assoc]
theorem sharing_iff {x p : Pc} : sharing x p = true ↔ (0 < x.len ∧ 0 < p.len ∧ x.off < p.stop ∧ p.off < x.stop) ∨ (x.off = p.off ∧ x.len = 0 ∧ p.len = 0) := by
  simp only [sharing, Bool.or_eq_true, Bool.and_eq_true, decide_eq_true_eq, beq_iff_eq, and_assoc]
theorem shares_cons (x : Pc) (l : List Pc) (p : Pc) : sharesP (x :: l) p = (sharing x p || sharesP l p) := by simp [sharesP]
set_option maxRecDepth 100000 in
set_option maxHeartbeats 1000000 in
theorem r15same (A : Option Addr) (c : Nat) (l : List XP) (B g o : Nat) (a : Int) (m : Bool) (A' : Option Addr) (b : List UInt8) (c' : Nat) (w : World) (h : Ho w B g o A c l) (hB : B ≤ w.heap.size) (hA' : Rd w w.heap.size A' b) :
    Calls Try.prog 97 #[.pointer (some ⟨g, o, none⟩), .int .i64 a, .bool m, .slice A' b.length c'] w fun e w' => e = .returned (.bool (sameP (piE l) ⟨a, m, b⟩)) ∧ Below w.heap.size w w' := by
  obtain ⟨n, hn⟩ : ∃ n, n = l.length := ⟨_, rfl⟩
  have HN := Lib.hid hn
  obtain ⟨L, hL⟩ : ∃ L, L = piE l := ⟨_, rfl⟩
  have HL := Lib.hid hL
  have HO := Lib.hid h
  have k0 := h.cell
  have hgz : g < w.heap.size := cell_block k0
  have hn1 : n ≤ 100000 := by rw [hn]; exact h.n
  have hn2 : n ≤ c := by rw [hn]; exact h.cap
  rw [← hn] at k0
  rw [← hL]
  clear hn hL h
  go_enter Try.func97, Try.ntmps97
  go_wp2
  go_loopw [9] (fun i wr => ∃ (k : Nat), k ≤ n ∧ i = .int .i64 (k : Int) ∧ Hid (sameP L ⟨a, m, b⟩ = sameP (L.drop k) ⟨a, m, b⟩) ∧ Below w.heap.size w wr)
    (fun i _ => n - (intOf i).toNat)
  case atStart => exact ⟨0, Nat.zero_le _, rfl, Lib.hid rfl, Below.refl _ _⟩
  case round =>
    obtain ⟨k, hk, rfl, HE, hbel⟩ := hrel
    have kc := (hbel.cell (p := ⟨g, o, none⟩) hgz).trans k0
    by_cases hlt : k < n
    · skip
      obtain ⟨x, hx⟩ : ∃ x, l[k]? = some x := ⟨_, List.getElem?_eq_getElem (by rw [← HN.out]; exact hlt)⟩
      have hxm := List.mem_of_getElem? hx
      obtain ⟨ok1, ok2⟩ := HO.out.ok x hxm
      have ok3 : x.p.stop = x.p.off + (x.p.b.length : Int) := rfl
      obtain ⟨b1, o1, e1, hb1', hr1⟩ := HO.out.rd (by rw [← HN.out]; omega)
      obtain rfl := e1
      have hr := range_below (hr1 k x hx) hb1' (hbel.mono hB)
      have kx0 : wr.cell? ⟨b1, o1 + k * 3, none⟩ = some (.int .i64 x.p.off) := by simpa using hr 0 _ rfl
      have kx1 : wr.cell? ⟨b1, o1 + k * 3 + 1, none⟩ = some (.bool x.p.more) := hr 1 _ rfl
      have kx2 : wr.cell? ⟨b1, o1 + k * 3 + 2, none⟩ = some (.slice x.A x.p.b.length x.c) := hr 2 _ rfl
      have HXD : Hid (L.drop k = x.p :: L.drop (k + 1)) := Lib.hid (by
        have hl : k < L.length := by rw [HL.out, piE, List.length_map, ← HN.out]; exact hlt
        rw [List.drop_eq_getElem_cons hl]
        congr 1
        have h1 : L[k]? = some x.p := by rw [HL.out, piE, List.getElem?_map, hx]; rfl
        rw [List.getElem?_eq_getElem hl] at h1
        exact Option.some.inj h1)
      have hzr := hbel.size
      have hb1 : b1 < wr.heap.size := by omega
      have hgr : g < wr.heap.size := by omega
      clear hr1 hx
      have hX : Below wr.heap.size wr (wr.alloc (.cells (clP x).toArray 172)) := (Below.refl _ wr).alloc (Nat.le_refl _) _
      have hat := World.alloc_heap_new wr (.cells (clP x).toArray 172)
      go_upto_region 5 with (first
        | ((with_reducible show wpList _ _ _ (Oper.mk _ (Op.load 172 _) _ _ _ _ :: _) _ _); refine wpList_val (v := .agg (clP x).toArray) rfl (run_load_pc rfl rfl hr rfl) ?_)
        | ((with_reducible show wpList _ _ _ (Oper.mk _ (Op.store 172 _ _) _ _ _ _ :: _) _ _); refine pc_store_new (cs := (clP x).toArray) rfl rfl rfl rfl (clP_one x) ?_))
      obtain ⟨bx, hbx⟩ : ∃ b, b = wr.heap.size := ⟨_, rfl⟩
      rw [← hbx] at hat ⊢
      have hBX := hbel.trans (hX.mono hzr)
      clear hr hbx
      generalize wr.alloc (.cells (clP x).toArray 172) = X at *
      have j0 : X.cell? ⟨bx, 0, none⟩ = some (.int .i64 x.p.off) := by rw [cell_of_row _ _ _ _ _ _ hat]; rfl
      have j1 : X.cell? ⟨bx, 1, none⟩ = some (.bool x.p.more) := by rw [cell_of_row _ _ _ _ _ _ hat]; rfl
      have j2 : X.cell? ⟨bx, 2, none⟩ = some (.slice x.A x.p.b.length x.c) := by rw [cell_of_row _ _ _ _ _ _ hat]; rfl
      clear hX hat kx0 kx1 kx2 kc
      have c1 := conv_any x.A x.p.b x.c w.heap.size X (((HO.out.arg x hxm).below (hBX.mono hB)).more hB).rd
      have c2 := conv_any A' b c' w.heap.size X (hA'.below hBX)
      cases e1 : (x.p.off == a) with
      | false =>
        have hcv : ((x.p.off == a) && (x.p.more == m) && decide (x.p.b = b)) = false := by rw [e1]; rfl
        go_wp2
        go_roundw
        case rel => exact ⟨k + 1, by omega, by simp, Lib.hid (by rw [HE.out, HXD.out, same_cons, hcv]; rfl), hBX⟩
        case measure => simp [intOf]; omega
      | true =>
        cases e2 : (x.p.more == m) with
        | false =>
          have hcv : ((x.p.off == a) && (x.p.more == m) && decide (x.p.b = b)) = false := by rw [e1, e2]; rfl
          go_wp2
          go_roundw
          case rel => exact ⟨k + 1, by omega, by simp, Lib.hid (by rw [HE.out, HXD.out, same_cons, hcv]; rfl), hBX⟩
          case measure => simp [intOf]; omega
        | true =>
          cases e3 : decide (x.p.b = b) with
          | false =>
            have hcv : ((x.p.off == a) && (x.p.more == m) && decide (x.p.b = b)) = false := by rw [e1, e2, e3]; rfl
            have e4 : ((strB x.p.b).toList == (strB b).toList) = false := by rw [strB_eq]; exact e3
            go_wp2
            go_roundw
            case rel => exact ⟨k + 1, by omega, by simp, Lib.hid (by rw [HE.out, HXD.out, same_cons, hcv]; rfl), hBX⟩
            case measure => simp [intOf]; omega
          | true =>
            have e4 : ((strB x.p.b).toList == (strB b).toList) = true := by rw [strB_eq]; exact e3
            have hcv : ((x.p.off == a) && (x.p.more == m) && decide (x.p.b = b)) = true := by rw [e1, e2, e3]; rfl
            go_wp2
            go_ret
            exact ⟨by rw [HE.out, HXD.out, same_cons, hcv]; rfl, hBX⟩
    · obtain rfl : n = k := by omega
      go_wp2
      go_ret
      exact ⟨by rw [HE.out, List.drop_eq_nil_of_le (by rw [HL.out, piE, List.length_map, ← HN.out]; exact Nat.le_refl _)]; rfl, hbel⟩
set_option maxRecDepth 100000 in
set_option maxHeartbeats 1000000 in
theorem r15shares (A : Option Addr) (c : Nat) (l : List XP) (B g o : Nat) (a : Int) (m0 : Bool) (A' : Option Addr) (b : List UInt8) (c' : Nat) (w : World) (h : Ho w B g o A c l) (hB : B ≤ w.heap.size) (ha0 : 0 ≤ a) (ha1 : a + (b.length : Int) ≤ 65535) :
    Calls Try.prog 98 #[.pointer (some ⟨g, o, none⟩), .int .i64 a, .slice A' b.length c'] w fun e w' => e = .returned (.bool (sharesP (piE l) ⟨a, m0, b⟩)) ∧ Below w.heap.size w w' := by
  obtain ⟨n, hn⟩ : ∃ n, n = l.length := ⟨_, rfl⟩
  have HN := Lib.hid hn
  obtain ⟨L, hL⟩ : ∃ L, L = piE l := ⟨_, rfl⟩
  have HL := Lib.hid hL
  have HO := Lib.hid h
  have k0 := h.cell
  have hgz : g < w.heap.size := cell_block k0
  have hn1 : n ≤ 100000 := by rw [hn]; exact h.n
  have hn2 : n ≤ c := by rw [hn]; exact h.cap
  rw [← hn] at k0
  rw [← hL]
  clear hn hL h
  go_enter Try.func98, Try.ntmps98
  go_wp2
  go_loopw [7] (fun i wr => ∃ (k : Nat), k ≤ n ∧ i = .int .i64 (k : Int) ∧ Hid (sharesP L ⟨a, m0, b⟩ = sharesP (L.drop k) ⟨a, m0, b⟩) ∧ Below w.heap.size w wr)
    (fun i _ => n - (intOf i).toNat)
  case atStart => exact ⟨0, Nat.zero_le _, rfl, Lib.hid rfl, Below.refl _ _⟩
  case round =>
    obtain ⟨k, hk, rfl, HE, hbel⟩ := hrel
    have kc := (hbel.cell (p := ⟨g, o, none⟩) hgz).trans k0
    by_cases hlt : k < n
    · skip
      obtain ⟨x, hx⟩ : ∃ x, l[k]? = some x := ⟨_, List.getElem?_eq_getElem (by rw [← HN.out]; exact hlt)⟩
      have hxm := List.mem_of_getElem? hx
      obtain ⟨ok1, ok2⟩ := HO.out.ok x hxm
      have ok3 : x.p.stop = x.p.off + (x.p.b.length : Int) := rfl
      obtain ⟨b1, o1, e1, hb1', hr1⟩ := HO.out.rd (by rw [← HN.out]; omega)
      obtain rfl := e1
      have hr := range_below (hr1 k x hx) hb1' (hbel.mono hB)
      have kx0 : wr.cell? ⟨b1, o1 + k * 3, none⟩ = some (.int .i64 x.p.off) := by simpa using hr 0 _ rfl
      have kx1 : wr.cell? ⟨b1, o1 + k * 3 + 1, none⟩ = some (.bool x.p.more) := hr 1 _ rfl
      have kx2 : wr.cell? ⟨b1, o1 + k * 3 + 2, none⟩ = some (.slice x.A x.p.b.length x.c) := hr 2 _ rfl
      have HXD : Hid (L.drop k = x.p :: L.drop (k + 1)) := Lib.hid (by
        have hl : k < L.length := by rw [HL.out, piE, List.length_map, ← HN.out]; exact hlt
        rw [List.drop_eq_getElem_cons hl]
        congr 1
        have h1 : L[k]? = some x.p := by rw [HL.out, piE, List.getElem?_map, hx]; rfl
        rw [List.getElem?_eq_getElem hl] at h1
        exact Option.some.inj h1)
      have hzr := hbel.size
      have hb1 : b1 < wr.heap.size := by omega
      have hgr : g < wr.heap.size := by omega
      clear hr1 hx
      have hX : Below wr.heap.size wr (wr.alloc (.cells (clP x).toArray 172)) := (Below.refl _ wr).alloc (Nat.le_refl _) _
      have hat := World.alloc_heap_new wr (.cells (clP x).toArray 172)
      go_upto_region 5 with (first
        | ((with_reducible show wpList _ _ _ (Oper.mk _ (Op.load 172 _) _ _ _ _ :: _) _ _); refine wpList_val (v := .agg (clP x).toArray) rfl (run_load_pc rfl rfl hr rfl) ?_)
        | ((with_reducible show wpList _ _ _ (Oper.mk _ (Op.store 172 _ _) _ _ _ _ :: _) _ _); refine pc_store_new (cs := (clP x).toArray) rfl rfl rfl rfl (clP_one x) ?_))
      obtain ⟨bx, hbx⟩ : ∃ b, b = wr.heap.size := ⟨_, rfl⟩
      rw [← hbx] at hat ⊢
      have hBX := hbel.trans (hX.mono hzr)
      clear hr hbx
      generalize wr.alloc (.cells (clP x).toArray 172) = X at *
      have j0 : X.cell? ⟨bx, 0, none⟩ = some (.int .i64 x.p.off) := by rw [cell_of_row _ _ _ _ _ _ hat]; rfl
      have j1 : X.cell? ⟨bx, 1, none⟩ = some (.bool x.p.more) := by rw [cell_of_row _ _ _ _ _ _ hat]; rfl
      have j2 : X.cell? ⟨bx, 2, none⟩ = some (.slice x.A x.p.b.length x.c) := by rw [cell_of_row _ _ _ _ _ _ hat]; rfl
      clear hX hat kx0 kx1 kx2 kc
      have e8 : wrap64 (a + (b.length : Int)) = a + (b.length : Int) := by unfold wrap64; omega
      have e9 : wrap64 (x.p.off + (x.p.b.length : Int)) = x.p.off + (x.p.b.length : Int) := by unfold wrap64; omega
      clear j1 ok3
      by_cases h1 : 0 < x.p.b.length
      · skip
        have p1 : decide (0 < (x.p.b.length : Int)) = true := decide_eq_true (by omega)
        have p1' : decide (0 < x.p.b.length) = true := decide_eq_true (by omega)
        by_cases h2 : 0 < b.length
        · skip
          have p2 : decide (0 < (b.length : Int)) = true := decide_eq_true (by omega)
          have p2' : decide (0 < b.length) = true := decide_eq_true (by omega)
          by_cases h3 : x.p.off < a + (b.length : Int)
          · skip
            have p3 : decide (x.p.off < a + (b.length : Int)) = true := decide_eq_true (by omega)
            by_cases h4 : a < x.p.off + (x.p.b.length : Int)
            · skip
              have p4 : decide (a < x.p.off + (x.p.b.length : Int)) = true := decide_eq_true (by omega)
              have hcv : sharing x.p ⟨a, m0, b⟩ = true := sharing_iff.2 (by simp only [Pc.stop, Pc.len]; omega)
              clear h1 h2 h3 h4
              go_wp2
              go_ret
              exact ⟨by rw [HE.out, HXD.out, shares_cons, hcv]; rfl, hBX⟩
            · skip
              have p4 : decide (a < x.p.off + (x.p.b.length : Int)) = false := decide_eq_false (by omega)
              by_cases h5 : x.p.off = a
              · skip
                have hcv : sharing x.p ⟨a, m0, b⟩ = false := Bool.eq_false_iff.2 (fun h => by have h := sharing_iff.1 h; simp only [Pc.stop, Pc.len] at h; omega)
                have p5 : (x.p.off == a) = true := beq_iff_eq.2 h5
                have p6 : ((x.p.b.length : Int) == 0) = false := beq_eq_false_iff_ne.2 (by omega)
                have p6' : (x.p.b.length == 0) = false := beq_eq_false_iff_ne.2 (by omega)
                clear h1 h2 h3 h4 h5
                go_wp2
                go_roundw
                case rel => exact ⟨k + 1, by omega, by simp, Lib.hid (by rw [HE.out, HXD.out, shares_cons, hcv]; rfl), hBX⟩
                case measure => simp [intOf]; omega
              · skip
                have hcv : sharing x.p ⟨a, m0, b⟩ = false := Bool.eq_false_iff.2 (fun h => by have h := sharing_iff.1 h; simp only [Pc.stop, Pc.len] at h; omega)
                have p5 : (x.p.off == a) = false := beq_eq_false_iff_ne.2 h5
                clear h1 h2 h3 h4 h5
                go_wp2
                go_roundw
                case rel => exact ⟨k + 1, by omega, by simp, Lib.hid (by rw [HE.out, HXD.out, shares_cons, hcv]; rfl), hBX⟩
                case measure => simp [intOf]; omega
          · skip
            have p3 : decide (x.p.off < a + (b.length : Int)) = false := decide_eq_false (by omega)
            by_cases h5 : x.p.off = a
            · skip
              have hcv : sharing x.p ⟨a, m0, b⟩ = false := Bool.eq_false_iff.2 (fun h => by have h := sharing_iff.1 h; simp only [Pc.stop, Pc.len] at h; omega)
              have p5 : (x.p.off == a) = true := beq_iff_eq.2 h5
              have p6 : ((x.p.b.length : Int) == 0) = false := beq_eq_false_iff_ne.2 (by omega)
              have p6' : (x.p.b.length == 0) = false := beq_eq_false_iff_ne.2 (by omega)
              clear h1 h2 h3 h5
              go_wp2
              go_roundw
              case rel => exact ⟨k + 1, by omega, by simp, Lib.hid (by rw [HE.out, HXD.out, shares_cons, hcv]; rfl), hBX⟩
              case measure => simp [intOf]; omega
            · skip
              have hcv : sharing x.p ⟨a, m0, b⟩ = false := Bool.eq_false_iff.2 (fun h => by have h := sharing_iff.1 h; simp only [Pc.stop, Pc.len] at h; omega)
              have p5 : (x.p.off == a) = false := beq_eq_false_iff_ne.2 h5
              clear h1 h2 h3 h5
              go_wp2
              go_roundw
              case rel => exact ⟨k + 1, by omega, by simp, Lib.hid (by rw [HE.out, HXD.out, shares_cons, hcv]; rfl), hBX⟩
              case measure => simp [intOf]; omega
        · skip
          have p2 : decide (0 < (b.length : Int)) = false := decide_eq_false (by omega)
          have p2' : decide (0 < b.length) = false := decide_eq_false (by omega)
          by_cases h5 : x.p.off = a
          · skip
            have hcv : sharing x.p ⟨a, m0, b⟩ = false := Bool.eq_false_iff.2 (fun h => by have h := sharing_iff.1 h; simp only [Pc.stop, Pc.len] at h; omega)
            have p5 : (x.p.off == a) = true := beq_iff_eq.2 h5
            have p6 : ((x.p.b.length : Int) == 0) = false := beq_eq_false_iff_ne.2 (by omega)
            have p6' : (x.p.b.length == 0) = false := beq_eq_false_iff_ne.2 (by omega)
            clear h1 h2 h5
            go_wp2
            go_roundw
            case rel => exact ⟨k + 1, by omega, by simp, Lib.hid (by rw [HE.out, HXD.out, shares_cons, hcv]; rfl), hBX⟩
            case measure => simp [intOf]; omega
          · skip
            have hcv : sharing x.p ⟨a, m0, b⟩ = false := Bool.eq_false_iff.2 (fun h => by have h := sharing_iff.1 h; simp only [Pc.stop, Pc.len] at h; omega)
            have p5 : (x.p.off == a) = false := beq_eq_false_iff_ne.2 h5
            clear h1 h2 h5
            go_wp2
            go_roundw
            case rel => exact ⟨k + 1, by omega, by simp, Lib.hid (by rw [HE.out, HXD.out, shares_cons, hcv]; rfl), hBX⟩
            case measure => simp [intOf]; omega
      · skip
        have p1 : decide (0 < (x.p.b.length : Int)) = false := decide_eq_false (by omega)
        have p1' : decide (0 < x.p.b.length) = false := decide_eq_false (by omega)
        have p6 : ((x.p.b.length : Int) == 0) = true := beq_iff_eq.2 (by omega)
        have p6' : (x.p.b.length == 0) = true := beq_iff_eq.2 (by omega)
        by_cases h5 : x.p.off = a
        · skip
          have p5 : (x.p.off == a) = true := beq_iff_eq.2 h5
          by_cases h7 : b.length = 0
          · skip
            have hcv : sharing x.p ⟨a, m0, b⟩ = true := sharing_iff.2 (by simp only [Pc.stop, Pc.len]; omega)
            have p7 : ((b.length : Int) == 0) = true := beq_iff_eq.2 (by omega)
            have p7' : (b.length == 0) = true := beq_iff_eq.2 (by omega)
            clear h1 h5 h7
            go_wp2
            go_ret
            exact ⟨by rw [HE.out, HXD.out, shares_cons, hcv]; rfl, hBX⟩
          · skip
            have hcv : sharing x.p ⟨a, m0, b⟩ = false := Bool.eq_false_iff.2 (fun h => by have h := sharing_iff.1 h; simp only [Pc.stop, Pc.len] at h; omega)
            have p7 : ((b.length : Int) == 0) = false := beq_eq_false_iff_ne.2 (by omega)
            have p7' : (b.length == 0) = false := beq_eq_false_iff_ne.2 (by omega)
            clear h1 h5 h7
            go_wp2
            go_roundw
            case rel => exact ⟨k + 1, by omega, by simp, Lib.hid (by rw [HE.out, HXD.out, shares_cons, hcv]; rfl), hBX⟩
            case measure => simp [intOf]; omega
        · skip
          have hcv : sharing x.p ⟨a, m0, b⟩ = false := Bool.eq_false_iff.2 (fun h => by have h := sharing_iff.1 h; simp only [Pc.stop, Pc.len] at h; omega)
          have p5 : (x.p.off == a) = false := beq_eq_false_iff_ne.2 h5
          clear h1 h5
          go_wp2
          go_roundw
          case rel => exact ⟨k + 1, by omega, by simp, Lib.hid (by rw [HE.out, HXD.out, shares_cons, hcv]; rfl), hBX⟩
          case measure => simp [intOf]; omega
    · obtain rfl : n = k := by omega
      go_wp2
      go_ret
      exact ⟨by rw [HE.out, List.drop_eq_nil_of_le (by rw [HL.out, piE, List.length_map, ← HN.out]; exact Nat.le_refl _)]; rfl, hbel⟩
end Go.Proofs.Ythdaclbgandmcaa

/-
  Contracts of what the code of layer 15 asks of single parts. Conditions are each theorem's own.
-/
namespace Go.Proofs.Ythdaclbgandmcaa
open Go.RowKit Go.Shelf

theorem cells_at {w : World} {g i : Nat} {cs : Array Value} {ty : TypeId} {fr : Nat × Nat} {v : Value} (h : w.heap[g]? = some (.cells cs ty fr)) (hi : cs[i]? = some v) : w.cell? ⟨g, i, none⟩ = some v := by
  simp [World.cell?, h, hi]
set_option maxRecDepth 100000 in
theorem hcend (x : XP) (w : World) (h0 : 0 ≤ x.p.off) (h1 : x.p.stop ≤ 1000000) :
    Calls Try.prog 94 #[.agg (clP x).toArray] w fun e w' => e = .returned (.int .i64 x.p.stop) ∧ Below w.heap.size w w' := by
  have h2 : x.p.stop = x.p.off + (x.p.b.length : Int) := rfl
  rw [h2] at h1 ⊢
  have hB := Below.alloc (Below.refl w.heap.size w) (Nat.le_refl _) (.cells (clP x).toArray 158)
  unfold clP at hB ⊢
  go_enter Try.func94, Try.ntmps94
  go_wp2
  go_ret
  exact ⟨rfl, hB⟩
set_option maxRecDepth 100000 in
theorem hccheck (a n : Int) (m : Bool) (w : World) (h0 : 0 ≤ n) (h1 : n ≤ 1000000) (ha : -9223372036854775808 ≤ a ∧ a ≤ 9223372036854775807) :
    Calls Try.prog 91 #[.int .i64 a, .bool m, .int .i64 n] w fun e w' =>
      e = .returned (.int .i64 (if a < 0 ∨ (m = true ∧ (n = 0 ∨ n % 8 ≠ 0)) then 4 else if a > 65535 - n then 6 else 0)) ∧ w' = w := by
  generalize hR : (if a < 0 ∨ (m = true ∧ (n = 0 ∨ n % 8 ≠ 0)) then (4 : Int) else if a > 65535 - n then 6 else 0) = R
  have HR := Lib.hid hR
  clear hR
  go_enter Try.func91, Try.ntmps91
  by_cases c1 : a < 0
  · have d1 : decide (a < 0) = true := decide_eq_true c1
    cases m <;> (go_wp2; go_ret; exact ⟨by rw [← HR.out, if_pos (.inl c1)]; rfl, rfl⟩)
  · have d1 : decide (a < 0) = false := decide_eq_false c1
    cases m with
    | false =>
      by_cases c4 : a > 65535 - n
      · have d4 : decide (a > 65535 - n) = true := decide_eq_true c4
        have d4' : decide (65535 - n < a) = true := d4
        go_wp2
        go_ret
        exact ⟨by rw [← HR.out, if_neg (by rintro (h | ⟨h, _⟩); (first | exact c1 h | omega); cases h), if_pos c4]; rfl, rfl⟩
      · have d4 : decide (a > 65535 - n) = false := decide_eq_false c4
        have d4' : decide (65535 - n < a) = false := d4
        go_wp2
        go_ret
        exact ⟨by rw [← HR.out, if_neg (by rintro (h | ⟨h, _⟩); (first | exact c1 h | omega); cases h), if_neg (by omega)]; rfl, rfl⟩
    | true =>
      by_cases c2 : n = 0
      · have d2 : decide (n = 0) = true := decide_eq_true c2
        clear h0 h1
        subst c2
        go_wp2
        go_ret
        exact ⟨by rw [← HR.out, if_pos (.inr ⟨by trivial, .inl (by trivial)⟩)]; rfl, rfl⟩
      · have d2 : decide (n = 0) = false := decide_eq_false c2
        by_cases c3 : n % 8 = 0
        · have d3 : decide (n % 8 = 0) = true := decide_eq_true c3
          by_cases c4 : a > 65535 - n
          · have d4 : decide (a > 65535 - n) = true := decide_eq_true c4
            have d4' : decide (65535 - n < a) = true := d4
            go_wp2
            go_ret
            exact ⟨by rw [← HR.out, if_neg (by rintro (h | ⟨_, h | h⟩); (first | exact c1 h | omega); (first | exact c2 h | omega); exact h c3), if_pos c4]; rfl, rfl⟩
          · have d4 : decide (a > 65535 - n) = false := decide_eq_false c4
            have d4' : decide (65535 - n < a) = false := d4
            go_wp2
            go_ret
            exact ⟨by rw [← HR.out, if_neg (by rintro (h | ⟨_, h | h⟩); (first | exact c1 h | omega); (first | exact c2 h | omega); exact h c3), if_neg (by omega)]; rfl, rfl⟩
        · have d3 : decide (n % 8 = 0) = false := decide_eq_false c3
          go_wp2
          go_ret
          exact ⟨by rw [← HR.out, if_pos (.inr ⟨by trivial, .inr c3⟩)]; rfl, rfl⟩
set_option maxRecDepth 100000 in
theorem hcalike (p x : XP) (B B' : Nat) (w : World) (hp : Rd w B p.A p.p.b) (hx : Rd w B' x.A x.p.b) (hB : B ≤ w.heap.size) (hB' : B' ≤ w.heap.size) :
    Calls Try.prog 90 #[.agg (clP p).toArray, .agg (clP x).toArray] w fun e w' => e = .returned (.bool (alikeP p.p x.p)) ∧ Below w.heap.size w w' := by
  have hb0 := Below.alloc (Below.refl w.heap.size w) (Nat.le_refl _) (.cells (clP p).toArray 158)
  have hb := Below.alloc hb0 (by simp) (.cells (clP x).toArray 158)
  have hP := Lib.hid (hp.below (hb.mono hB))
  have hX := Lib.hid (hx.below (hb.mono hB'))
  clear hp hx
  rcases p with ⟨⟨a, m, b⟩, A, c⟩
  rcases x with ⟨⟨a', m', b'⟩, A', c'⟩
  by_cases c1 : a = a'
  · subst c1
    have hR : alikeP (Pc.mk a m b) (Pc.mk a m' b') = decide (b = b') := by simp [alikeP]
    rw [hR]
    clear hR
    simp only [clP] at hP hX hb0 hb ⊢
    go_enter Try.func90, Try.ntmps90
    go_wp2_with (go_at_call 20; refine (equal_any _ _ _ _ _ _ _ _ _ hP.out hX.out).mono ?_; rintro e w2 ⟨rfl, rfl⟩)
    go_ret
    exact ⟨rfl, hb⟩
  · have hR : alikeP (Pc.mk a m b) (Pc.mk a' m' b') = false := by simp [alikeP, c1]
    rw [hR]
    clear hR
    simp only [clP] at hP hX hb0 hb ⊢
    go_enter Try.func90, Try.ntmps90
    go_wp2
    go_ret
    exact ⟨rfl, hb⟩
theorem run_load_hp {o : Oper} {a : Act} {w : World} {x : Operand} {g i : Nat} {cs : List Value} (ho : o.op = .load 158 x) (hx : a.eval x = .pointer (some ⟨g, i, none⟩)) (hr : w.rangeAt g i cs) (hl : cs.length = 3) :
    (execOp a.eval o).run Try.prog w = .ok (.value (.agg cs.toArray)) w := by
  have h := run_loadVar_mid (P := Try.prog) w g i 158 cs _ hr Try.underlying158 rfl (by rw [hl]; kernel_rfl)
  unfold execOp
  simp only [ho, hx, Instr.loadAt, Instr.sureAddr, Sem.run_bind, Sem.run_pure, Result.andThen_ok, h]
set_option maxRecDepth 100000 in
theorem hcsame (p x : XP) (B B' : Nat) (w : World) (hp : Rd w B p.A p.p.b) (hx : Rd w B' x.A x.p.b) (hB : B ≤ w.heap.size) (hB' : B' ≤ w.heap.size) :
    Calls Try.prog 92 #[.agg (clP p).toArray, .agg (clP x).toArray] w fun e w' => e = .returned (.bool (decide (x.p = p.p))) ∧ Below w.heap.size w w' := by
  have hb0 := Below.alloc (Below.refl w.heap.size w) (Nat.le_refl _) (.cells (clP p).toArray 158)
  have hb := Below.alloc hb0 (by simp) (.cells (clP x).toArray 158)
  have hP := Lib.hid (hp.below (hb.mono hB))
  have hX := Lib.hid (hx.below (hb.mono hB'))
  have hz := hb.size
  clear hp hx
  rcases p with ⟨⟨a, m, b⟩, A, c⟩
  rcases x with ⟨⟨a', m', b'⟩, A', c'⟩
  by_cases c1 : m = m'
  · subst c1
    have hR : decide (Pc.mk a' m b' = Pc.mk a m b) = alikeP (Pc.mk a m b) (Pc.mk a' m b') := by
      rw [alikeP, Bool.eq_iff_iff]
      simp only [Bool.and_eq_true, decide_eq_true_eq, Pc.mk.injEq, beq_iff_eq]
      exact ⟨fun ⟨h1, _, h3⟩ => ⟨h1.symm, h3.symm⟩, fun ⟨h1, h3⟩ => ⟨h1.symm, by trivial, h3.symm⟩⟩
    rw [hR]
    clear hR
    have hcall := hcalike ⟨⟨a, m, b⟩, A, c⟩ ⟨⟨a', m, b'⟩, A', c'⟩ _ _ _ hP.out hX.out (by omega) (by omega)
    simp only [clP] at hcall hb0 hb ⊢
    go_enter Try.func92, Try.ntmps92
    go_wp2_with (go_at_call 90; refine hcall.mono ?_; rintro e w2 ⟨rfl, x2⟩)
    go_ret
    exact ⟨rfl, hb.trans (x2.mono hz)⟩
  · have hR : decide (Pc.mk a' m' b' = Pc.mk a m b) = false := by
      simp only [decide_eq_false_iff_not, Pc.mk.injEq]
      rintro ⟨_, h, _⟩
      exact c1 h.symm
    rw [hR]
    clear hR
    simp only [clP] at hP hX hb0 hb ⊢
    go_enter Try.func92, Try.ntmps92
    go_wp2
    go_ret
    exact ⟨rfl, hb⟩
end Go.Proofs.Ythdaclbgandmcaa

/-
  Contracts of meets, of the library's ContainsFunc at parts, of place and near of layer 15. Conditions are each theorem's own.
-/
namespace Go.Proofs.Ythdaclbgandmcaa
open Go.RowKit Go.Shelf
theorem min_if (a b : Int) : (if b < a then b else a) = min a b := by omega
set_option maxRecDepth 100000 in
theorem hcmeets (p x : XP) (w0 : World) (hp0 : 0 ≤ p.p.off) (hp1 : p.p.stop ≤ 1000000) (hx0 : 0 ≤ x.p.off) (hx1 : x.p.stop ≤ 1000000) :
    Calls Try.prog 93 #[.agg (clP p).toArray, .agg (clP x).toArray] w0 fun e w' => e = .returned (.bool (meetsP p.p x.p)) ∧ Below w0.heap.size w0 w' := by
  obtain ⟨W, hW⟩ : ∃ W, W = (w0.alloc (.cells (clP p).toArray 158)).alloc (.cells (clP x).toArray 158) := ⟨_, rfl⟩
  have hb : Below w0.heap.size w0 W := by rw [hW]; exact Below.alloc (Below.alloc (Below.refl w0.heap.size w0) (Nat.le_refl _) _) (by simp) _
  have hz : W.heap.size = w0.heap.size + 2 := by rw [hW]; simp
  have rp : W.rangeAt w0.heap.size 0 (clP p) := fun j v hj => by
    refine cells_at (cs := (clP p).toArray) (ty := 158) (fr := (0, 0)) ?_ (by rw [Nat.zero_add, List.getElem?_toArray]; exact hj)
    rw [hW]
    exact (Below.heap_alloc _ _ w0.heap.size (by simp)).trans (World.alloc_heap_new w0 _)
  have rx : W.rangeAt (w0.heap.size + 1) 0 (clP x) := fun j v hj => by
    refine cells_at (cs := (clP x).toArray) (ty := 158) (fr := (0, 0)) ?_ (by rw [Nat.zero_add, List.getElem?_toArray]; exact hj)
    rw [hW]
    have := World.alloc_heap_new (w0.alloc (.cells (clP p).toArray 158)) (.cells (clP x).toArray 158)
    rwa [show (w0.alloc (.cells (clP p).toArray 158)).heap.size = w0.heap.size + 1 by simp] at this
  have kp0 : W.cell? ⟨w0.heap.size, 0, none⟩ = some (.int .i64 p.p.off) := rp 0 _ rfl
  have kx0 : W.cell? ⟨w0.heap.size + 1, 0, none⟩ = some (.int .i64 x.p.off) := rx 0 _ rfl
  have MT : Hid (decide (max p.p.off x.p.off < min p.p.stop x.p.stop) = meetsP p.p x.p) := Lib.hid rfl
  go_enter Try.func93, Try.ntmps93
  go_upto_region 1 with fail
  rw [← hW]
  have hz2 : w0.heap.size + 1 < W.heap.size := by omega
  clear hW
  refine wp_region_held_drew (S := fun w' => Below W.heap.size W w') (by kernel_rfl) (Below.refl _ W).drew (fun hS => ?_)
  refine held_pure (i := 0) (oi := ⟨some 5, _, _, _, _, _⟩) rfl (by kernel_rfl) (by kernel_rfl) (by kernel_rfl) (fun _ _ _ h => h) (by rfl) (v := ?_) (fun w hSw => ?_) hS (fun hS => ?_)
  rotate_left
  · go_simp; try with_reducible rfl
  try go_frame
  refine held_pure (i := 1) (oi := ⟨some 6, _, _, _, _, _⟩) rfl (by kernel_rfl) (by kernel_rfl) (by kernel_rfl) (fun _ _ _ h => h) (by rfl) (fun w hSw => run_load_int rfl rfl ((hSw.cell (p := ⟨w0.heap.size, 0, none⟩) (by show w0.heap.size < _; omega)).trans kp0)) hS (fun hS => ?_)
  try go_frame
  refine held_pure (i := 2) (oi := ⟨some 7, _, _, _, _, _⟩) rfl (by kernel_rfl) (by kernel_rfl) (by kernel_rfl) (fun _ _ _ h => h) (by rfl) (v := ?_) (fun w hSw => ?_) hS (fun hS => ?_)
  rotate_left
  · go_simp; try with_reducible rfl
  try go_frame
  refine held_pure (i := 3) (oi := ⟨some 8, _, _, _, _, _⟩) rfl (by kernel_rfl) (by kernel_rfl) (by kernel_rfl) (fun _ _ _ h => h) (by rfl) (fun w hSw => run_load_int rfl rfl ((hSw.cell (p := ⟨w0.heap.size + 1, 0, none⟩) (by show w0.heap.size + 1 < _; omega)).trans kx0)) hS (fun hS => ?_)
  try go_frame
  refine held_pure (i := 4) (oi := ⟨some 9, _, _, _, _, _⟩) rfl (by kernel_rfl) (by kernel_rfl) (by kernel_rfl) (fun _ _ _ h => h) (by rfl) (v := .int .i64 (max p.p.off x.p.off)) (fun w hSw => by go_simp) hS (fun hS => ?_)
  try go_frame
  refine held_pure (i := 5) (oi := ⟨some 10, _, _, _, _, _⟩) rfl (by kernel_rfl) (by kernel_rfl) (by kernel_rfl) (fun _ _ _ h => h) (by rfl) (fun w hSw => run_load_hp rfl rfl (range_below rp (by omega) hSw) rfl) hS (fun hS => ?_)
  try go_frame
  refine held_pure (i := 7) (oi := ⟨some 12, _, _, _, _, _⟩) rfl (by kernel_rfl) (by kernel_rfl) (by kernel_rfl) (fun _ _ _ h => h) (by rfl) (fun w hSw => run_load_hp rfl rfl (range_below rx (by omega) hSw) rfl) hS (fun hS => ?_)
  try go_frame
  refine wpAnyH_ready (rs := [6]) (by kernel_rfl) (by simp) (AllReadyH.cons (o := ⟨some 11, _, _, _, _, _⟩) rfl (fun K hK => ?_) AllReadyH.nil)
  rw [if_pos (by rfl)]
  go_simp
  refine (hcend p _ hp0 hp1).mono ?_
  rintro e w6 ⟨rfl, x6⟩
  show K _ _
  refine hK.out _ _ (below_step hS x6) (fun hS => ?_)
  clear hK K
  try go_frame
  refine wpAnyH_ready (rs := [8]) (by kernel_rfl) (by simp) (AllReadyH.cons (o := ⟨some 13, _, _, _, _, _⟩) rfl (fun K hK => ?_) AllReadyH.nil)
  rw [if_pos (by rfl)]
  go_simp
  refine (hcend x _ hx0 hx1).mono ?_
  rintro e w8 ⟨rfl, x8⟩
  show K _ _
  refine hK.out _ _ (below_step hS x8) (fun hS => ?_)
  clear hK K
  try go_frame
  refine held_pure (i := 9) (oi := ⟨some 14, _, _, _, _, _⟩) rfl (by kernel_rfl) (by kernel_rfl) (by kernel_rfl) (fun _ _ _ h => h) (by rfl) (v := .int .i64 (min p.p.stop x.p.stop)) (fun w hSw => by go_simp; try exact min_if _ _) hS (fun hS => ?_)
  try go_frame
  refine held_pure (i := 10) (oi := ⟨some 15, _, _, _, _, _⟩) rfl (by kernel_rfl) (by kernel_rfl) (by kernel_rfl) (fun _ _ _ h => h) (by rfl) (v := .bool (meetsP p.p x.p)) (fun w hSw => by go_simp; exact MT.out) hS (fun hS => ?_)
  try go_frame
  refine held_pure (i := 11) (oi := ⟨some 4, _, _, _, _, _⟩) rfl (by kernel_rfl) (by kernel_rfl) (by kernel_rfl) (fun _ _ _ h => h) (by rfl) (v := ?_) (fun w hSw => ?_) hS (fun hS => ?_)
  rotate_left
  · go_simp; try with_reducible rfl
  try go_frame
  refine wpAnyH_done (by kernel_rfl) ?_ _
  go_wp2_with fail
  go_ret
  exact ⟨rfl, hb.trans (hS.mono (by omega))⟩

/-! ### ContainsFunc -/
theorem row_of {w : World} {B : Nat} {A : Option Addr} {l : List XP} (h : RdS clP 3 w B A l) {k : Nat} {x : XP} (hx : l[k]? = some x) : ∃ b o, A = some ⟨b, o, none⟩ ∧ b < B ∧ w.rangeAt b (o + k * 3) (clP x) := by
  obtain ⟨b, o, e, hb, hr⟩ := h (by have := (List.getElem?_eq_some_iff.1 hx).1; omega)
  exact ⟨b, o, e, hb, hr k x hx⟩
set_option maxRecDepth 100000 in
set_option maxHeartbeats 1000000 in
theorem hcindex (g : Nat) (bnd : Value) (f : XP → Bool) (A : Option Addr) (c : Nat) (l : List XP) (B : Nat) (w : World) (eg : ∀ args w, (callFunc g args).run Try.prog w = .ok (.enter g args) w)
    (hr : RdS clP 3 w B A l) (hB : B ≤ w.heap.size) (hl : l.length ≤ 100000)
    (hp : ∀ (W : World) (x : XP), x ∈ l → Below w.heap.size w W → Calls Try.prog g #[bnd, .agg (clP x).toArray] W fun e w' => e = .returned (.bool (f x)) ∧ Below w.heap.size w w') :
    Calls Try.prog 122 #[.slice A l.length c, .func (.func g) #[bnd] #[]] w fun e w' => (∃ k : Int, e = .returned (.int .i64 k) ∧ decide (0 ≤ k) = l.any f ∧ (-1 ≤ k ∧ k ≤ 100000)) ∧ Below w.heap.size w w' := by
  obtain ⟨n, hn⟩ : ∃ n, n = l.length := ⟨_, rfl⟩
  have HN := Lib.hid hn
  have HP := Lib.hid hp
  have HR := Lib.hid hr
  rw [← hn] at hl ⊢
  clear hn hp hr
  go_enter Try.func122, Try.ntmps122
  go_wp2
  go_loopw [5, 8] (fun _ s8 wr => ∃ kk : Nat, kk ≤ n ∧ s8 = .int .i64 kk ∧ Hid (l.any f = (l.drop kk).any f) ∧ Below w.heap.size w wr) (fun _ i _ => n - (intOf i).toNat)
  case atStart => exact ⟨0, Nat.zero_le _, rfl, Lib.hid rfl, Below.refl _ w⟩
  case round =>
    obtain ⟨kk, hkk, rfl, HE, hbel⟩ := hrel
    by_cases hlt : kk < n
    · obtain ⟨x, hx⟩ : ∃ x, l[kk]? = some x := ⟨_, List.getElem?_eq_getElem (by rw [← HN.out]; exact hlt)⟩
      have hcall := Lib.hid (HP.out wr x (List.mem_of_getElem? hx) hbel)
      obtain ⟨b1, o1, rfl, hb1, hr1⟩ := row_of HR.out hx
      have hrow := range_below hr1 hb1 (hbel.mono hB)
      have HXD : Hid (l.drop kk = x :: l.drop (kk + 1)) := Lib.hid (by
        have hk : kk < l.length := by rw [← HN.out]; exact hlt
        rw [List.drop_eq_getElem_cons hk]
        rw [List.getElem?_eq_getElem hk] at hx
        rw [Option.some.inj hx])
      clear hx hr1
      cases hq : f x with
      | true =>
        have HQ := Lib.hid hq
        clear hq
        go_wp2_with (first
          | ((with_reducible show wpList _ _ _ (Oper.mk _ (Op.load 158 _) _ _ _ _ :: _) _ _); refine wpList_val rfl (run_load_hp rfl rfl hrow rfl) ?_)
          | (go_at_fn g; refine hcall.out.mono ?_; rintro e w' ⟨rfl, hb'⟩; rw [HQ.out]))
        go_ret
        exact ⟨⟨kk, rfl, by rw [HE.out, HXD.out, List.any_cons, HQ.out, Bool.true_or]; exact decide_eq_true (by omega), by omega, by omega⟩, hb'⟩
      | false =>
        have HQ := Lib.hid hq
        clear hq
        go_wp2_with (first
          | ((with_reducible show wpList _ _ _ (Oper.mk _ (Op.load 158 _) _ _ _ _ :: _) _ _); refine wpList_val rfl (run_load_hp rfl rfl hrow rfl) ?_)
          | (go_at_fn g; refine hcall.out.mono ?_; rintro e w' ⟨rfl, hb'⟩; rw [HQ.out]))
        go_roundw
        case rel => exact ⟨kk + 1, by omega, by simp, Lib.hid (by rw [HE.out, HXD.out, List.any_cons, HQ.out, Bool.false_or]), hb'⟩
        case measure => simp [intOf]; omega
    · obtain rfl : n = kk := by omega
      go_wp2
      go_ret
      exact ⟨⟨-1, rfl, by rw [HE.out, List.drop_eq_nil_of_le (by rw [← HN.out]; exact Nat.le_refl _)]; rfl, by omega, by omega⟩, hbel⟩
set_option maxRecDepth 100000 in
theorem hccontains (g : Nat) (bnd : Value) (f : XP → Bool) (A : Option Addr) (c : Nat) (l : List XP) (B : Nat) (w : World) (eg : ∀ args w, (callFunc g args).run Try.prog w = .ok (.enter g args) w)
    (hr : RdS clP 3 w B A l) (hB : B ≤ w.heap.size) (hl : l.length ≤ 100000)
    (hp : ∀ (W : World) (x : XP), x ∈ l → Below w.heap.size w W → Calls Try.prog g #[bnd, .agg (clP x).toArray] W fun e w' => e = .returned (.bool (f x)) ∧ Below w.heap.size w w') :
    Calls Try.prog 88 #[.slice A l.length c, .func (.func g) #[bnd] #[]] w fun e w' => e = .returned (.bool (l.any f)) ∧ Below w.heap.size w w' := by
  have hcall := Lib.hid (hcindex g bnd f A c l B w eg hr hB hl hp)
  generalize hR : l.any f = R at hcall
  clear hp hr hR
  go_enter Try.func88, Try.ntmps88
  go_wp2_with (go_at_call 122; refine hcall.out.mono ?_; rintro e w' ⟨⟨k, rfl, hk, hk0, hk1⟩, hb'⟩; have HK := Lib.hid hk; clear hk)
  go_ret
  exact ⟨by rw [← HK.out]; rfl, hb'⟩
/-! ### Search -/
set_option maxRecDepth 100000 in
set_option maxHeartbeats 1000000 in
theorem hcsearch (g : Nat) (cb : Array Value) (n : Nat) (p : Nat → Bool) (w : World) (eg : ∀ args w, (callFunc g args).run Try.prog w = .ok (.enter g args) w) (hn : n ≤ 100000)
    (hf : ∀ (W : World) (i : Nat), i < n → Below w.heap.size w W → Calls Try.prog g (#[.int .i64 i] ++ cb) W fun e w' => e = .returned (.bool (p i)) ∧ Below w.heap.size w w')
    (hmono : ∀ a b, a ≤ b → b < n → p a = true → p b = true) :
    Calls Try.prog 144 #[.int .i64 n, .func (.func g) #[] cb] w fun e w' => (∃ m : Nat, e = .returned (.int .i64 m) ∧ m ≤ n ∧ (∀ t, t < m → p t = false) ∧ (∀ t, m ≤ t → t < n → p t = true)) ∧ Below w.heap.size w w' := by
  have HF := Lib.hid hf
  have M := Lib.hid hmono
  clear hf hmono
  go_enter Try.func144, Try.ntmps144
  go_wp2
  go_loopw [5, 6] (fun s5 s6 wr => ∃ (lo hi : Nat), s5 = .int .i64 lo ∧ s6 = .int .i64 hi ∧ lo ≤ hi ∧ hi ≤ n ∧ Hid ((∀ t, t < lo → p t = false) ∧ (∀ t, hi ≤ t → t < n → p t = true)) ∧ Below w.heap.size w wr)
    (fun a b _ => (intOf b).toNat - (intOf a).toNat)
  case atStart => exact ⟨0, n, rfl, rfl, Nat.zero_le _, Nat.le_refl _, Lib.hid ⟨fun t ht => absurd ht (Nat.not_lt_zero _), fun t h1 h2 => by omega⟩, Below.refl _ w⟩
  case round =>
    obtain ⟨lo, hi, rfl, rfl, hlh, hin, I, hbel⟩ := hrel
    by_cases hlt : lo < hi
    · have hc0 := HF.out wr ((lo + hi) / 2) (by omega) hbel
      rw [show (((lo + hi) / 2 : Nat) : Int) = ((lo : Int) + (hi : Int)) / 2 by omega] at hc0
      have hc := Lib.hid hc0
      clear hc0
      cases hp : p ((lo + hi) / 2) with
      | false =>
        have HP := Lib.hid hp
        clear hp
        go_wp2_with (go_at_fn g; refine hc.out.mono ?_; rintro e w' ⟨rfl, hb'⟩; rw [HP.out])
        go_roundw
        case rel =>
          exact ⟨(lo + hi) / 2 + 1, hi, by simp, rfl, by omega, hin, Lib.hid ⟨fun t ht => (by
            cases h : p t with
            | false => rfl
            | true => have := M.out t ((lo + hi) / 2) (by omega) (by omega) h; rw [HP.out] at this; cases this), I.out.2⟩, hb'⟩
        case measure => simp [intOf]; omega
      | true =>
        have HP := Lib.hid hp
        clear hp
        go_wp2_with (go_at_fn g; refine hc.out.mono ?_; rintro e w' ⟨rfl, hb'⟩; rw [HP.out])
        go_roundw
        case rel =>
          exact ⟨lo, (lo + hi) / 2, rfl, by simp, by omega, by omega, Lib.hid ⟨I.out.1, fun t h1 h2 => M.out ((lo + hi) / 2) t h1 h2 HP.out⟩, hb'⟩
        case measure => simp [intOf]; omega
    · obtain rfl : lo = hi := by omega
      go_wp2
      go_ret
      exact ⟨⟨lo, rfl, hin, I.out⟩, hbel⟩
end Go.Proofs.Ythdaclbgandmcaa
