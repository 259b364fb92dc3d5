/-
  Contracts and lemmas on which the proofs of this seat stand (several texts in one). Conditions are each theorem's own.
-/
import Derived.Test.YtpoigngpdcmipaaGreatMb13
import Derived.Test.YtpoigngpdcmipaaGreatMb9
import Derived.Test.YtpoigngpdcmipaaGreatMb2
import Derived.Test.YtpoigngpdcmipaaGreatMb8
import Derived.Test.YtpoigngpdcmipaaGreatMb1
import Derived.Laws.CopyOwn
import Derived.Lib.AppendZerosOnto
import Derived.Lib.Overlaps
import Derived.Laws.Externs
import Derived.Laws.NewBlocks
namespace Go.Proofs.YtpoigngpdcmipaaGreat
open Go.RowKit
def gapsS : Int → List Pc → List (Int × Int)
  | _, [] => []
  | k, x :: L => (if k < x.off then [(k, x.off)] else []) ++ gapsS x.stop L
def lastS : Int → List Pc → Int
  | k, [] => k
  | _, x :: L => lastS x.stop L
def catP (L : List Pc) : List UInt8 := L.flatMap fun x => x.b
theorem ris_up {x : Pc} {L : List Pc} (h : Ris (x :: L)) : ∀ y ∈ L, x.stop ≤ y.off := fun y hy => (h.head y hy).1
theorem lastS_max : ∀ {k : Int} {L : List Pc}, Ris L → 0 ≤ k → (∀ x ∈ L, k ≤ x.off) → lastS k L = max k (farP L)
  | k, [], _, h0, _ => by rw [lastS, farP]; omega
  | k, x :: L, h, h0, hk => by
    have h1 := hk x (List.mem_cons_self ..)
    have h2 := x.stop_eq
    have h3 := x.len_nn
    rw [lastS, lastS_max h.tail (by omega) (ris_up h), farP]; omega
theorem catP_length : ∀ L : List Pc, ((catP L).length : Int) = bytesP L
  | [] => rfl
  | x :: L => by
    have := catP_length L
    rw [catP, List.flatMap_cons, List.length_append, bytesP]
    rw [catP] at this
    have h2 : x.len = (x.b.length : Int) := rfl
    omega
theorem bytes_gaps : ∀ {k : Int} {L : List Pc}, Ris L → (∀ x ∈ L, k ≤ x.off) → bytesP L ≤ lastS k L - k ∧ (bytesP L = lastS k L - k ↔ gapsS k L = [])
  | k, [], _, _ => by simp [bytesP, lastS, gapsS]
  | k, x :: L, h, hk => by
    have h1 := hk x (List.mem_cons_self ..)
    have h2 := x.stop_eq
    obtain ⟨i1, i2⟩ := bytes_gaps h.tail (ris_up h)
    rw [bytesP, lastS, gapsS]
    refine ⟨by omega, ?_⟩
    by_cases hx : k < x.off
    · rw [if_pos hx]
      exact ⟨fun e => by omega, fun e => by simp at e⟩
    · rw [if_neg hx, List.nil_append, ← i2]
      exact ⟨fun e => by omega, fun e => by omega⟩
theorem cat_facts : ∀ {L : List Pc} (pre : List UInt8), Ris L → (∀ x ∈ L, (pre.length : Int) ≤ x.off) → gapsS (pre.length : Int) L = [] →
    (∀ x ∈ L, PieceOf (pre ++ catP L) x) ∧ (∀ j : Nat, pre.length ≤ j → j < (pre ++ catP L).length → ∃ x ∈ L, x.off ≤ (j : Int) ∧ (j : Int) < x.stop)
  | [], pre, _, _, _ => ⟨fun x h => (by cases h), fun j h1 h2 => by simp [catP] at h2; omega⟩
  | x :: L, pre, h, hk, hg => by
    have h1 := hk x (List.mem_cons_self ..)
    have h2 := x.stop_eq
    have h3 : x.len = (x.b.length : Int) := rfl
    have hx : ¬ (pre.length : Int) < x.off := fun c => by rw [gapsS, if_pos c] at hg; simp at hg
    have e : x.off = (pre.length : Int) := by omega
    rw [gapsS, if_neg hx, List.nil_append] at hg
    have es : x.stop = ((pre ++ x.b).length : Int) := by rw [List.length_append]; omega
    obtain ⟨i1, i2⟩ := cat_facts (pre ++ x.b) h.tail (fun y hy => by rw [← es]; exact ris_up h y hy) (by rw [← es]; exact hg)
    have ec : pre ++ catP (x :: L) = pre ++ x.b ++ catP L := by rw [catP, List.flatMap_cons, List.append_assoc]; rfl
    rw [ec]
    refine ⟨fun y hy => ?_, fun j hj hj2 => ?_⟩
    · rcases List.mem_cons.1 hy with rfl | hy
      · refine ⟨by omega, by rw [List.length_append, es]; omega, ?_⟩
        rw [e, Int.toNat_natCast, List.append_assoc, List.drop_left, List.take_left]
      · exact i1 y hy
    · by_cases hc : j < (pre ++ x.b).length
      · exact ⟨x, List.mem_cons_self .., by omega, by omega⟩
      · obtain ⟨y, hy, hc⟩ := i2 j (by omega) hj2
        exact ⟨y, List.mem_cons_of_mem _ hy, hc⟩
theorem Same.end_ {L l : List Pc} (h : Same L l) : endP l = if endedP L then farP L else -1 := by rw [← endP_perm h.ris h.perm]; exact ris_end h.ris
theorem up0 {L : List Pc} (h : Ris L) : ∀ x ∈ L, (0 : Int) ≤ x.off := fun x hx => (h.ok x hx).1
theorem last0 {L : List Pc} (h : Ris L) : lastS 0 L = farP L := by
  rw [lastS_max h (Int.le_refl _) (up0 h)]
  have := far_nn L
  omega
theorem Same.done {L l : List Pc} (h : Same L l) : doneB l = (endedP L && decide (gapsS 0 L = [])) ∧ (doneB l = true → doneP l = catP L) := by
  obtain ⟨b1, b2⟩ := bytes_gaps h.ris (up0 h.ris)
  rw [last0 h.ris] at b1 b2
  have hf := far_nn L
  have e1 : doneB l = (endedP L && decide (gapsS 0 L = [])) := by
    rw [doneB, h.end_, ← h.bytes, Bool.eq_iff_iff]
    by_cases he : endedP L = true
    · simp only [he, if_true, Bool.and_eq_true, decide_eq_true_eq, true_and]
      rw [← b2]
      exact ⟨fun ⟨_, g⟩ => by omega, fun g => ⟨hf, by omega⟩⟩
    · simp [he]
  refine ⟨e1, fun hd => ?_⟩
  have hd2 := hd
  rw [e1, Bool.and_eq_true, decide_eq_true_eq] at hd2
  obtain ⟨he, hg⟩ := hd2
  have hl : (farP L).toNat = (catP L).length := by have := catP_length L; have := b2.2 hg; omega
  rw [doneP, if_pos hd, h.end_, if_pos he, hl]
  obtain ⟨c1, c2⟩ := cat_facts (L := L) [] h.ris (fun x hx => (up0 h.ris x hx)) hg
  rw [List.nil_append] at c1 c2
  have hfill := fun (j : Nat) (hj : (List.replicate (catP L).length (0 : UInt8))[j]? = (catP L)[j]? ∨ ∃ x ∈ l, x.off ≤ (j : Int) ∧ (j : Int) < x.stop) =>
    fill_get (catP L) j l (List.replicate (catP L).length 0) (by simp) (fun x hx => c1 x (h.perm.mem_iff.2 hx)) hj
  refine List.ext_getElem? fun j => ?_
  by_cases hj : j < (catP L).length
  · refine (hfill j (.inr ?_)).1
    obtain ⟨x, hx, hc⟩ := c2 j (Nat.zero_le _) hj
    exact ⟨x, h.perm.mem_iff.1 hx, hc⟩
  · exact (hfill j (.inl (by rw [List.getElem?_eq_none (by simp; omega), List.getElem?_eq_none (by omega)]))).1
end Go.Proofs.YtpoigngpdcmipaaGreat
namespace Go.Proofs.YtpoigngpdcmipaaGreat
open Go.RowKit Go.Shelf
end Go.Proofs.YtpoigngpdcmipaaGreat
namespace Go.Proofs.YtpoigngpdcmipaaGreat
open Go.RowKit
section
variable {n : Nat} {P : Program} {ops : Array Oper} {Q : Exit → Act → World → Prop} {md : Region.Mode} {S : World → Prop} {y : Nat}
def anyHY (n : Nat) (P : Program) (md : Region.Mode) (ops : Array Oper) (Q : Exit → Act → World → Prop) (y : Nat) (S : World → Prop) : Nat → Array Bool → Act → World → Prop
  | 0, listed, a, w => Region.ready md ops listed = [] ∧ Q .normal a w
  | fuel + 1, listed, a, w => (Region.ready md ops listed = [] → Q .normal a w) ∧
    ∀ i ∈ Region.ready md ops listed, wpOpIn Fence.wide n P ops Q i (fun a' w' => ((listed.setIfInBounds i true).getD y true = false → S w') ∧ anyHY n P md ops Q y S fuel (listed.setIfInBounds i true) a' w') a w
theorem any_of_HY : ∀ (fuel : Nat) (listed : Array Bool) (a : Act) (w : World), anyHY n P md ops Q y S fuel listed a w → wpAnyIn Fence.wide n P md ops Q fuel listed a w
  | 0, _, _, _, h => h
  | fuel + 1, _, _, _, h => ⟨h.1, fun i hi => wpOpIn_mono (fun a' w' h' => any_of_HY fuel _ a' w' h'.2) (h.2 i hi)⟩
def waitsB (md : Region.Mode) (ops : Array Oper) (y i : Nat) : Bool := match ops[y]? with | some o => o.after.any fun e => Region.binds md e && e.on == i | none => false
theorem waitsB_spec {i : Nat} {o : Oper} (h : waitsB md ops y i = true) (ho : ops[y]? = some o) : ∃ e ∈ o.after, Region.binds md e = true ∧ e.on = i := by
  unfold waitsB at h
  rw [ho] at h
  obtain ⟨e, he, hb⟩ := Array.any_eq_true'.1 h
  simp only [Bool.and_eq_true, beq_iff_eq] at hb
  exact ⟨e, he, hb.1, hb.2⟩
theorem takeY_all {i : Nat} {oi : Oper} {v : Value} (hi : ops[i]? = some oi) (hw : waitsB md ops y i = true) (hsel : ∀ (j : Nat) (o : Oper) cs b, ops[j]? = some o → o.op ≠ .select cs b) (hQ : ∀ c a w, Q (.panic c) (a.put oi.dst v) w → Q (.panic c) a w) :
    ∀ (fuel : Nat) (listed : Array Bool) (a : Act) (w : World), (∀ j oj, ops[j]? = some oj → j ≠ i → listed.getD j true = false → (∀ e ∈ oj.after, Region.binds md e = true → e.on ≠ i) → oi.apart ops oj = true) →
      i ∈ Region.ready md ops listed → listed.getD y true = false → YieldsIf P ops S oi v a → S w → anyHY n P md ops Q y S fuel (listed.setIfInBounds i true) (a.put oi.dst v) w → anyHY n P md ops Q y S (fuel + 1) listed a w
  | fuel, listed, a, w, free, hr, hyl, hy, hS, H => by
    refine ⟨fun h => (by rw [h] at hr; cases hr), fun j hj => ?_⟩
    by_cases hji : j = i
    · subst hji; exact opI_here hi hy hS ⟨fun _ => hS, H⟩
    have hj' := ready_mono hj hji
    cases fuel with
    | zero => rw [H.1] at hj'; cases hj'
    | succ fuel =>
      obtain ⟨hjun, oj, hoj, hall⟩ := mem_ready.1 hj
      have hnot : ∀ e ∈ oj.after, Region.binds md e = true → e.on ≠ i := fun e he hb heq => by
        have g1 := hall e he hb
        have g0 := (mem_ready.1 hr).1
        rw [heq] at g1
        rcases Nat.lt_or_ge i listed.size with h' | h'
        · simp [h'] at g0 g1; rw [g0] at g1; cases g1
        · simp [Array.getElem?_eq_none h'] at g1
      have hjy : j ≠ y := fun e => by
        subst e
        obtain ⟨e, he, hb, hon⟩ := waitsB_spec hw hoj
        exact hnot e he hb hon
      have hyl' : (listed.setIfInBounds j true).getD y true = false := by rw [getD_set_ne true hjy]; exact hyl
      refine wpOpIn_mono (fun a' w' h3 => ?_) (opI_swap hoj (free j oj hoj hji hjun hnot) (fun cs b => hsel i oi cs b hi) (fun cs b => hsel j oj cs b hoj) hQ hy (H.2 j hj'))
      have hS' : S w' := h3.2.1 (by rw [getD_set_ne true hjy]; by_cases hiy : i = y
                                    · subst hiy
                                      have g0 := (mem_ready.1 hr).1
                                      obtain ⟨e, he, hb, hon⟩ := waitsB_spec hw hi
                                      obtain ⟨_, o2, ho2, hall2⟩ := mem_ready.1 hr
                                      rw [hi] at ho2
                                      cases ho2
                                      have g1 := hall2 e he hb
                                      rw [hon] at g1
                                      exfalso
                                      rcases Nat.lt_or_ge i listed.size with h' | h'
                                      · simp [h'] at g0 g1; rw [g0] at g1; cases g1
                                      · simp [Array.getElem?_eq_none h'] at g1
                                    · rw [getD_set_ne true hiy]; exact hyl)
      refine ⟨fun _ => hS', takeY_all hi hw hsel hQ fuel (listed.setIfInBounds j true) a' w' (fun k ok hk hki hun hno => free k ok hk hki ?_ hno) (ready_mono hr (Ne.symm hji)) hyl' h3.1 hS' (by rw [Array.setIfInBounds_comm _ _ hji]; exact h3.2.2)⟩
      by_cases hjk : j = k
      · subst hjk; exact hjun
      · rw [getD_set_ne true hjk] at hun; exact hun
theorem pureY {i : Nat} {oi : Oper} {v : Value} {fuel : Nat} {listed : Array Bool} {a : Act} {w : World} (hi : ops[i]? = some oi) (hs : Region.noSelect ops = true) (hf : Region.free md ops listed i = true) (hr : (Region.ready md ops listed).contains i = true)
    (hd : waitsB md ops y i = true) (hyl : listed.getD y true = false) (hQ : ∀ c a w, Q (.panic c) (a.put oi.dst v) w → Q (.panic c) a w) (hw : Region.wanted oi (yielded ops a.tmps) = true) (hrun : ∀ w, S w → (execOp a.eval oi).run P w = .ok (.value v) w) (hS : S w)
    (h : anyHY n P md ops Q y S fuel (listed.setIfInBounds i true) (a.put oi.dst v) w) : anyHY n P md ops Q y S (fuel + 1) listed a w :=
  takeY_all hi hd (Region.noSelect_spec hs) hQ fuel listed a w (Region.free_spec hi hf) (by simpa using hr) hyl (.inl ⟨hw, hrun⟩) hS h
theorem oneY {i : Nat} {oi : Oper} {fuel : Nat} {listed : Array Bool} {a : Act} {w : World} (hr : Region.ready md ops listed = [i]) (hi : ops[i]? = some oi) (hw : Region.wanted oi (yielded ops a.tmps) = true)
    (h : ∀ K : Act → World → Prop, (∀ a w, ((listed.setIfInBounds i true).getD y true = false → S w) → anyHY n P md ops Q y S fuel (listed.setIfInBounds i true) a w → K a w) → oi.wpIn Fence.wide n P a w K Q) : anyHY n P md ops Q y S (fuel + 1) listed a w := by
  refine ⟨fun h0 => (by rw [hr] at h0; cases h0), fun j hj => ?_⟩
  rw [hr, List.mem_singleton] at hj
  subst hj
  unfold wpOpIn
  simp only [hi]
  rw [if_pos hw]
  exact h _ (fun a w hS hW => ⟨hS, hW⟩)
theorem doneY {listed : Array Bool} {a : Act} {w : World} (hr : Region.ready md ops listed = []) (h : Q .normal a w) : ∀ fuel, anyHY n P md ops Q y S fuel listed a w
  | 0 => ⟨hr, h⟩
  | _ + 1 => ⟨fun _ => h, by rw [hr]; simp⟩
theorem regionY (y : Nat) (S : World → Prop) {id : Nat} {a : Act} {w : World} (hm : P.follows .mixedOrders = true) (h : anyHY 0 P .any ops Q y S ops.size (Array.replicate ops.size false) a w.drew) : (Code.region id ops true).wp P Q a w :=
  wpIn_wide.1 (wpIn_region_any (n := 0) hm (any_of_HY _ _ _ _ h))
theorem valI {o : Oper} {a : Act} {w : World} {K : Act → World → Prop} {v : Value} (hrun : (execOp a.eval o).run P w = .ok (.value v) w) (h : K (a.put o.dst v) w) : o.wpIn Fence.wide n P a w K Q :=
  ⟨fun _ _ => trivial, by rw [show Fence.wide.round = none from rfl, Oper.semAt_none, hrun]; exact h⟩
end
end Go.Proofs.YtpoigngpdcmipaaGreat
namespace Go.Proofs.YtpoigngpdcmipaaGreat
open Go.RowKit Go.Shelf
section
variable {n : Nat} {Q : Exit → Act → World → Prop} {K : Act → World → Prop} {o : Oper} {a : Act} {w : World}
theorem skipI {w' : World} (hrun : (execOp a.eval o).run Tryz.prog w = .ok .skip w') (h : K (a.put o.dst undef) w') : o.wpIn Fence.wide n Tryz.prog a w K Q :=
  ⟨fun _ _ => trivial, by rw [show Fence.wide.round = none from rfl, Oper.semAt_none, hrun]; exact h⟩
end
theorem wpList_growU {ops : Array Oper} {rest : List Oper} {o : Oper} {a : Act} {w w' : World} {Q : Exit → Act → World → Prop} {v : Value} (hg : o.guard = none) (hrun : (execOp a.eval o).run Tryz.prog w = .ok (.value v) w') (h : wpList Tryz.prog ops Q rest (a.put o.dst v) w') : wpList Tryz.prog ops Q (o :: rest) a w :=
  wpList_plain hg fun K hK => by unfold Oper.wp; rw [hrun]; exact hK _ _ h
end Go.Proofs.YtpoigngpdcmipaaGreat
namespace Go.Proofs.YtpoigngpdcmipaaGreat
open Go.RowKit
end Go.Proofs.YtpoigngpdcmipaaGreat
namespace Go.Proofs.YtpoigngpdcmipaaGreat
open Go.RowKit Go.Shelf
end Go.Proofs.YtpoigngpdcmipaaGreat
namespace Go.Proofs.YtpoigngpdcmipaaGreat
open Go.RowKit Go.Shelf
structure XP where
  p : Pc
  A : Option Addr
  c : Nat
def clP (x : XP) : List Value := [.int .i64 x.p.off, .bool x.p.more, .slice x.A x.p.b.length x.c]
def piE (l : List XP) : List Pc := l.map (·.p)
end Go.Proofs.YtpoigngpdcmipaaGreat
namespace Go.Proofs.YtpoigngpdcmipaaGreat
open Go.RowKit Go.Shelf
theorem clP_one (x : XP) : (clP x).toArray.all (·.oneCell') = true := by simp [clP, Value.oneCell']
end Go.Proofs.YtpoigngpdcmipaaGreat
namespace Go.Proofs.YtpoigngpdcmipaaGreat
open Go.RowKit Go.Shelf
theorem cells_at {w : World} {g i : Nat} {cs : Array Value} {ty : TypeId} {fr : Nat × Nat} {v : Value} (h : w.heap[g]? = some (.cells cs ty fr)) (hi : cs[i]? = some v) : w.cell? ⟨g, i, none⟩ = some v := by
  simp [World.cell?, h, hi]
set_option maxRecDepth 100000 in
theorem hcend (x : XP) (w : World) (h0 : 0 ≤ x.p.off) (h1 : x.p.stop ≤ 1000000) :
    Calls Tryz.prog 178 #[.agg (clP x).toArray] w fun e w' => e = .returned (.int .i64 x.p.stop) ∧ Below w.heap.size w w' := by
  have h2 : x.p.stop = x.p.off + (x.p.b.length : Int) := rfl
  rw [h2] at h1 ⊢
  have hB := Below.alloc (Below.refl w.heap.size w) (Nat.le_refl _) (.cells (clP x).toArray 225)
  unfold clP at hB ⊢
  go_enter Tryz.func178, Tryz.ntmps178
  go_wp2
  go_ret
  exact ⟨rfl, hB⟩
set_option maxRecDepth 100000 in
theorem hccheck (a n : Int) (m : Bool) (w : World) (h0 : 0 ≤ n) (h1 : n ≤ 1000000) (ha : -9223372036854775808 ≤ a ∧ a ≤ 9223372036854775807) :
    Calls Tryz.prog 175 #[.int .i64 a, .bool m, .int .i64 n] w fun e w' =>
      e = .returned (.int .i64 (if a < 0 ∨ (m = true ∧ (n = 0 ∨ n % 8 ≠ 0)) then 4 else if a > 65535 - n then 6 else 0)) ∧ w' = w := by
  generalize hR : (if a < 0 ∨ (m = true ∧ (n = 0 ∨ n % 8 ≠ 0)) then (4 : Int) else if a > 65535 - n then 6 else 0) = R
  have HR := Lib.hid hR
  clear hR
  go_enter Tryz.func175, Tryz.ntmps175
  by_cases c1 : a < 0
  · have d1 : decide (a < 0) = true := decide_eq_true c1
    cases m <;> (go_wp2; go_ret; exact ⟨by rw [← HR.out, if_pos (.inl c1)]; rfl, rfl⟩)
  · have d1 : decide (a < 0) = false := decide_eq_false c1
    cases m with
    | false =>
      by_cases c4 : a > 65535 - n
      · have d4 : decide (a > 65535 - n) = true := decide_eq_true c4
        have d4' : decide (65535 - n < a) = true := d4
        go_wp2
        go_ret
        exact ⟨by rw [← HR.out, if_neg (by rintro (h | ⟨h, _⟩); (first | exact c1 h | omega); cases h), if_pos c4]; rfl, rfl⟩
      · have d4 : decide (a > 65535 - n) = false := decide_eq_false c4
        have d4' : decide (65535 - n < a) = false := d4
        go_wp2
        go_ret
        exact ⟨by rw [← HR.out, if_neg (by rintro (h | ⟨h, _⟩); (first | exact c1 h | omega); cases h), if_neg (by omega)]; rfl, rfl⟩
    | true =>
      by_cases c2 : n = 0
      · have d2 : decide (n = 0) = true := decide_eq_true c2
        clear h0 h1
        subst c2
        go_wp2
        go_ret
        exact ⟨by rw [← HR.out, if_pos (.inr ⟨by trivial, .inl (by trivial)⟩)]; rfl, rfl⟩
      · have d2 : decide (n = 0) = false := decide_eq_false c2
        by_cases c3 : n % 8 = 0
        · have d3 : decide (n % 8 = 0) = true := decide_eq_true c3
          by_cases c4 : a > 65535 - n
          · have d4 : decide (a > 65535 - n) = true := decide_eq_true c4
            have d4' : decide (65535 - n < a) = true := d4
            go_wp2
            go_ret
            exact ⟨by rw [← HR.out, if_neg (by rintro (h | ⟨_, h | h⟩); (first | exact c1 h | omega); (first | exact c2 h | omega); exact h c3), if_pos c4]; rfl, rfl⟩
          · have d4 : decide (a > 65535 - n) = false := decide_eq_false c4
            have d4' : decide (65535 - n < a) = false := d4
            go_wp2
            go_ret
            exact ⟨by rw [← HR.out, if_neg (by rintro (h | ⟨_, h | h⟩); (first | exact c1 h | omega); (first | exact c2 h | omega); exact h c3), if_neg (by omega)]; rfl, rfl⟩
        · have d3 : decide (n % 8 = 0) = false := decide_eq_false c3
          go_wp2
          go_ret
          exact ⟨by rw [← HR.out, if_pos (.inr ⟨by trivial, .inr c3⟩)]; rfl, rfl⟩
set_option maxRecDepth 100000 in
theorem hcalike (p x : XP) (B B' : Nat) (w : World) (hp : Rd w B p.A p.p.b) (hx : Rd w B' x.A x.p.b) (hB : B ≤ w.heap.size) (hB' : B' ≤ w.heap.size) :
    Calls Tryz.prog 174 #[.agg (clP p).toArray, .agg (clP x).toArray] w fun e w' => e = .returned (.bool (alikeP p.p x.p)) ∧ Below w.heap.size w w' := by
  have hb0 := Below.alloc (Below.refl w.heap.size w) (Nat.le_refl _) (.cells (clP p).toArray 225)
  have hb := Below.alloc hb0 (by simp) (.cells (clP x).toArray 225)
  have hP := Lib.hid (hp.below (hb.mono hB))
  have hX := Lib.hid (hx.below (hb.mono hB'))
  clear hp hx
  rcases p with ⟨⟨a, m, b⟩, A, c⟩
  rcases x with ⟨⟨a', m', b'⟩, A', c'⟩
  by_cases c1 : a = a'
  · subst c1
    have hR : alikeP (Pc.mk a m b) (Pc.mk a m' b') = decide (b = b') := by simp [alikeP]
    rw [hR]
    clear hR
    simp only [clP] at hP hX hb0 hb ⊢
    go_enter Tryz.func174, Tryz.ntmps174
    go_wp2_with (go_at_call 187; refine (equal_any _ _ _ _ _ _ _ _ _ hP.out hX.out).mono ?_; rintro e w2 ⟨rfl, rfl⟩)
    go_ret
    exact ⟨rfl, hb⟩
  · have hR : alikeP (Pc.mk a m b) (Pc.mk a' m' b') = false := by simp [alikeP, c1]
    rw [hR]
    clear hR
    simp only [clP] at hP hX hb0 hb ⊢
    go_enter Tryz.func174, Tryz.ntmps174
    go_wp2
    go_ret
    exact ⟨rfl, hb⟩
theorem run_load_hp {o : Oper} {a : Act} {w : World} {x : Operand} {g i : Nat} {cs : List Value} (ho : o.op = .load 225 x) (hx : a.eval x = .pointer (some ⟨g, i, none⟩)) (hr : w.rangeAt g i cs) (hl : cs.length = 3) :
    (execOp a.eval o).run Tryz.prog w = .ok (.value (.agg cs.toArray)) w := by
  have h := run_loadVar_mid (P := Tryz.prog) w g i 225 cs _ hr Tryz.underlying225 rfl (by rw [hl]; kernel_rfl)
  unfold execOp
  simp only [ho, hx, Instr.loadAt, Instr.sureAddr, Sem.run_bind, Sem.run_pure, Result.andThen_ok, h]
set_option maxRecDepth 100000 in
theorem hcsame (p x : XP) (B B' : Nat) (w : World) (hp : Rd w B p.A p.p.b) (hx : Rd w B' x.A x.p.b) (hB : B ≤ w.heap.size) (hB' : B' ≤ w.heap.size) :
    Calls Tryz.prog 176 #[.agg (clP p).toArray, .agg (clP x).toArray] w fun e w' => e = .returned (.bool (decide (x.p = p.p))) ∧ Below w.heap.size w w' := by
  have hb0 := Below.alloc (Below.refl w.heap.size w) (Nat.le_refl _) (.cells (clP p).toArray 225)
  have hb := Below.alloc hb0 (by simp) (.cells (clP x).toArray 225)
  have hP := Lib.hid (hp.below (hb.mono hB))
  have hX := Lib.hid (hx.below (hb.mono hB'))
  have hz := hb.size
  clear hp hx
  rcases p with ⟨⟨a, m, b⟩, A, c⟩
  rcases x with ⟨⟨a', m', b'⟩, A', c'⟩
  by_cases c1 : m = m'
  · subst c1
    have hR : decide (Pc.mk a' m b' = Pc.mk a m b) = alikeP (Pc.mk a m b) (Pc.mk a' m b') := by
      rw [alikeP, Bool.eq_iff_iff]
      simp only [Bool.and_eq_true, decide_eq_true_eq, Pc.mk.injEq, beq_iff_eq]
      exact ⟨fun ⟨h1, _, h3⟩ => ⟨h1.symm, h3.symm⟩, fun ⟨h1, h3⟩ => ⟨h1.symm, by trivial, h3.symm⟩⟩
    rw [hR]
    clear hR
    have hcall := hcalike ⟨⟨a, m, b⟩, A, c⟩ ⟨⟨a', m, b'⟩, A', c'⟩ _ _ _ hP.out hX.out (by omega) (by omega)
    simp only [clP] at hcall hb0 hb ⊢
    go_enter Tryz.func176, Tryz.ntmps176
    go_wp2_with (go_at_call 174; refine hcall.mono ?_; rintro e w2 ⟨rfl, x2⟩)
    go_ret
    exact ⟨rfl, hb.trans (x2.mono hz)⟩
  · have hR : decide (Pc.mk a' m' b' = Pc.mk a m b) = false := by
      simp only [decide_eq_false_iff_not, Pc.mk.injEq]
      rintro ⟨_, h, _⟩
      exact c1 h.symm
    rw [hR]
    clear hR
    simp only [clP] at hP hX hb0 hb ⊢
    go_enter Tryz.func176, Tryz.ntmps176
    go_wp2
    go_ret
    exact ⟨rfl, hb⟩
end Go.Proofs.YtpoigngpdcmipaaGreat
namespace Go.Proofs.YtpoigngpdcmipaaGreat
open Go.RowKit Go.Shelf
theorem min_if (a b : Int) : (if b < a then b else a) = min a b := by omega
set_option maxRecDepth 100000 in
theorem hcmeets (p x : XP) (w0 : World) (hp0 : 0 ≤ p.p.off) (hp1 : p.p.stop ≤ 1000000) (hx0 : 0 ≤ x.p.off) (hx1 : x.p.stop ≤ 1000000) :
    Calls Tryz.prog 177 #[.agg (clP p).toArray, .agg (clP x).toArray] w0 fun e w' => e = .returned (.bool (meetsP p.p x.p)) ∧ Below w0.heap.size w0 w' := by
  obtain ⟨W, hW⟩ : ∃ W, W = (w0.alloc (.cells (clP p).toArray 225)).alloc (.cells (clP x).toArray 225) := ⟨_, rfl⟩
  have hb : Below w0.heap.size w0 W := by rw [hW]; exact Below.alloc (Below.alloc (Below.refl w0.heap.size w0) (Nat.le_refl _) _) (by simp) _
  have hz : W.heap.size = w0.heap.size + 2 := by rw [hW]; simp
  have rp : W.rangeAt w0.heap.size 0 (clP p) := fun j v hj => by
    refine cells_at (cs := (clP p).toArray) (ty := 225) (fr := (0, 0)) ?_ (by rw [Nat.zero_add, List.getElem?_toArray]; exact hj)
    rw [hW]
    exact (Below.heap_alloc _ _ w0.heap.size (by simp)).trans (World.alloc_heap_new w0 _)
  have rx : W.rangeAt (w0.heap.size + 1) 0 (clP x) := fun j v hj => by
    refine cells_at (cs := (clP x).toArray) (ty := 225) (fr := (0, 0)) ?_ (by rw [Nat.zero_add, List.getElem?_toArray]; exact hj)
    rw [hW]
    have := World.alloc_heap_new (w0.alloc (.cells (clP p).toArray 225)) (.cells (clP x).toArray 225)
    rwa [show (w0.alloc (.cells (clP p).toArray 225)).heap.size = w0.heap.size + 1 by simp] at this
  have kp0 : W.cell? ⟨w0.heap.size, 0, none⟩ = some (.int .i64 p.p.off) := rp 0 _ rfl
  have kx0 : W.cell? ⟨w0.heap.size + 1, 0, none⟩ = some (.int .i64 x.p.off) := rx 0 _ rfl
  have MT : Hid (decide (max p.p.off x.p.off < min p.p.stop x.p.stop) = meetsP p.p x.p) := Lib.hid rfl
  go_enter Tryz.func177, Tryz.ntmps177
  go_upto_region 1 with fail
  rw [← hW]
  have hz2 : w0.heap.size + 1 < W.heap.size := by omega
  clear hW
  refine wp_region_held_drew (S := fun w' => Below W.heap.size W w') (by kernel_rfl) (Below.refl _ W).drew (fun hS => ?_)
  refine held_pure (i := 0) (oi := ⟨some 5, _, _, _, _, _⟩) rfl (by kernel_rfl) (by kernel_rfl) (by kernel_rfl) (fun _ _ _ h => h) (by rfl) (v := ?_) (fun w hSw => ?_) hS (fun hS => ?_)
  rotate_left
  · go_simp; try with_reducible rfl
  try go_frame
  refine held_pure (i := 1) (oi := ⟨some 6, _, _, _, _, _⟩) rfl (by kernel_rfl) (by kernel_rfl) (by kernel_rfl) (fun _ _ _ h => h) (by rfl) (fun w hSw => run_load_int rfl rfl ((hSw.cell (p := ⟨w0.heap.size, 0, none⟩) (by show w0.heap.size < _; omega)).trans kp0)) hS (fun hS => ?_)
  try go_frame
  refine held_pure (i := 2) (oi := ⟨some 7, _, _, _, _, _⟩) rfl (by kernel_rfl) (by kernel_rfl) (by kernel_rfl) (fun _ _ _ h => h) (by rfl) (v := ?_) (fun w hSw => ?_) hS (fun hS => ?_)
  rotate_left
  · go_simp; try with_reducible rfl
  try go_frame
  refine held_pure (i := 3) (oi := ⟨some 8, _, _, _, _, _⟩) rfl (by kernel_rfl) (by kernel_rfl) (by kernel_rfl) (fun _ _ _ h => h) (by rfl) (fun w hSw => run_load_int rfl rfl ((hSw.cell (p := ⟨w0.heap.size + 1, 0, none⟩) (by show w0.heap.size + 1 < _; omega)).trans kx0)) hS (fun hS => ?_)
  try go_frame
  refine held_pure (i := 4) (oi := ⟨some 9, _, _, _, _, _⟩) rfl (by kernel_rfl) (by kernel_rfl) (by kernel_rfl) (fun _ _ _ h => h) (by rfl) (v := .int .i64 (max p.p.off x.p.off)) (fun w hSw => by go_simp) hS (fun hS => ?_)
  try go_frame
  refine held_pure (i := 5) (oi := ⟨some 10, _, _, _, _, _⟩) rfl (by kernel_rfl) (by kernel_rfl) (by kernel_rfl) (fun _ _ _ h => h) (by rfl) (fun w hSw => run_load_hp rfl rfl (range_below rp (by omega) hSw) rfl) hS (fun hS => ?_)
  try go_frame
  refine held_pure (i := 7) (oi := ⟨some 12, _, _, _, _, _⟩) rfl (by kernel_rfl) (by kernel_rfl) (by kernel_rfl) (fun _ _ _ h => h) (by rfl) (fun w hSw => run_load_hp rfl rfl (range_below rx (by omega) hSw) rfl) hS (fun hS => ?_)
  try go_frame
  refine wpAnyH_ready (rs := [6]) (by kernel_rfl) (by simp) (AllReadyH.cons (o := ⟨some 11, _, _, _, _, _⟩) rfl (fun K hK => ?_) AllReadyH.nil)
  rw [if_pos (by rfl)]
  go_simp
  refine (hcend p _ hp0 hp1).mono ?_
  rintro e w6 ⟨rfl, x6⟩
  show K _ _
  refine hK.out _ _ (below_step hS x6) (fun hS => ?_)
  clear hK K
  try go_frame
  refine wpAnyH_ready (rs := [8]) (by kernel_rfl) (by simp) (AllReadyH.cons (o := ⟨some 13, _, _, _, _, _⟩) rfl (fun K hK => ?_) AllReadyH.nil)
  rw [if_pos (by rfl)]
  go_simp
  refine (hcend x _ hx0 hx1).mono ?_
  rintro e w8 ⟨rfl, x8⟩
  show K _ _
  refine hK.out _ _ (below_step hS x8) (fun hS => ?_)
  clear hK K
  try go_frame
  refine held_pure (i := 9) (oi := ⟨some 14, _, _, _, _, _⟩) rfl (by kernel_rfl) (by kernel_rfl) (by kernel_rfl) (fun _ _ _ h => h) (by rfl) (v := .int .i64 (min p.p.stop x.p.stop)) (fun w hSw => by go_simp; try exact min_if _ _) hS (fun hS => ?_)
  try go_frame
  refine held_pure (i := 10) (oi := ⟨some 15, _, _, _, _, _⟩) rfl (by kernel_rfl) (by kernel_rfl) (by kernel_rfl) (fun _ _ _ h => h) (by rfl) (v := .bool (meetsP p.p x.p)) (fun w hSw => by go_simp; exact MT.out) hS (fun hS => ?_)
  try go_frame
  refine held_pure (i := 11) (oi := ⟨some 4, _, _, _, _, _⟩) rfl (by kernel_rfl) (by kernel_rfl) (by kernel_rfl) (fun _ _ _ h => h) (by rfl) (v := ?_) (fun w hSw => ?_) hS (fun hS => ?_)
  rotate_left
  · go_simp; try with_reducible rfl
  try go_frame
  refine wpAnyH_done (by kernel_rfl) ?_ _
  go_wp2_with fail
  go_ret
  exact ⟨rfl, hb.trans (hS.mono (by omega))⟩
theorem row_of {w : World} {B : Nat} {A : Option Addr} {l : List XP} (h : RdS clP 3 w B A l) {k : Nat} {x : XP} (hx : l[k]? = some x) : ∃ b o, A = some ⟨b, o, none⟩ ∧ b < B ∧ w.rangeAt b (o + k * 3) (clP x) := by
  obtain ⟨b, o, e, hb, hr⟩ := h (by have := (List.getElem?_eq_some_iff.1 hx).1; omega)
  exact ⟨b, o, e, hb, hr k x hx⟩
set_option maxRecDepth 100000 in
set_option maxHeartbeats 1000000 in
theorem hcindex (g : Nat) (bnd : Value) (f : XP → Bool) (A : Option Addr) (c : Nat) (l : List XP) (B : Nat) (w : World) (eg : ∀ args w, (callFunc g args).run Tryz.prog w = .ok (.enter g args) w)
    (hr : RdS clP 3 w B A l) (hB : B ≤ w.heap.size) (hl : l.length ≤ 100000)
    (hp : ∀ (W : World) (x : XP), x ∈ l → Below w.heap.size w W → Calls Tryz.prog g #[bnd, .agg (clP x).toArray] W fun e w' => e = .returned (.bool (f x)) ∧ Below w.heap.size w w') :
    Calls Tryz.prog 185 #[.slice A l.length c, .func (.func g) #[bnd] #[]] w fun e w' => (∃ k : Int, e = .returned (.int .i64 k) ∧ decide (0 ≤ k) = l.any f ∧ (-1 ≤ k ∧ k ≤ 100000)) ∧ Below w.heap.size w w' := by
  obtain ⟨n, hn⟩ : ∃ n, n = l.length := ⟨_, rfl⟩
  have HN := Lib.hid hn
  have HP := Lib.hid hp
  have HR := Lib.hid hr
  rw [← hn] at hl ⊢
  clear hn hp hr
  go_enter Tryz.func185, Tryz.ntmps185
  go_wp2
  go_loopw [5, 8] (fun _ s8 wr => ∃ kk : Nat, kk ≤ n ∧ s8 = .int .i64 kk ∧ Hid (l.any f = (l.drop kk).any f) ∧ Below w.heap.size w wr) (fun _ i _ => n - (intOf i).toNat)
  case atStart => exact ⟨0, Nat.zero_le _, rfl, Lib.hid rfl, Below.refl _ w⟩
  case round =>
    obtain ⟨kk, hkk, rfl, HE, hbel⟩ := hrel
    by_cases hlt : kk < n
    · obtain ⟨x, hx⟩ : ∃ x, l[kk]? = some x := ⟨_, List.getElem?_eq_getElem (by rw [← HN.out]; exact hlt)⟩
      have hcall := Lib.hid (HP.out wr x (List.mem_of_getElem? hx) hbel)
      obtain ⟨b1, o1, rfl, hb1, hr1⟩ := row_of HR.out hx
      have hrow := range_below hr1 hb1 (hbel.mono hB)
      have HXD : Hid (l.drop kk = x :: l.drop (kk + 1)) := Lib.hid (by
        have hk : kk < l.length := by rw [← HN.out]; exact hlt
        rw [List.drop_eq_getElem_cons hk]
        rw [List.getElem?_eq_getElem hk] at hx
        rw [Option.some.inj hx])
      clear hx hr1
      cases hq : f x with
      | true =>
        have HQ := Lib.hid hq
        clear hq
        go_wp2_with (first
          | ((with_reducible show wpList _ _ _ (Oper.mk _ (Op.load 225 _) _ _ _ _ :: _) _ _); refine wpList_val rfl (run_load_hp rfl rfl hrow rfl) ?_)
          | (go_at_fn g; refine hcall.out.mono ?_; rintro e w' ⟨rfl, hb'⟩; rw [HQ.out]))
        go_ret
        exact ⟨⟨kk, rfl, by rw [HE.out, HXD.out, List.any_cons, HQ.out, Bool.true_or]; exact decide_eq_true (by omega), by omega, by omega⟩, hb'⟩
      | false =>
        have HQ := Lib.hid hq
        clear hq
        go_wp2_with (first
          | ((with_reducible show wpList _ _ _ (Oper.mk _ (Op.load 225 _) _ _ _ _ :: _) _ _); refine wpList_val rfl (run_load_hp rfl rfl hrow rfl) ?_)
          | (go_at_fn g; refine hcall.out.mono ?_; rintro e w' ⟨rfl, hb'⟩; rw [HQ.out]))
        go_roundw
        case rel => exact ⟨kk + 1, by omega, by simp, Lib.hid (by rw [HE.out, HXD.out, List.any_cons, HQ.out, Bool.false_or]), hb'⟩
        case measure => simp [intOf]; omega
    · obtain rfl : n = kk := by omega
      go_wp2
      go_ret
      exact ⟨⟨-1, rfl, by rw [HE.out, List.drop_eq_nil_of_le (by rw [← HN.out]; exact Nat.le_refl _)]; rfl, by omega, by omega⟩, hbel⟩
set_option maxRecDepth 100000 in
theorem hccontains (g : Nat) (bnd : Value) (f : XP → Bool) (A : Option Addr) (c : Nat) (l : List XP) (B : Nat) (w : World) (eg : ∀ args w, (callFunc g args).run Tryz.prog w = .ok (.enter g args) w)
    (hr : RdS clP 3 w B A l) (hB : B ≤ w.heap.size) (hl : l.length ≤ 100000)
    (hp : ∀ (W : World) (x : XP), x ∈ l → Below w.heap.size w W → Calls Tryz.prog g #[bnd, .agg (clP x).toArray] W fun e w' => e = .returned (.bool (f x)) ∧ Below w.heap.size w w') :
    Calls Tryz.prog 172 #[.slice A l.length c, .func (.func g) #[bnd] #[]] w fun e w' => e = .returned (.bool (l.any f)) ∧ Below w.heap.size w w' := by
  have hcall := Lib.hid (hcindex g bnd f A c l B w eg hr hB hl hp)
  generalize hR : l.any f = R at hcall
  clear hp hr hR
  go_enter Tryz.func172, Tryz.ntmps172
  go_wp2_with (go_at_call 185; refine hcall.out.mono ?_; rintro e w' ⟨⟨k, rfl, hk, hk0, hk1⟩, hb'⟩; have HK := Lib.hid hk; clear hk)
  go_ret
  exact ⟨by rw [← HK.out]; rfl, hb'⟩
set_option maxRecDepth 100000 in
set_option maxHeartbeats 1000000 in
theorem hcsearch (g : Nat) (cb : Array Value) (n : Nat) (p : Nat → Bool) (w : World) (eg : ∀ args w, (callFunc g args).run Tryz.prog w = .ok (.enter g args) w) (hn : n ≤ 100000)
    (hf : ∀ (W : World) (i : Nat), i < n → Below w.heap.size w W → Calls Tryz.prog g (#[.int .i64 i] ++ cb) W fun e w' => e = .returned (.bool (p i)) ∧ Below w.heap.size w w')
    (hmono : ∀ a b, a ≤ b → b < n → p a = true → p b = true) :
    Calls Tryz.prog 192 #[.int .i64 n, .func (.func g) #[] cb] w fun e w' => (∃ m : Nat, e = .returned (.int .i64 m) ∧ m ≤ n ∧ (∀ t, t < m → p t = false) ∧ (∀ t, m ≤ t → t < n → p t = true)) ∧ Below w.heap.size w w' := by
  have HF := Lib.hid hf
  have M := Lib.hid hmono
  clear hf hmono
  go_enter Tryz.func192, Tryz.ntmps192
  go_wp2
  go_loopw [5, 6] (fun s5 s6 wr => ∃ (lo hi : Nat), s5 = .int .i64 lo ∧ s6 = .int .i64 hi ∧ lo ≤ hi ∧ hi ≤ n ∧ Hid ((∀ t, t < lo → p t = false) ∧ (∀ t, hi ≤ t → t < n → p t = true)) ∧ Below w.heap.size w wr)
    (fun a b _ => (intOf b).toNat - (intOf a).toNat)
  case atStart => exact ⟨0, n, rfl, rfl, Nat.zero_le _, Nat.le_refl _, Lib.hid ⟨fun t ht => absurd ht (Nat.not_lt_zero _), fun t h1 h2 => by omega⟩, Below.refl _ w⟩
  case round =>
    obtain ⟨lo, hi, rfl, rfl, hlh, hin, I, hbel⟩ := hrel
    by_cases hlt : lo < hi
    · have hc0 := HF.out wr ((lo + hi) / 2) (by omega) hbel
      rw [show (((lo + hi) / 2 : Nat) : Int) = ((lo : Int) + (hi : Int)) / 2 by omega] at hc0
      have hc := Lib.hid hc0
      clear hc0
      cases hp : p ((lo + hi) / 2) with
      | false =>
        have HP := Lib.hid hp
        clear hp
        go_wp2_with (go_at_fn g; refine hc.out.mono ?_; rintro e w' ⟨rfl, hb'⟩; rw [HP.out])
        go_roundw
        case rel =>
          exact ⟨(lo + hi) / 2 + 1, hi, by simp, rfl, by omega, hin, Lib.hid ⟨fun t ht => (by
            cases h : p t with
            | false => rfl
            | true => have := M.out t ((lo + hi) / 2) (by omega) (by omega) h; rw [HP.out] at this; cases this), I.out.2⟩, hb'⟩
        case measure => simp [intOf]; omega
      | true =>
        have HP := Lib.hid hp
        clear hp
        go_wp2_with (go_at_fn g; refine hc.out.mono ?_; rintro e w' ⟨rfl, hb'⟩; rw [HP.out])
        go_roundw
        case rel =>
          exact ⟨lo, (lo + hi) / 2, rfl, by simp, by omega, by omega, Lib.hid ⟨I.out.1, fun t h1 h2 => M.out ((lo + hi) / 2) t h1 h2 HP.out⟩, hb'⟩
        case measure => simp [intOf]; omega
    · obtain rfl : lo = hi := by omega
      go_wp2
      go_ret
      exact ⟨⟨lo, rfl, hin, I.out⟩, hbel⟩
end Go.Proofs.YtpoigngpdcmipaaGreat
namespace Go.Proofs.YtpoigngpdcmipaaGreat
open Go.RowKit Go.Shelf
structure Hv (w : World) (g : Nat) (A : Option Addr) (c : Nat) (L : List XP) : Prop where
  made : w.cell? ⟨g, 0, none⟩ = some (.bool true)
  parts : w.cell? ⟨g, 1, none⟩ = some (.slice A L.length c)
  bytes : w.cell? ⟨g, 2, none⟩ = some (.int .i64 (bytesP (piE L)))
  far : w.cell? ⟨g, 3, none⟩ = some (.int .i64 (farP (piE L)))
  ended : w.cell? ⟨g, 4, none⟩ = some (.bool (endedP (piE L)))
  rd : RdS clP 3 w w.heap.size A L
  arg : ∀ x ∈ L, Arg w w.heap.size x.A x.c x.p.b
  cap : L.length ≤ c
  none_ : A = none → c = 0
  ris : Ris (piE L)
  n : L.length ≤ 100000
theorem Hv.lt {w : World} {g : Nat} {A : Option Addr} {c : Nat} {L : List XP} (h : Hv w g A c L) : g < w.heap.size := cell_block h.made
theorem Hv.below {w w' : World} {g : Nat} {A : Option Addr} {c : Nat} {L : List XP} (h : Hv w g A c L) (hb : Below w.heap.size w w') : Hv w' g A c L :=
  ⟨(hb.cell (p := ⟨g, 0, none⟩) h.lt).trans h.made, (hb.cell (p := ⟨g, 1, none⟩) h.lt).trans h.parts, (hb.cell (p := ⟨g, 2, none⟩) h.lt).trans h.bytes, (hb.cell (p := ⟨g, 3, none⟩) h.lt).trans h.far,
   (hb.cell (p := ⟨g, 4, none⟩) h.lt).trans h.ended, (h.rd.below hb).more hb.size, fun x hx => ((h.arg x hx).below hb).more hb.size, h.cap, h.none_, h.ris, h.n⟩
theorem run_load_hptr {o : Oper} {a : Act} {w : World} {x : Operand} {p : Addr} {A : Option Addr} (ho : o.op = .load 122 x) (hx : a.eval x = .pointer (some p)) (hc : w.cell? p = some (.pointer A)) :
    (execOp a.eval o).run Tryz.prog w = .ok (.value (.pointer A)) w := by
  unfold execOp
  simp only [ho, hx, Instr.loadAt, Instr.sureAddr, Sem.run_bind, Sem.run_pure, Result.andThen_ok]
  go_simp
theorem run_load_hps {o : Oper} {a : Act} {w : World} {x : Operand} {p : Addr} {A : Option Addr} {n c : Nat} (ho : o.op = .load 177 x) (hx : a.eval x = .pointer (some p)) (hc : w.cell? p = some (.slice A n c)) :
    (execOp a.eval o).run Tryz.prog w = .ok (.value (.slice A n c)) w := by
  unfold execOp
  simp only [ho, hx, Instr.loadAt, Instr.sureAddr, Sem.run_bind, Sem.run_pure, Result.andThen_ok]
  go_simp
def cutQ (A : Option Addr) (c lo : Nat) : Option Addr := if c = lo then A else A.map (·.add (lo * 3))
theorem slice_hparts : Tryz.prog.underlying 177 = some (.slice (Tryz.prog.elem 177)) := by kernel_rfl
theorem sizeOf_hpart (w : World) : (Go.sizeOf (Tryz.prog.elem 177)).run Tryz.prog w = .ok 3 w := by
  rw [show Tryz.prog.elem 177 = 225 by kernel_rfl]
  go_simp
theorem run_pcut_lh {o : Oper} {a : Act} {w : World} {x lo hi : Operand} {A : Option Addr} {n c m : Nat} {l h : Int} (ho : o.op = .slice 177 x (some lo) (some hi) none) (hx : a.eval x = .slice A n c) (hl : a.eval lo = .int .i64 l) (hh : a.eval hi = .int .i64 h)
    (h0 : 0 ≤ l) (h1 : l ≤ h) (h2 : h ≤ (c : Int)) (hm : m = h.toNat - l.toNat) :
    (execOp a.eval o).run Tryz.prog w = .ok (.value (.slice (cutQ A c l.toNat) m (c - l.toNat))) w := by
  subst hm
  have h1 := run_slice_lh (P := Tryz.prog) (w := w) 177 A n c slice_hparts .i64 .i64 l h h0 h1 h2
  unfold execOp
  simp only [ho, hx, hl, hh, Option.map, Sem.run_bind, run_sliceAt_slice _ _ _ _ _ _ slice_hparts, h1, sizeOf_hpart, Result.andThen_ok]
  rfl
theorem RdS.cutQ {w : World} {B : Nat} {A : Option Addr} {c : Nat} {l : List XP} (h : RdS clP 3 w B A l) (hc : l.length ≤ c) (lo k : Nat) : RdS clP 3 w B (cutQ A c lo) ((l.drop lo).take k) := by
  intro hn
  have hlo : lo < l.length := by simp at hn; omega
  obtain ⟨b, o, rfl, hb, hr⟩ := h (by omega)
  refine ⟨b, o + lo * 3, by simp [Go.Proofs.YtpoigngpdcmipaaGreat.cutQ, show ¬ c = lo by omega, add_off], hb, fun j x hx => ?_⟩
  rw [List.getElem?_take] at hx
  split at hx
  · rw [List.getElem?_drop] at hx
    have := hr (lo + j) x hx
    rwa [Nat.add_mul, ← Nat.add_assoc] at this
  · cases hx
theorem hcmade (g : Nat) (w : World) (h : w.cell? ⟨g, 0, none⟩ = some (.bool true)) : Calls Tryz.prog 128 #[.pointer (some ⟨g, 0, none⟩)] w fun e w' => e = .returned (.bool true) ∧ w' = w := by
  go_enter Tryz.func128, Tryz.ntmps128
  go_wp2
  go_ret
  exact ⟨rfl, rfl⟩
set_option maxRecDepth 100000 in
theorem hcclo (i u v g B : Nat) (off : Int) (A : Option Addr) (n c : Nat) (L : List XP) (x : XP) (W : World) (ku : W.cell? ⟨u, 0, none⟩ = some (.pointer (some ⟨g, 0, none⟩))) (kv : W.cell? ⟨v, 0, none⟩ = some (.int .i64 off))
    (kg : W.cell? ⟨g, 1, none⟩ = some (.slice A n c)) (hr : RdS clP 3 W B A L) (hB : B ≤ W.heap.size) (hx : L[i]? = some x) (hi : i < n) :
    Calls Tryz.prog 193 #[.int .i64 i, .pointer (some ⟨u, 0, none⟩), .pointer (some ⟨v, 0, none⟩)] W fun e w' => e = .returned (.bool (decide (x.p.off ≥ off))) ∧ Below W.heap.size W w' := by
  have hu := cell_block ku
  have hv := cell_block kv
  have hg := cell_block kg
  obtain ⟨b1, o1, rfl, hb, hrow⟩ := row_of hr hx
  have hb1 : b1 < W.heap.size := Nat.lt_of_lt_of_le hb hB
  have kx0 : W.cell? ⟨b1, o1 + i * 3, none⟩ = some (.int .i64 x.p.off) := by simpa using hrow 0 _ rfl
  clear hr hx hrow hb hB
  go_enter Tryz.func193, Tryz.ntmps193
  go_upto_region 1 with fail
  refine wp_region_held_drew (S := fun w' => Below W.heap.size W w') (by kernel_rfl) (Below.refl _ W).drew (fun hS => ?_)
  refine held_pure (i := 0) (oi := ⟨some 5, _, _, _, _, _⟩) rfl (by kernel_rfl) (by kernel_rfl) (by kernel_rfl) (fun _ _ _ h => h) (by rfl) (fun w hSw => run_load_hptr rfl rfl ((hSw.cell (p := ⟨u, 0, none⟩) hu).trans ku)) hS (fun hS => ?_)
  try go_frame
  refine held_pure (i := 1) (oi := ⟨some 6, _, _, _, _, _⟩) rfl (by kernel_rfl) (by kernel_rfl) (by kernel_rfl) (fun _ _ _ h => h) (by rfl) (v := ?_) (fun w hSw => ?_) hS (fun hS => ?_)
  rotate_left
  · go_simp; try with_reducible rfl
  try go_frame
  refine held_pure (i := 2) (oi := ⟨some 7, _, _, _, _, _⟩) rfl (by kernel_rfl) (by kernel_rfl) (by kernel_rfl) (fun _ _ _ h => h) (by rfl) (v := ?_) (fun w hSw => ?_) hS (fun hS => ?_)
  rotate_left
  · go_simp; try with_reducible rfl
  try go_frame
  refine held_pure (i := 3) (oi := ⟨some 8, _, _, _, _, _⟩) rfl (by kernel_rfl) (by kernel_rfl) (by kernel_rfl) (fun _ _ _ h => h) (by rfl) (fun w hSw => run_load_hps rfl rfl ((hSw.cell (p := ⟨g, 1, none⟩) hg).trans kg)) hS (fun hS => ?_)
  try go_frame
  refine held_pure (i := 4) (oi := ⟨some 9, _, _, _, _, _⟩) rfl (by kernel_rfl) (by kernel_rfl) (by kernel_rfl) (fun _ _ _ h => h) (by rfl) (v := ?_) (fun w hSw => ?_) hS (fun hS => ?_)
  rotate_left
  · go_simp; try with_reducible rfl
  try go_frame
  refine held_pure (i := 5) (oi := ⟨some 10, _, _, _, _, _⟩) rfl (by kernel_rfl) (by kernel_rfl) (by kernel_rfl) (fun _ _ _ h => h) (by rfl) (v := Value.pointer (some ⟨b1, o1 + i * 3, none⟩)) (fun w hSw => by go_simp; try (exact fun h => absurd h (by omega))) hS (fun hS => ?_)
  try go_frame
  refine held_pure (i := 6) (oi := ⟨some 11, _, _, _, _, _⟩) rfl (by kernel_rfl) (by kernel_rfl) (by kernel_rfl) (fun _ _ _ h => h) (by rfl) (v := Value.pointer (some ⟨b1, o1 + i * 3, none⟩)) (fun w hSw => by go_simp) hS (fun hS => ?_)
  try go_frame
  refine held_pure (i := 7) (oi := ⟨some 12, _, _, _, _, _⟩) rfl (by kernel_rfl) (by kernel_rfl) (by kernel_rfl) (fun _ _ _ h => h) (by rfl) (fun w hSw => run_load_int rfl rfl ((hSw.cell (p := ⟨b1, o1 + i * 3, none⟩) hb1).trans kx0)) hS (fun hS => ?_)
  try go_frame
  refine held_pure (i := 8) (oi := ⟨some 13, _, _, _, _, _⟩) rfl (by kernel_rfl) (by kernel_rfl) (by kernel_rfl) (fun _ _ _ h => h) (by rfl) (fun w hSw => run_load_int rfl rfl ((hSw.cell (p := ⟨v, 0, none⟩) hv).trans kv)) hS (fun hS => ?_)
  try go_frame
  refine held_pure (i := 9) (oi := ⟨some 14, _, _, _, _, _⟩) rfl (by kernel_rfl) (by kernel_rfl) (by kernel_rfl) (fun _ _ _ h => h) (by rfl) (v := .bool (decide (x.p.off ≥ off))) (fun w hSw => by go_simp) hS (fun hS => ?_)
  try go_frame
  refine held_pure (i := 10) (oi := ⟨some 4, _, _, _, _, _⟩) rfl (by kernel_rfl) (by kernel_rfl) (by kernel_rfl) (fun _ _ _ h => h) (by rfl) (v := ?_) (fun w hSw => ?_) hS (fun hS => ?_)
  rotate_left
  · go_simp; try with_reducible rfl
  try go_frame
  refine wpAnyH_done (by kernel_rfl) ?_ _
  go_wp2_with fail
  go_ret
  exact ⟨rfl, hS⟩
theorem at_unique {L : List XP} (h : Ris (piE L)) (off : Int) {m : Nat} (hm : m ≤ L.length) (h1 : ∀ (t : Nat) (x : XP), t < m → L[t]? = some x → ¬ x.p.off ≥ off) (h2 : ∀ (t : Nat) (x : XP), m ≤ t → L[t]? = some x → x.p.off ≥ off) : m = atP (piE L) off := by
  have hl : (piE L).length = L.length := by simp [piE]
  have ha := atP_le (piE L) off
  have get : ∀ (t : Nat) (x : XP), L[t]? = some x → (piE L)[t]? = some x.p := fun t x hx => by rw [piE, List.getElem?_map, hx]; rfl
  rcases Nat.lt_trichotomy m (atP (piE L) off) with g | g | g
  · obtain ⟨x, hx⟩ : ∃ x, L[m]? = some x := ⟨_, List.getElem?_eq_getElem (by omega)⟩
    have := h2 m x (Nat.le_refl _) hx
    have := (at_lt h off (get m x hx)).1 g
    omega
  · exact g
  · obtain ⟨x, hx⟩ : ∃ x, L[atP (piE L) off]? = some x := ⟨_, List.getElem?_eq_getElem (by omega)⟩
    have := h1 _ x g hx
    have := (at_lt h off (get _ x hx)).2 (Nat.le_refl _)
    omega
set_option maxRecDepth 100000 in
theorem hcplace (g : Nat) (off : Int) (A : Option Addr) (c : Nat) (L : List XP) (w : World) (h : Hv w g A c L) :
    Calls Tryz.prog 186 #[.pointer (some ⟨g, 0, none⟩), .int .i64 off] w fun e w' => e = .returned (.int .i64 (atP (piE L) off : Nat)) ∧ Below w.heap.size w w' := by
  obtain ⟨W, hW⟩ : ∃ W, W = (w.alloc (.cells #[.pointer (some ⟨g, 0, none⟩)] 122)).alloc (.cells #[.int .i64 off] 3) := ⟨_, rfl⟩
  have hb : Below w.heap.size w W := by rw [hW]; exact ((Below.refl w.heap.size w).alloc (Nat.le_refl _) _).alloc (by simp) _
  have hH := h.below hb
  have ku : W.cell? ⟨w.heap.size, 0, none⟩ = some (.pointer (some ⟨g, 0, none⟩)) := by
    have e : Boxed W w.heap.size 122 (.pointer (some ⟨g, 0, none⟩)) := by
      rw [hW]
      exact (Below.heap_alloc _ _ w.heap.size (by simp)).trans (World.alloc_heap_new w _)
    exact e.cell
  have kv : W.cell? ⟨w.heap.size + 1, 0, none⟩ = some (.int .i64 off) := by
    have e : Boxed W (w.heap.size + 1) 3 (.int .i64 off) := by
      rw [hW]
      have := World.alloc_heap_new (w.alloc (.cells #[.pointer (some ⟨g, 0, none⟩)] 122)) (.cells #[.int .i64 off] 3)
      rwa [show (w.alloc (.cells #[.pointer (some ⟨g, 0, none⟩)] 122)).heap.size = w.heap.size + 1 by simp] at this
    exact e.cell
  have kg := hH.parts
  have kl : g < w.heap.size := h.lt
  have eg : ∀ args w, (callFunc 193 args).run Tryz.prog w = .ok (.enter 193 args) w := enters_of Tryz.func193 (by kernel_rfl) rfl
  have hsr := hcsearch 193 #[.pointer (some ⟨w.heap.size, 0, none⟩), .pointer (some ⟨w.heap.size + 1, 0, none⟩)] L.length (fun t => decide ((L[t]?.map fun x => x.p.off).getD 0 ≥ off)) W eg hH.n
    (fun V i hi hV => by
      obtain ⟨x, hx⟩ : ∃ x, L[i]? = some x := ⟨_, List.getElem?_eq_getElem hi⟩
      have := hcclo i w.heap.size (w.heap.size + 1) g W.heap.size off A L.length c L x V ((hV.cell (p := ⟨w.heap.size, 0, none⟩) (cell_block ku)).trans ku) ((hV.cell (p := ⟨w.heap.size + 1, 0, none⟩) (cell_block kv)).trans kv)
        ((hV.cell (p := ⟨g, 1, none⟩) hH.lt).trans kg) (hH.rd.below hV) hV.size hx hi
      rw [hx]
      exact this.mono fun e w' ⟨h1, h2⟩ => ⟨h1, hV.trans (h2.mono hV.size)⟩)
    (fun a b hab hb2 hpa => by
      obtain ⟨x, hx⟩ : ∃ x, L[a]? = some x := ⟨_, List.getElem?_eq_getElem (by omega)⟩
      obtain ⟨y, hy⟩ : ∃ y, L[b]? = some y := ⟨_, List.getElem?_eq_getElem (by omega)⟩
      rw [hx] at hpa
      rw [hy]
      simp only [Option.map_some, Option.getD_some, decide_eq_true_eq] at hpa ⊢
      rcases Nat.lt_or_ge a b with g1 | g1
      · have := (idx_rel hH.ris g1 (show (piE L)[a]? = some x.p by rw [piE, List.getElem?_map, hx]; rfl) (show (piE L)[b]? = some y.p by rw [piE, List.getElem?_map, hy]; rfl)).2.1
        omega
      · obtain rfl : a = b := by omega
        rw [hx] at hy
        rw [← Option.some.inj hy]; exact hpa)
  have HS := Lib.hid hsr
  have HH := Lib.hid hH
  clear hsr hH h
  generalize hN : atP (piE L) off = N
  have HN := Lib.hid hN
  clear hN
  obtain ⟨n, hn⟩ : ∃ n, n = L.length := ⟨_, rfl⟩
  rw [← hn] at kg HS
  have HNn := Lib.hid hn
  clear hn
  go_enter Tryz.func186, Tryz.ntmps186
  go_upto_region 1 with fail
  rw [← hW]
  clear hW
  go_wp2_with (go_at_call 192; refine HS.out.mono ?_; rintro e w' ⟨⟨m, rfl, m1, m2, m3⟩, hb'⟩; have M2 := Lib.hid m2; have M3 := Lib.hid m3; clear m2 m3)
  go_ret
  refine ⟨?_, hb.trans (hb'.mono hb.size)⟩
  rw [← HN.out, ← at_unique HH.out.ris off (m := m) (by rw [← HNn.out]; exact m1) (fun t x ht hx => by have := M2.out t ht; rw [hx] at this; simpa using this) (fun t x ht hx => by
    have := M3.out t ht (by rw [HNn.out]; exact (List.getElem?_eq_some_iff.1 hx).1)
    rw [hx] at this; simpa using this)]
  rfl
def nearX (L : List XP) (off : Int) : List XP := (L.drop (atP (piE L) off - 1)).take (min (atP (piE L) off + 1) L.length - (atP (piE L) off - 1))
theorem nearX_p (L : List XP) (off : Int) : piE (nearX L off) = nearP (piE L) off := by
  simp only [nearX, nearP, piE, List.map_take, List.map_drop, List.length_map]
theorem nearX_sub {L : List XP} {off : Int} : ∀ x ∈ nearX L off, x ∈ L := fun _ hx => List.mem_of_mem_drop (List.mem_of_mem_take hx)
theorem nearX_len (L : List XP) (off : Int) : (nearX L off).length = min (atP (piE L) off + 1) L.length - (atP (piE L) off - 1) := by
  have := atP_le (piE L) off
  have hl : (piE L).length = L.length := by simp [piE]
  rw [nearX, List.length_take, List.length_drop]; omega
set_option maxRecDepth 100000 in
theorem hcnear (g : Nat) (off : Int) (A : Option Addr) (c : Nat) (L : List XP) (w : World) (h : Hv w g A c L) :
    Calls Tryz.prog 173 #[.pointer (some ⟨g, 0, none⟩), .int .i64 off] w fun e w' => (∃ A' c', e = .returned (.slice A' (nearX L off).length c') ∧ RdS clP 3 w' w.heap.size A' (nearX L off)) ∧ Below w.heap.size w w' := by
  have hp := Lib.hid (hcplace g off A c L w h)
  obtain ⟨n, hn⟩ : ∃ n, n = L.length := ⟨_, rfl⟩
  have hn1 : n ≤ 100000 := by rw [hn]; exact h.n
  have hn2 : n ≤ c := by rw [hn]; exact h.cap
  have HNn := Lib.hid hn
  have hlen := nearX_len L off
  have hle := atP_le (piE L) off
  have hl : (piE L).length = L.length := by simp [piE]
  rw [hl] at hle
  have hrd : RdS clP 3 w w.heap.size (cutQ A c (atP (piE L) off - 1)) (nearX L off) := h.rd.cutQ h.cap _ _
  obtain ⟨m, hm⟩ : ∃ m, m = atP (piE L) off := ⟨_, rfl⟩
  have HM := Lib.hid hm
  rw [← hm] at hp hlen hle hrd
  rw [← hn] at hlen hle
  have HH := Lib.hid h
  have HR := Lib.hid hrd
  have HLn := Lib.hid hlen
  have HW1 : Hid (IntKind.i64.wrap ((m : Int) - 1) = (m : Int) - 1) := Lib.hid (IntWalk.i64_in _ (by omega))
  have HW2 : Hid (IntKind.i64.wrap ((m : Int) + 1) = (m : Int) + 1) := Lib.hid (IntWalk.i64_in _ (by omega))
  clear hn h hlen hrd hm hl
  go_enter Tryz.func173, Tryz.ntmps173
  go_upto_region 2 with (go_at_call 186; refine hp.out.mono ?_; rintro e W ⟨rfl, hb⟩)
  have hg : g < W.heap.size := Nat.lt_of_lt_of_le HH.out.lt hb.size
  have kg : W.cell? ⟨g, 1, none⟩ = some (.slice A n c) := by rw [HNn.out]; exact (hb.cell (p := ⟨g, 1, none⟩) HH.out.lt).trans HH.out.parts
  refine wp_region_held_drew (S := fun w' => Below W.heap.size W w') (by kernel_rfl) (Below.refl _ W).drew (fun hS => ?_)
  refine held_pure (i := 0) (oi := ⟨some 9, _, _, _, _, _⟩) rfl (by kernel_rfl) (by kernel_rfl) (by kernel_rfl) (fun _ _ _ h => h) (by rfl) (v := ?_) (fun w hSw => ?_) hS (fun hS => ?_)
  rotate_left
  · go_simp; try with_reducible rfl
  try go_frame
  refine held_pure (i := 1) (oi := ⟨some 10, _, _, _, _, _⟩) rfl (by kernel_rfl) (by kernel_rfl) (by kernel_rfl) (fun _ _ _ h => h) (by rfl) (v := ?_) (fun w hSw => ?_) hS (fun hS => ?_)
  rotate_left
  · go_simp; try with_reducible rfl
  try go_frame
  refine held_pure (i := 2) (oi := ⟨some 11, _, _, _, _, _⟩) rfl (by kernel_rfl) (by kernel_rfl) (by kernel_rfl) (fun _ _ _ h => h) (by rfl) (v := ?_) (fun w hSw => ?_) hS (fun hS => ?_)
  rotate_left
  · go_simp; try with_reducible rfl
  try go_frame
  refine held_pure (i := 3) (oi := ⟨some 12, _, _, _, _, _⟩) rfl (by kernel_rfl) (by kernel_rfl) (by kernel_rfl) (fun _ _ _ h => h) (by rfl) (fun w hSw => run_load_hps rfl rfl ((hSw.cell (p := ⟨g, 1, none⟩) hg).trans kg)) hS (fun hS => ?_)
  try go_frame
  refine held_pure (i := 4) (oi := ⟨some 13, _, _, _, _, _⟩) rfl (by kernel_rfl) (by kernel_rfl) (by kernel_rfl) (fun _ _ _ h => h) (by rfl) (v := ?_) (fun w hSw => ?_) hS (fun hS => ?_)
  rotate_left
  · go_simp; try with_reducible rfl
  try go_frame
  refine held_pure (i := 5) (oi := ⟨some 14, _, _, _, _, _⟩) rfl (by kernel_rfl) (by kernel_rfl) (by kernel_rfl) (fun _ _ _ h => h) (by rfl) (v := .int .i64 ((m : Int) - 1)) (fun w hSw => by go_simp; try exact HW1.out) hS (fun hS => ?_)
  try go_frame
  refine held_pure (i := 6) (oi := ⟨some 15, _, _, _, _, _⟩) rfl (by kernel_rfl) (by kernel_rfl) (by kernel_rfl) (fun _ _ _ h => h) (by rfl) (v := .int .i64 (max ((m : Int) - 1) 0)) (fun w hSw => by go_simp) hS (fun hS => ?_)
  try go_frame
  refine held_pure (i := 7) (oi := ⟨some 16, _, _, _, _, _⟩) rfl (by kernel_rfl) (by kernel_rfl) (by kernel_rfl) (fun _ _ _ h => h) (by rfl) (v := ?_) (fun w hSw => ?_) hS (fun hS => ?_)
  rotate_left
  · go_simp; try with_reducible rfl
  try go_frame
  refine held_pure (i := 8) (oi := ⟨some 17, _, _, _, _, _⟩) rfl (by kernel_rfl) (by kernel_rfl) (by kernel_rfl) (fun _ _ _ h => h) (by rfl) (v := .int .i64 ((m : Int) + 1)) (fun w hSw => by go_simp; try exact HW2.out) hS (fun hS => ?_)
  try go_frame
  refine held_pure (i := 9) (oi := ⟨some 18, _, _, _, _, _⟩) rfl (by kernel_rfl) (by kernel_rfl) (by kernel_rfl) (fun _ _ _ h => h) (by rfl) (v := ?_) (fun w hSw => ?_) hS (fun hS => ?_)
  rotate_left
  · go_simp; try with_reducible rfl
  try go_frame
  refine held_pure (i := 10) (oi := ⟨some 19, _, _, _, _, _⟩) rfl (by kernel_rfl) (by kernel_rfl) (by kernel_rfl) (fun _ _ _ h => h) (by rfl) (v := ?_) (fun w hSw => ?_) hS (fun hS => ?_)
  rotate_left
  · go_simp; try with_reducible rfl
  try go_frame
  refine held_pure (i := 11) (oi := ⟨some 20, _, _, _, _, _⟩) rfl (by kernel_rfl) (by kernel_rfl) (by kernel_rfl) (fun _ _ _ h => h) (by rfl) (v := ?_) (fun w hSw => ?_) hS (fun hS => ?_)
  rotate_left
  · go_simp; try with_reducible rfl
  try go_frame
  refine held_pure (i := 12) (oi := ⟨some 21, _, _, _, _, _⟩) rfl (by kernel_rfl) (by kernel_rfl) (by kernel_rfl) (fun _ _ _ h => h) (by rfl) (fun w hSw => run_load_hps rfl rfl ((hSw.cell (p := ⟨g, 1, none⟩) hg).trans kg)) hS (fun hS => ?_)
  try go_frame
  refine held_pure (i := 13) (oi := ⟨some 22, _, _, _, _, _⟩) rfl (by kernel_rfl) (by kernel_rfl) (by kernel_rfl) (fun _ _ _ h => h) (by rfl) (v := ?_) (fun w hSw => ?_) hS (fun hS => ?_)
  rotate_left
  · go_simp; try with_reducible rfl
  try go_frame
  refine held_pure (i := 14) (oi := ⟨some 23, _, _, _, _, _⟩) rfl (by kernel_rfl) (by kernel_rfl) (by kernel_rfl) (fun _ _ _ h => h) (by rfl) (v := .int .i64 (min ((m : Int) + 1) (n : Int))) (fun w hSw => by go_simp; try exact min_if _ _) hS (fun hS => ?_)
  try go_frame
  refine held_pure (i := 15) (oi := ⟨some 24, _, _, _, _, _⟩) rfl (by kernel_rfl) (by kernel_rfl) (by kernel_rfl) (fun _ _ _ h => h) (by rfl) (fun w hSw => run_pcut_lh rfl rfl rfl rfl (by omega) (by omega) (by omega) rfl) hS (fun hS => ?_)
  try go_frame
  refine held_pure (i := 16) (oi := ⟨some 4, _, _, _, _, _⟩) rfl (by kernel_rfl) (by kernel_rfl) (by kernel_rfl) (fun _ _ _ h => h) (by rfl) (v := ?_) (fun w hSw => ?_) hS (fun hS => ?_)
  rotate_left
  · go_simp; try with_reducible rfl
  try go_frame
  refine wpAnyH_done (by kernel_rfl) ?_ _
  go_wp2_with fail
  go_ret
  have hbS := hb.trans (hS.mono hb.size)
  have E1 : (max ((m : Int) - 1) 0).toNat = m - 1 := by omega
  have E2 : (min ((m : Int) + 1) (n : Int)).toNat - (m - 1) = (nearX L off).length := by rw [HLn.out]; omega
  refine ⟨⟨cutQ A c (m - 1), c - (m - 1), ?_, HR.out.below hbS⟩, hbS⟩
  show Ending.returned (Value.slice (cutQ A c (max ((m : Int) - 1) 0).toNat) ((min ((m : Int) + 1) (n : Int)).toNat - (max ((m : Int) - 1) 0).toNat) (c - (max ((m : Int) - 1) 0).toNat)) = _
  rw [E1, E2]
end Go.Proofs.YtpoigngpdcmipaaGreat
namespace Go.Proofs.YtpoigngpdcmipaaGreat
open Go.RowKit Go.Shelf
theorem clP_ones (x : XP) : ∀ u ∈ clP x, u.oneCell' = true := by
  intro u hu
  simp only [clP, List.mem_cons, List.not_mem_nil, or_false] at hu
  rcases hu with rfl | rfl | rfl <;> rfl
theorem flat3 (l : List XP) : (l.flatMap clP).length = l.length * 3 := flat_len l (fun _ _ => rfl)
end Go.Proofs.YtpoigngpdcmipaaGreat
namespace Go.Proofs.YtpoigngpdcmipaaGreat
open Go.RowKit Go.Shelf
structure Kept (S : Nat → Prop) (w w' : World) : Prop where
  os : w'.os = w.os
  tape : w'.tape = w.tape
  output : w'.output = w.output
  size : w.heap.size ≤ w'.heap.size
  block : ∀ k, k < w.heap.size → ¬ S k → w'.heap[k]? = w.heap[k]?
section
variable {S T : Nat → Prop} {a b c : World}
theorem Kept.of_below (h : Below a.heap.size a b) : Kept S a b := ⟨h.os, h.tape, h.output, h.size, fun k hk _ => h.block k hk⟩
theorem Kept.trans (h : Kept S a b) (k : Kept T b c) (hT : ∀ i, i < a.heap.size → T i → S i) : Kept S a c :=
  ⟨k.os.trans h.os, k.tape.trans h.tape, k.output.trans h.output, Nat.le_trans h.size k.size,
   fun i hi hs => (k.block i (Nat.lt_of_lt_of_le hi h.size) (fun t => hs (hT i hi t))).trans (h.block i hi hs)⟩
theorem Kept.then_below (h : Kept S a b) (k : Below b.heap.size b c) : Kept S a c := h.trans (T := fun _ => False) (Kept.of_below k) (fun _ _ f => f.elim)
theorem Kept.mono (h : Kept S a b) (hS : ∀ i, i < a.heap.size → S i → T i) : Kept T a b := ⟨h.os, h.tape, h.output, h.size, fun k hk hn => h.block k hk (fun s => hn (hS k hk s))⟩
theorem Kept.of_grown {r : Option Nat} (h : a.grownBy b r) : Kept (fun k => some k = r) a b := ⟨h.os, h.tape, h.output, h.size, fun k hk hn => h.block k hk hn⟩
theorem Kept.setRow (w : World) (g : Nat) (cs : Array Value) : Kept (fun k => k = g) w (w.setRow g cs) := ⟨rfl, rfl, rfl, by simp [World.setRow], fun k _ hn => setRow_other w g k cs hn⟩
theorem Kept.drew (w : World) : Kept S w w.drew := Kept.of_below (Below.refl _ w).drew
end
theorem splice_get {α : Type} {L cs : List α} {k : Nat} (h : k + cs.length ≤ L.length) (j : Nat) : (splice L k cs)[j]? = if k ≤ j ∧ j < k + cs.length then cs[j - k]? else L[j]? := by
  unfold splice
  by_cases h1 : j < k
  · rw [if_neg (by omega), List.getElem?_append_left (by simp; omega), List.getElem?_take, if_pos h1]
  · rw [List.getElem?_append_right (by simp; omega), List.length_take, Nat.min_eq_left (by omega)]
    by_cases h2 : j < k + cs.length
    · rw [if_pos ⟨by omega, h2⟩, List.getElem?_append_left (by omega)]
    · rw [if_neg (by omega), List.getElem?_append_right (by omega), List.getElem?_drop]
      congr 1; omega
theorem ins_take {α : Type} {R xs C : List α} {i n : Nat} (hi : i ≤ n) (hx : xs.length = n * 3) (hC : C.length = 3) (hp : ∀ j, j < i * 3 → R[j]? = xs[j]?) (R' : List α)
    (hR' : ∀ j, j < n * 3 + 3 → R'[j]? = if j < i * 3 then R[j]? else if j < i * 3 + 3 then C[j - i * 3]? else xs[j - 3]?) : R'.take (n * 3 + 3) = xs.take (i * 3) ++ (C ++ xs.drop (i * 3)) := by
  refine List.ext_getElem? fun j => ?_
  rw [List.getElem?_take]
  by_cases hj : j < n * 3 + 3
  · rw [if_pos hj, hR' j hj]
    by_cases h1 : j < i * 3
    · rw [if_pos h1, List.getElem?_append_left (by simp; omega), List.getElem?_take, if_pos h1, hp j h1]
    · rw [if_neg h1, List.getElem?_append_right (by simp; omega), List.length_take, Nat.min_eq_left (by omega)]
      by_cases h2 : j < i * 3 + 3
      · rw [if_pos h2, List.getElem?_append_left (by omega)]
      · rw [if_neg h2, List.getElem?_append_right (by omega), List.getElem?_drop]
        congr 1; omega
  · rw [if_neg hj, List.getElem?_eq_none]
    simp; omega
theorem info_hp : (Tryz.prog.info? 225).map (fun i => (i.zero, i.size, i.bytes)) = some (some (.agg #[.int .i64 0, .bool false, .slice none 0 0]), 3, 40) := by kernel_rfl
theorem run_copy3 (w : World) (dT sT ty elem : TypeId) (g o dLen dCap : Nat) (a : Addr) (sLen sCap : Nat) (cur : Array Value) (t : TypeId) (cs : List Value) (k : Nat)
    (hu : Tryz.prog.underlying dT = some (.slice elem)) (hs : (Tryz.prog.info? elem).map (·.size) = some 3) (hk : k = Nat.min sLen dLen)
    (hg : w.heap[g]? = some (.cells cur t (0, 0))) (hn : cs.length = k * 3)
    (hsrc : ∀ j v, cs[j]? = some v → w.cell? (a.add j) = some v) (hfit : o + cs.length ≤ cur.size) (h1 : ∀ v ∈ cs, v.oneCell' = true) :
    (Builtin.copy_ #[dT, sT] ty #[.slice (some ⟨g, o, none⟩) dLen dCap, .slice (some a) sLen sCap]).run Tryz.prog w =
      .ok (goInt k) (w.setRow g (splice cur.toList o cs).toArray) := by
  have hl := run_loadCells_list (P := Tryz.prog) w a cs hsrc
  have hst := run_storeCells_at Tryz.prog g o t cs 0 cur w hg (by simpa using hfit) h1
  cases hq : Tryz.prog.info? elem with
  | none => simp [hq] at hs
  | some i =>
    have hi : i.size = 3 := by simpa [hq] using hs
    rw [hn] at hl
    subst hk
    simp [Builtin.copy_, run_underlying hu, Builtin.lenOf, Builtin.firstCells, sizeOf, typeInfo, hq, hi, hl, hst, splice]
theorem step_copy_eq {P : Program} {ops : Array Oper} {o : Oper} {a : Act} {w : World} {K : Act → World → Prop} {Q : Exit → Act → World → Prop} {E : Prop}
    (hg : o.guard = none) (d x : Operand) (dT sT : TypeId) (hop : o.op = Op.call { callee := Callee.builtin Builtin.copy, args := #[d, x], argTypes := #[dT, sT] })
    (v u : Value) (hd : a.eval d = v) (hx : a.eval x = u) {v' : Value} {w1 : World} (hr : (Builtin.copy_ #[dT, sT] o.type #[v, u]).run P w = .ok v' w1) (hK : ∀ w', w' = w1 → K (a.put o.dst v') w') :
    if Region.wanted o (yielded ops a.tmps) = true then Oper.wp P o a w K Q else E := by
  have hw : Region.wanted o (yielded ops a.tmps) = true := by simp [Region.wanted, hg]
  rw [if_pos hw]
  unfold Oper.wp
  simp [execOp, hop, resolve, invoke, builtin, hd, hx, hr, Result.andThen]
  exact hK _ rfl
theorem clP_oneM {L : List XP} : ∀ u ∈ L.flatMap clP, u.oneCell' = true := fun u hu => by
  obtain ⟨y, _, hy⟩ := List.mem_flatMap.1 hu
  exact clP_ones y u hy
def putX (L : List XP) (i : Nat) (x : XP) : List XP := L.take i ++ x :: L.drop i
theorem putX_cells (L : List XP) (i : Nat) (x : XP) : (putX L i x).flatMap clP = (L.flatMap clP).take (i * 3) ++ (clP x ++ (L.flatMap clP).drop (i * 3)) := by
  have h : ∀ (L : List XP) (i : Nat), (L.take i).flatMap clP = (L.flatMap clP).take (i * 3) ∧ (L.drop i).flatMap clP = (L.flatMap clP).drop (i * 3) := fun L => by
    induction L with
    | nil => intro i; simp
    | cons a L ih =>
      intro i
      cases i with
      | zero => simp
      | succ i =>
        obtain ⟨h1, h2⟩ := ih i
        rw [List.take_succ_cons, List.drop_succ_cons, List.flatMap_cons, List.flatMap_cons, h1, h2]
        have e : (i + 1) * 3 = (clP a).length + i * 3 := by show _ = 3 + i * 3; omega
        rw [e, List.take_length_add_append, List.drop_length_add_append]
        exact ⟨rfl, rfl⟩
  rw [putX, List.flatMap_append, List.flatMap_cons, (h L i).1, (h L i).2]
theorem overlaps_no (w : World) (vb g la ca lb cb o kA kB : Nat) (tA tB : TypeId) (hne : vb ≠ g) (hsa : w.shape? vb = some (tA, kA)) (hsb : w.shape? g = some (tB, kB)) (hkB : kB ≠ 0) (hfa : w.frozen? ⟨vb, 0, none⟩ = false) (hfe : w.frozen? ⟨vb, kA, none⟩ = false) :
    (callFunc 194 #[.slice (some ⟨vb, 0, none⟩) la ca, .slice (some ⟨g, o, none⟩) lb cb]).run Tryz.prog w = .ok (.value (.bool false)) w := by
  have hov : (callFunc 194 #[.slice (some ⟨vb, 0, none⟩) la ca, .slice (some ⟨g, o, none⟩) lb cb]).run Tryz.prog w = _ :=
    run_callFunc_extern Tryz.func194 (by kernel_rfl) (by kernel_rfl) (by kernel_rfl) (e := Extern.SlicesOverlaps.overlaps #[177, 177] #[4]) (by kernel_rfl) _ w
  rw [hov, Lib.run_overlaps_apart w 177 4 225 Tryz.underlying177 3 (fun w => by have := sizeOf_hpart w; rwa [show Tryz.prog.elem 177 = 225 by kernel_rfl] at this) ⟨vb, 0, none⟩ ⟨g, o, none⟩ la ca lb cb hne tA tB kA kB hsa hsb hkB hfa hfe]
  rfl
set_option maxRecDepth 100000 in
set_option maxHeartbeats 1000000 in
theorem hcins_shift (g c i vb : Nat) (cur : Array Value) (L : List XP) (x : XP) (w : World) (hg : w.heap[g]? = some (.cells cur 225 (0, 0))) (hi : i < L.length) (hn : L.length ≤ 100000) (hc : L.length + 1 ≤ c) (hs : cur.size = c * 3)
    (ht : cur.toList.take (L.length * 3) = L.flatMap clP) (hv : w.heap[vb]? = some (.cells (clP x).toArray 225 (0, 0))) (hne : vb ≠ g) :
    Calls Tryz.prog 188 #[.slice (some ⟨g, 0, none⟩) L.length c, .int .i64 i, .slice (some ⟨vb, 0, none⟩) 1 1] w fun e w' =>
      e = .returned (.slice (some ⟨g, 0, none⟩) (L.length + 1) c) ∧ (∃ cur', w'.heap[g]? = some (.cells cur' 225 (0, 0)) ∧ cur'.size = c * 3 ∧ cur'.toList.take ((L.length + 1) * 3) = (putX L i x).flatMap clP) ∧ Kept (fun k => k = g) w w' := by
  obtain ⟨n, hnn⟩ : ∃ n, n = L.length := ⟨_, rfl⟩
  obtain ⟨xs, hxs⟩ : ∃ xs, xs = L.flatMap clP := ⟨_, rfl⟩
  have hxl : xs.length = n * 3 := by rw [hxs, hnn]; exact flat3 L
  have hx1 : ∀ u ∈ xs, u.oneCell' = true := by rw [hxs]; exact clP_oneM
  have HPX := Lib.hid (putX_cells L i x)
  rw [← hxs] at HPX
  have hcl : (clP x).length = 3 := rfl
  have hc1x := clP_ones x
  rw [← hnn] at hi hn hc ht ⊢
  rw [← hxs] at ht
  have hcpA : ∀ ty dc sc, (Builtin.copy_ #[177, 177] ty #[.slice (some ⟨g, (i + 1) * 3, none⟩) (n - i) dc, .slice (some ⟨g, i * 3, none⟩) (n + 1 - i) sc]).run Tryz.prog w.drew = .ok (goInt (n - i : Nat)) (w.drew.setRow g (splice cur.toList ((i + 1) * 3) (xs.drop (i * 3))).toArray) := fun ty dc sc =>
    run_copy3 w.drew _ _ ty 225 g ((i + 1) * 3) _ dc ⟨g, i * 3, none⟩ _ sc cur 225 (xs.drop (i * 3)) (n - i) Tryz.underlying177 (by kernel_rfl) (by simp only [Nat.min_def]; split <;> omega) hg (by simp; omega)
      (fun j v hj => by
        rw [List.getElem?_drop, ← ht, List.getElem?_take] at hj
        split at hj
        · rw [add_off]; exact cells_at hg (by simpa using hj)
        · cases hj)
      (by simp; omega) (fun v hv => hx1 v (List.mem_of_mem_drop hv))
  have hi3 : i * 3 + 3 ≤ n * 3 := by omega
  have HT := Lib.hid ht
  clear hnn hxs ht
  have hz2 : ¬ ((i : Int) = (n : Int)) := by omega
  have hz3 : ¬ ((c : Int) < (n : Int) + 1) := by omega
  have hb2 : ¬ (c = i + 1) := by omega
  have hb4 : ¬ (c = i) := by omega
  have htn : ((i : Int) + 1).toNat = i + 1 := by omega
  have htm : ((n : Int) + 1).toNat = n + 1 := by omega
  have hov := fun la ca lb cb o => overlaps_no w vb g la ca lb cb o 3 cur.size 225 225 hne (by simp [World.shape?, hv, clP]) (by simp [World.shape?, hg]) (by omega) (heap_frozen hv _) (heap_frozen hv _)
  go_enter Tryz.func188, Tryz.ntmps188
  go_wp2_with (simp only [hov])
  have hw1 : IntKind.i64.wrap ((i : Int) + 1) = (i : Int) + 1 := IntWalk.i64_in _ (by omega)
  have hb1 : (0 : Int) ≤ (i : Int) + 1 := by omega
  have hb3 : (i : Int) ≤ (n : Int) := by omega
  have hb5 : (i : Int) ≤ (n : Int) + 1 := by omega
  have hb6 : (i : Int) + 1 ≤ (n : Int) + 1 := by omega
  obtain ⟨cur1, hc1⟩ : ∃ cur1, cur1 = (splice cur.toList ((i + 1) * 3) (xs.drop (i * 3))).toArray := ⟨_, rfl⟩
  have HC1 := Lib.hid hc1.symm
  have hl1 : cur1.toList.length = c * 3 := by rw [hc1, List.toList_toArray, length_splice _ _ _ (by simp; omega)]; simpa using hs
  have hl2 : cur1.size = c * 3 := by simpa using hl1
  clear hc1
  have hcpB : ∀ (W : World), W.heap[g]? = some (.cells cur1 225 (0, 0)) → W.heap[vb]? = some (.cells (clP x).toArray 225 (0, 0)) → ∀ ty dc sc, (Builtin.copy_ #[177, 177] ty #[.slice (some ⟨g, i * 3, none⟩) (n + 1 - i) dc, .slice (some ⟨vb, 0, none⟩) 1 sc]).run Tryz.prog W = .ok (goInt (1 : Nat)) (W.setRow g (splice cur1.toList (i * 3) (clP x)).toArray) := fun W h1 h2 ty dc sc =>
    run_copy3 W _ _ ty 225 g (i * 3) (n + 1 - i) dc ⟨vb, 0, none⟩ 1 sc cur1 225 (clP x) 1 Tryz.underlying177 (by kernel_rfl) (by simp only [Nat.min_def]; split <;> omega) h1 (by rw [hcl]) (fun j v hj => by rw [add_off, Nat.zero_add]; exact cells_at h2 (by simpa using hj)) (by rw [hcl]; omega) hc1x
  go_region_law (refine step_copy_eq rfl _ _ 177 177 rfl (.slice (some ⟨g, (i + 1) * 3, none⟩) (n - i) (c - (i + 1))) (.slice (some ⟨g, i * 3, none⟩) (n + 1 - i) (c - i)) (by simp [Act.eval, Act.put]) (by simp [Act.eval, Act.put]) (hcpA _ _ _) ?_; intro w1 hd0; have hd1 := Lib.hid hd0; clear hd0)
  all_goals (
    have hg1 : w1.heap[g]? = some (.cells cur1 225 (0, 0)) := by rw [hd1.out, HC1.out]; exact setRow_heap _ _ _ _ _ _ hg
    have hv1 : w1.heap[vb]? = some (.cells (clP x).toArray 225 (0, 0)) := by rw [hd1.out]; exact (setRow_other _ g vb _ hne).trans hv
    have K1 : Kept (fun k => k = g) w w1 := by rw [hd1.out]; exact (Kept.drew w).trans (Kept.setRow _ g _) (fun _ _ h => h)
    clear hd1 hcpA
    go_wp2
    go_ret
    refine ⟨rfl, ⟨(splice cur1.toList (i * 3) (clP x)).toArray, by exact setRow_heap _ _ _ _ _ _ hg1, by simp [splice, hcl]; omega, ?_⟩, K1.trans (by exact Kept.setRow _ g _) (fun _ _ h => h)⟩
    rw [HPX.out, show (n + 1) * 3 = n * 3 + 3 by omega]
    refine ins_take (R := cur.toList) (by omega) hxl hcl (fun j hj => ?_) _ (fun j hj => ?_)
    · rw [← HT.out, List.getElem?_take, if_pos (by omega)]
    · rw [List.toList_toArray, splice_get (by rw [hcl, hl1]; omega)]
      by_cases c1 : j < i * 3
      · rw [if_neg (by omega), if_pos c1, ← HC1.out, List.toList_toArray, splice_get (by simp; omega), if_neg (by omega)]
      · rw [if_neg c1]
        by_cases c2 : j < i * 3 + 3
        · rw [if_pos ⟨by omega, by omega⟩, if_pos c2]
        · rw [if_neg (by omega), if_neg c2, ← HC1.out, List.toList_toArray, splice_get (by simp; omega), if_pos ⟨by omega, by simp; omega⟩, List.getElem?_drop]
          congr 1; omega)
end Go.Proofs.YtpoigngpdcmipaaGreat
namespace Go.Proofs.YtpoigngpdcmipaaGreat
open Go.RowKit Go.Shelf
set_option maxRecDepth 100000 in
set_option maxHeartbeats 1000000 in
theorem hcins_grow (g c i vb : Nat) (cur : Array Value) (L : List XP) (x : XP) (w : World) (hg : w.heap[g]? = some (.cells cur 225 (0, 0))) (hi : i < L.length) (hn : L.length ≤ 100000) (hc0 : L.length ≤ c) (hc : c < L.length + 1)
    (ht : cur.toList.take (L.length * 3) = L.flatMap clP) (hv : w.heap[vb]? = some (.cells (clP x).toArray 225 (0, 0))) :
    Calls Tryz.prog 188 #[.slice (some ⟨g, 0, none⟩) L.length c, .int .i64 i, .slice (some ⟨vb, 0, none⟩) 1 1] w fun e w' =>
      ∃ c', e = .returned (.slice (some ⟨w.heap.size, 0, none⟩) (L.length + 1) c') ∧ (∃ cur', w'.heap[w.heap.size]? = some (.cells cur' 225 (0, 0)) ∧ cur'.size = c' * 3 ∧ cur'.toList.take ((L.length + 1) * 3) = (putX L i x).flatMap clP) ∧
        (L.length + 1 ≤ c' ∧ c' ≤ maxLen) ∧ Below w.heap.size w w' := by
  obtain ⟨n, hnn⟩ : ∃ n, n = L.length := ⟨_, rfl⟩
  obtain ⟨xs, hxs⟩ : ∃ xs, xs = L.flatMap clP := ⟨_, rfl⟩
  have hxl : xs.length = n * 3 := by rw [hxs, hnn]; exact flat3 L
  have hx1 : ∀ u ∈ xs, u.oneCell' = true := by rw [hxs]; exact clP_oneM
  have HPX := Lib.hid (putX_cells L i x)
  rw [← hxs] at HPX
  have hcl : (clP x).length = 3 := rfl
  have hc1x := clP_ones x
  rw [← hnn] at hi hn hc hc0 ht ⊢
  rw [← hxs] at ht
  have hgz : g < w.heap.size := heap_lt hg
  have hvz : vb < w.heap.size := heap_lt hv
  obtain ⟨i0, hi0, hz0, hzs, hzb⟩ := info_parts info_hp
  have hkk : (n : Int) + 1 - (i : Int) = ((n + 1 - i : Nat) : Int) := by omega
  have hik : i + (n + 1 - i) = n + 1 := by omega
  have hold : (Builtin.firstCells i0.size i (.slice (some ⟨g, 0, none⟩) i c)).run Tryz.prog w.drew = .ok (xs.take (i * 3)).toArray w.drew := by
    rw [hzs]
    exact run_firstCells_some w.drew 3 i ⟨g, 0, none⟩ i c (xs.take (i * 3)) (by rw [List.length_take]; omega) (fun j v hj => by
      rw [add_off, Nat.zero_add]
      rw [List.getElem?_take] at hj
      split at hj
      · refine cells_at (w := w.drew) hg ?_
        rw [← ht, List.getElem?_take] at hj
        split at hj
        · simpa using hj
        · cases hj
      · cases hj)
  have hrz : ∀ ty, (Builtin.append_ #[177, 3] ty #[.slice (some ⟨g, 0, none⟩) i c, .int .i64 ((n : Int) + 1 - (i : Int))]).run Tryz.prog w =
      .ok (.slice (some ⟨w.heap.size, 0, none⟩) (n + 1) (grownCap w (n + 1) c 225)) (w.drew.alloc (.cells ((xs.take (i * 3)).toArray ++ Builtin.zeroCells (Value.agg #[.int .i64 0, .bool false, .slice none 0 0]).cells (n + 1 - i) ++ Builtin.zeroCells (Value.agg #[.int .i64 0, .bool false, .slice none 0 0]).cells (grownCap w (n + 1) c 225 - (n + 1))) 225)) := fun ty => by
    have h := Lib.run_append_grow_zeros w 177 3 ty 225 i0 _ .i64 .i64 Tryz.underlying177 Tryz.underlying3 hi0 hz0 (some ⟨g, 0, none⟩) i c (xs.take (i * 3)) hold (n + 1 - i) (by omega) (by omega) (by omega) (by omega) (by rw [hzb]; omega) (by rw [hzb, hik]; exact growslice_fits (by omega) (by omega))
    rw [hik] at h
    rw [hkk]
    exact h
  obtain ⟨G, hG⟩ : ∃ G, G = grownCap w (n + 1) c 225 := ⟨_, rfl⟩
  obtain ⟨ROW, hROW⟩ : ∃ ROW : Array Value, ROW = (xs.take (i * 3)).toArray ++ Builtin.zeroCells (Value.agg #[.int .i64 0, .bool false, .slice none 0 0]).cells (n + 1 - i) ++ Builtin.zeroCells (Value.agg #[.int .i64 0, .bool false, .slice none 0 0]).cells (G - (n + 1)) := ⟨_, rfl⟩
  rw [← hG] at hrz
  rw [← hROW] at hrz
  have hGn : n + 1 ≤ G := by rw [hG]; exact grownCap_ge w _ _ _
  have hGm : G ≤ maxLen := by
    have := grownCap_le_maxLen w (n + 1) c 225 (by unfold maxLen; omega)
    rwa [← hG] at this
  have hRl : ROW.size = G * 3 := by
    rw [hROW]
    simp [Builtin.zeroCells, Value.cells]
    omega
  have hRp : ∀ j, j < i * 3 → ROW.toList[j]? = xs[j]? := fun j hj => by
    rw [hROW]
    simp only [Array.toList_append]
    rw [List.append_assoc, List.getElem?_append_left (by simp; omega), List.getElem?_take, if_pos hj]
  have HRP := Lib.hid hRp
  have HT := Lib.hid ht
  obtain ⟨W1, hW1⟩ : ∃ W1, W1 = w.drew.alloc (.cells ROW 225) := ⟨_, rfl⟩
  rw [← hW1] at hrz
  have h1N : W1.heap[w.heap.size]? = some (.cells ROW 225 (0, 0)) := by rw [hW1]; exact World.alloc_heap_new w.drew _
  have B1 : Below w.heap.size w W1 := by rw [hW1]; exact ((Below.refl _ w).drew).alloc (Nat.le_refl _) _
  have h1v := (B1.block vb hvz).trans hv
  obtain ⟨R2, hR2⟩ : ∃ R2, R2 = (splice ROW.toList (i * 3) (clP x)).toArray := ⟨_, rfl⟩
  obtain ⟨W2, hW2⟩ : ∃ W2, W2 = W1.setRow w.heap.size R2 := ⟨_, rfl⟩
  have hcpA : ∀ ty dc sc, (Builtin.copy_ #[177, 177] ty #[.slice (some ⟨w.heap.size, i * 3, none⟩) (n + 1 - i) dc, .slice (some ⟨vb, 0, none⟩) 1 sc]).run Tryz.prog W1 = .ok (goInt (1 : Nat)) W2 := fun ty dc sc => by
    rw [hW2, hR2]
    exact run_copy3 W1 _ _ ty 225 w.heap.size (i * 3) (n + 1 - i) dc ⟨vb, 0, none⟩ 1 sc ROW 225 (clP x) 1 Tryz.underlying177 (by kernel_rfl) (by simp only [Nat.min_def]; split <;> omega) h1N (by rw [hcl]) (fun j v hj => by rw [add_off, Nat.zero_add]; exact cells_at h1v (by simpa using hj)) (by rw [hcl]; omega) hc1x
  have h2N : W2.heap[w.heap.size]? = some (.cells R2 225 (0, 0)) := by rw [hW2]; exact setRow_heap _ _ _ _ _ _ h1N
  have B2 : Below w.heap.size w W2 := by rw [hW2]; exact below_setRow B1 (Nat.le_refl _) _
  have h2g := (B2.block g hgz).trans hg
  have hl2 : R2.toList.length = G * 3 := by rw [hR2, List.toList_toArray, length_splice _ _ _ (by rw [hcl]; simp; omega)]; simpa using hRl
  have hl3 : R2.size = G * 3 := by simpa using hl2
  obtain ⟨R3, hR3⟩ : ∃ R3, R3 = (splice R2.toList ((i + 1) * 3) (xs.drop (i * 3))).toArray := ⟨_, rfl⟩
  have hcpB : ∀ ty dc sc, (Builtin.copy_ #[177, 177] ty #[.slice (some ⟨w.heap.size, (i + 1) * 3, none⟩) (n - i) dc, .slice (some ⟨g, i * 3, none⟩) (n - i) sc]).run Tryz.prog W2.drew = .ok (goInt (n - i : Nat)) (W2.drew.setRow w.heap.size R3) := fun ty dc sc => by
    rw [hR3]
    exact run_copy3 W2.drew _ _ ty 225 w.heap.size ((i + 1) * 3) (n - i) dc ⟨g, i * 3, none⟩ (n - i) sc R2 225 (xs.drop (i * 3)) (n - i) Tryz.underlying177 (by kernel_rfl) (by simp only [Nat.min_def]; split <;> omega) h2N (by simp; omega)
      (fun j v hj => by
        rw [List.getElem?_drop, ← HT.out, List.getElem?_take] at hj
        split at hj
        · rw [add_off]; exact cells_at (w := W2.drew) h2g (by simpa using hj)
        · cases hj)
      (by simp; omega) (fun v hv => hx1 v (List.mem_of_mem_drop hv))
  have HR2 := Lib.hid hR2
  have HR3 := Lib.hid hR3
  have H2N := Lib.hid h2N
  have HBB := Lib.hid hcpB
  have hi3 : i * 3 + 3 ≤ n * 3 := by omega
  clear hkk hik hold hROW hG hnn hxs ht hW1 hW2 hR2 hR3 hRp h1N h1v h2N h2g hcpB hi0 hz0 hzs hzb
  have hz2 : ¬ ((i : Int) = (n : Int)) := by omega
  have hz3 : (c : Int) < (n : Int) + 1 := by omega
  have hci : ¬ (c = i) := by omega
  have hGi : ¬ (G = i) := by omega
  have hGim : ¬ (G = i + 1) := by omega
  have htn : ((i : Int) + 1).toNat = i + 1 := by omega
  go_enter Tryz.func188, Tryz.ntmps188
  go_wp2_with (at_builtin; refine Lib.wpList_append_run _ rfl _ _ _ _ rfl _ _ rfl rfl _ _ (hrz _) ?_)
  have hw1 : IntKind.i64.wrap ((i : Int) + 1) = (i : Int) + 1 := IntWalk.i64_in _ (by omega)
  have hb1 : (0 : Int) ≤ (i : Int) + 1 := by omega
  have hb3 : (i : Int) ≤ (n : Int) := by omega
  have hb6 : (i : Int) + 1 ≤ (n : Int) + 1 := by omega
  go_region_law (refine step_copy_eq rfl _ _ 177 177 rfl (.slice (some ⟨w.heap.size, (i + 1) * 3, none⟩) (n - i) (G - (i + 1))) (.slice (some ⟨g, i * 3, none⟩) (n - i) (c - i)) (by simp [Act.eval, Act.put]) (by simp [Act.eval, Act.put]) (HBB.out _ _ _) ?_; intro w1 hd0; have hd1 := Lib.hid hd0; clear hd0)
  all_goals (
    go_wp2
    go_ret
    have e3 : R3.size = G * 3 := by rw [HR3.out]; simp only [List.size_toArray]; rw [length_splice _ _ _ (by simp; omega)]; simpa using hl2
    refine ⟨G, rfl, ⟨R3, by rw [hd1.out]; exact setRow_heap _ _ _ _ _ _ H2N.out, e3, ?_⟩, ⟨hGn, hGm⟩, by rw [hd1.out]; exact below_setRow B2.drew (Nat.le_refl _) _⟩
    rw [HPX.out, show (n + 1) * 3 = n * 3 + 3 by omega]
    refine ins_take (R := ROW.toList) (by omega) hxl hcl HRP.out _ (fun j hj => ?_)
    rw [HR3.out, List.toList_toArray, splice_get (by simp; omega)]
    by_cases c1 : j < i * 3
    · rw [if_neg (by omega), if_pos c1, HR2.out, List.toList_toArray, splice_get (by rw [hcl]; simp; omega), if_neg (by omega)]
    · rw [if_neg c1]
      by_cases c2 : j < i * 3 + 3
      · rw [if_neg (by omega), if_pos c2, HR2.out, List.toList_toArray, splice_get (by rw [hcl]; simp; omega), if_pos ⟨by omega, by omega⟩]
      · rw [if_pos ⟨by omega, by simp; omega⟩, if_neg c2, List.getElem?_drop]
        congr 1; omega)
theorem wpList_append_one {w : World} {ops : Array Oper} {rest : List Oper} {o : Oper} {a : Act} {Q : Exit → Act → World → Prop}
    (hg : o.guard = none) (s x : Operand) (hop : o.op = Op.call { callee := Callee.builtin Builtin.append, args := #[s, x], argTypes := #[177, 177] })
    (v : Value) (k : Nat) (xs : List Value) (hs : a.eval s = v) (hown : w.ownsRow 0 225 3 v k xs) (hv : v = .slice none 0 0 ∨ 0 < k) (ad : Addr) (c : Nat) (news : List Value) (hx : a.eval x = .slice (some ad) 1 c) (hn : news.length = 3)
    (hc : ∀ j u, news[j]? = some u → w.cell? (ad.add j) = some u) (h1c : ∀ u ∈ news, u.oneCell' = true) (b1 : k ≤ 1000000)
    (hK : ∀ v' w', w'.ownsRow 0 225 3 v' (k + 1) (xs ++ news) → w.grownBy w' v.ownBlock → (v'.ownBlock = v.ownBlock ∨ v'.ownBlock = some w.heap.size) → wpList Tryz.prog ops Q rest (a.put o.dst v') w') :
    wpList Tryz.prog ops Q (o :: rest) a w := by
  obtain ⟨i0, hi, hz0, hz1, hz2⟩ := info_parts info_hp
  refine wpList_plain hg fun K hK' => ?_
  obtain ⟨v', w', hrun, r1, r2, r3⟩ := run_append_own (P := Tryz.prog) w 0 177 o.type 225 i0 _ 3 40 Tryz.underlying177 hi hz0 hz1 hz2 rfl (by decide) v k xs hown ad 1 c news (by omega) hc h1c (by unfold maxLen; omega) (by omega) (Nat.zero_le _)
  have r4 := append_keeps (P := Tryz.prog) w 0 177 o.type 225 i0 _ 3 40 Tryz.underlying177 hi hz0 hz1 hz2 (by decide) v k xs hown hv ad c news hn hc h1c (by unfold maxLen; omega) (by omega) hrun
  unfold Oper.wp
  simp [execOp, hop, resolve, invoke, builtin, hs, hx, hrun, Result.andThen]
  exact hK' _ _ (hK v' w' r1 r2 r4.2)
set_option maxRecDepth 100000 in
set_option maxHeartbeats 1000000 in
theorem hcins_end (A : Option Addr) (c vb : Nat) (L : List XP) (x : XP) (w : World) (own : w.ownsRow 0 225 3 (.slice A L.length c) L.length (L.flatMap clP)) (hnil : Value.slice A L.length c = .slice none 0 0 ∨ 0 < L.length) (hn : L.length ≤ 100000) (hcap : L.length ≤ c)
    (hv : w.heap[vb]? = some (.cells (clP x).toArray 225 (0, 0))) :
    Calls Tryz.prog 188 #[.slice A L.length c, .int .i64 L.length, .slice (some ⟨vb, 0, none⟩) 1 1] w fun e w' =>
      ∃ A' c', e = .returned (.slice A' (L.length + 1) c') ∧ w'.ownsRow 0 225 3 (.slice A' (L.length + 1) c') (L.length + 1) (L.flatMap clP ++ clP x) ∧ w.grownBy w' (Value.slice A L.length c).ownBlock ∧
        ((Value.slice A' (L.length + 1) c').ownBlock = (Value.slice A L.length c).ownBlock ∨ (Value.slice A' (L.length + 1) c').ownBlock = some w.heap.size) := by
  obtain ⟨n, hnn⟩ : ∃ n, n = L.length := ⟨_, rfl⟩
  obtain ⟨xs, hxs⟩ : ∃ xs, xs = L.flatMap clP := ⟨_, rfl⟩
  rw [← hxs, ← hnn] at own ⊢
  rw [← hnn] at hnil hn hcap
  have HO := Lib.hid own
  have HNI := Lib.hid hnil
  clear hnn hxs own hnil
  go_enter Tryz.func188, Tryz.ntmps188
  go_wp2_with (at_builtin; refine wpList_append_one rfl _ _ rfl (.slice A n c) n xs rfl HO.out HNI.out ⟨vb, 0, none⟩ 1 (clP x) rfl rfl (fun j u hj => by rw [add_off, Nat.zero_add]; exact cells_at hv (by simpa using hj)) (clP_ones x) (by omega) ?_; intro v1 w1 own1 grow1 blk1; obtain ⟨A1, c1, rfl⟩ := own_slice own1; have G1 := Lib.hid (And.intro grow1 blk1); clear grow1 blk1)
  all_goals (go_ret; first | exact ⟨A1, c1, rfl, own1, G1.out.1, G1.out.2⟩ | (obtain rfl : c = n := (by assumption); exact ⟨A1, c1, rfl, own1, G1.out.1, G1.out.2⟩))
theorem hcinsert (A : Option Addr) (c i vb : Nat) (L : List XP) (x : XP) (w : World) (own : w.ownsRow 0 225 3 (.slice A L.length c) L.length (L.flatMap clP)) (hnil : Value.slice A L.length c = .slice none 0 0 ∨ 0 < L.length) (hi : i ≤ L.length) (hn : L.length ≤ 100000)
    (hv : w.heap[vb]? = some (.cells (clP x).toArray 225 (0, 0))) (hne : (Value.slice A L.length c).ownBlock ≠ some vb) :
    Calls Tryz.prog 188 #[.slice A L.length c, .int .i64 i, .slice (some ⟨vb, 0, none⟩) 1 1] w fun e w' =>
      ∃ A' c', e = .returned (.slice A' (L.length + 1) c') ∧ w'.ownsRow 0 225 3 (.slice A' (L.length + 1) c') (L.length + 1) ((putX L i x).flatMap clP) ∧ Kept (fun k => (Value.slice A L.length c).ownBlock = some k) w w' ∧
        ((Value.slice A' (L.length + 1) c').ownBlock = (Value.slice A L.length c).ownBlock ∨ (Value.slice A' (L.length + 1) c').ownBlock = some w.heap.size) := by
  rcases Nat.lt_or_ge i L.length with h1 | h1
  · rcases own.2 with ⟨_, h0⟩ | ⟨g, cap, cur, hv2, _, hg, hnc, hcm, hcs, ht⟩
    · omega
    · injection hv2 with e1 e2 e3
      subst e1; subst e3
      have hb : (Value.slice (some ⟨g, 0, none⟩) L.length c).ownBlock = some g := rfl
      rw [hb] at hne ⊢
      have hne' : vb ≠ g := fun e => hne (by rw [e])
      have hxl := flat3 (putX L i x)
      have hpl : (putX L i x).length = L.length + 1 := by simp [putX]; omega
      rcases Nat.lt_or_ge c (L.length + 1) with h2 | h2
      · refine (hcins_grow g c i vb cur L x w hg h1 hn hnc h2 ht hv).mono ?_
        rintro e w' ⟨c', rfl, ⟨cur', g1, g2, g3⟩, ⟨g4, g5⟩, g6⟩
        exact ⟨_, c', rfl, ⟨by rw [hxl, hpl], .inr ⟨_, c', cur', rfl, Nat.zero_le _, g1, g4, g5, g2, g3⟩⟩, Kept.of_below g6, .inr rfl⟩
      · refine (hcins_shift g c i vb cur L x w hg h1 hn h2 hcs ht hv hne').mono ?_
        rintro e w' ⟨rfl, ⟨cur', g1, g2, g3⟩, g6⟩
        exact ⟨_, c, rfl, ⟨by rw [hxl, hpl], .inr ⟨_, c, cur', rfl, Nat.zero_le _, g1, h2, hcm, g2, g3⟩⟩, g6.mono (fun _ _ e => by rw [e]), .inl rfl⟩
  · obtain rfl : i = L.length := by omega
    have hcap : L.length ≤ c := by
      rcases own.2 with ⟨h2, h0⟩ | ⟨g, cap, cur, hv2, _, hg, hnc, _⟩
      · omega
      · injection hv2 with e1 e2 e3
        omega
    refine (hcins_end A c vb L x w own hnil hn hcap hv).mono ?_
    rintro e w' ⟨A', c', rfl, g1, g2, g3⟩
    refine ⟨A', c', rfl, ?_, (Kept.of_grown g2).mono (fun _ _ e => e.symm), g3⟩
    rw [putX, List.take_length, List.drop_length, List.flatMap_append]
    simpa using g1
end Go.Proofs.YtpoigngpdcmipaaGreat
