/-
  Contracts and lemmas on which the proofs of this seat stand (several texts in one). Conditions are each theorem's own.
-/
import Derived.Test.YtghbliabmecbcaaMa10
import Derived.Test.YtghbliabmecbcaaMa1
import Derived.Shelf.SlIter.Nil
import Derived.Shelf.SortM.Plain
import Derived.Shelf.SortM.SortNone
import Derived.Ground.GgzProg
import Derived.Ground.SlgmProg
import Derived.Maps.RangeWalk
import Derived.Sort.OwnSorted

/-
  far of layer 16. Conditions are each theorem's own.
-/
namespace Go.Proofs.Ytghbliabmecbcaa
open Go.RowKit Go.Shelf
/-- Whether calls are too many, or too long. -/
def farD : Nat → Int → List Dx → Bool
  | _, n, [] => decide (n > 8000)
  | i, n, x :: l => if (((decide (60 ≤ i) || decide ((x.b.length : Int) > 1000)) || decide ((x.key.length : Int) > 60)) || decide ((x.head.length : Int) > 60)) || (decide (x.off > 4000) && decide (x.off ≤ 65535)) then true else farD (i + 1) (n + (x.b.length : Int)) l
theorem clD_one (x : Dx) : (clD x).toArray.all (·.oneCell') = true := by simp [clD, sq, Value.oneCell']
theorem row_ofD {w : World} {B : Nat} {A : Option Addr} {l : List Dx} (h : RdS clD 7 w B A l) {k : Nat} {x : Dx} (hx : l[k]? = some x) : ∃ b o, A = some ⟨b, o, none⟩ ∧ b < B ∧ w.rangeAt b (o + k * 7) (clD x) := by
  obtain ⟨b, o, e, hb, hr⟩ := h (by have := (List.getElem?_eq_some_iff.1 hx).1; omega)
  exact ⟨b, o, e, hb, hr k x hx⟩
theorem run_load_do {o : Oper} {a : Act} {w : World} {x : Operand} {g i : Nat} {cs : List Value} (ho : o.op = .load 34 x) (hx : a.eval x = .pointer (some ⟨g, i, none⟩)) (hr : w.rangeAt g i cs) (hl : cs.length = 7) :
    (execOp a.eval o).run Try.prog w = .ok (.value (.agg cs.toArray)) w := by
  have h := run_loadVar_mid (P := Try.prog) w g i 34 cs _ hr Try.underlying34 rfl (by rw [hl]; kernel_rfl)
  unfold execOp
  simp only [ho, hx, Instr.loadAt, Instr.sureAddr, Sem.run_bind, Sem.run_pure, Result.andThen_ok, h]
theorem do_store_new {ops : Array Oper} {rest : List Oper} {x y : Operand} {ty : TypeId} {pos : String} {af : Array Edge} {a : Act} {w : World} {Q : Exit → Act → World → Prop}
    {t : TypeId} {cs old : Array Value} (hx : a.eval x = .pointer (some ⟨w.heap.size, 0, none⟩)) (hy : a.eval y = .agg cs) (ho : old.size = 7) (hl : cs.size = 7) (h1 : cs.all (·.oneCell') = true)
    (h : wpList Try.prog ops Q rest (a.put none undef) (w.alloc (.cells cs t))) : wpList Try.prog ops Q (⟨none, .store 34 x y, ty, pos, af, none⟩ :: rest) a (w.alloc (.cells old t)) :=
  wpList_plain rfl fun _ hK => wp_store_row 34 x y rfl w.heap.size cs hx hy t old (World.alloc_heap_new w _) (by rw [hl]; kernel_rfl) (by rw [ho, hl]) h1 (by rw [World.setRow_alloc_new]; exact hK _ _ h)
set_option maxRecDepth 100000 in
set_option maxHeartbeats 1000000 in
theorem far16 (A : Option Addr) (c n B : Nat) (l : List Dx) (w : World) (hr : RdS clD 7 w B A l) (hB : B ≤ w.heap.size) (hn : n = l.length) (hy : ∀ y ∈ l, y.b.length ≤ y.c ∧ y.c ≤ maxLen ∧ (Lit.int .i64 y.off).wf = true) :
    Calls Try.prog 11 #[.slice A n c] w fun e w' => e = .returned (.bool (farD 0 0 l)) ∧ Below w.heap.size w w' := by
  have HN := Lib.hid hn
  have HR := Lib.hid hr
  have HY := Lib.hid hy
  generalize hF : farD 0 0 l = F
  have HF : Hid (F = farD 0 0 (l.drop 0)) := Lib.hid hF.symm
  clear hn hr hy hF
  go_enter Try.func11, Try.ntmps11
  go_wp2
  go_loopw [3, 8] (fun s i wr => ∃ (k : Nat) (z : Int), k ≤ n ∧ k ≤ 60 ∧ i = .int .i64 (k : Int) ∧ s = .int .i64 z ∧ (0 ≤ z ∧ z ≤ 1000 * (k : Int)) ∧ Hid (F = farD k z (l.drop k)) ∧ Below w.heap.size w wr)
    (fun _ i _ => n - (intOf i).toNat)
  case atStart => exact ⟨0, 0, Nat.zero_le _, by omega, rfl, rfl, by omega, HF, Below.refl _ _⟩
  case round =>
    obtain ⟨k, z, hk, hk6, rfl, rfl, hz, HE, hbel⟩ := hrel
    by_cases hlt : k < n
    · obtain ⟨x, hx⟩ : ∃ x, l[k]? = some x := ⟨_, List.getElem?_eq_getElem (by rw [← HN.out]; exact hlt)⟩
      obtain ⟨hy1, hy2, hy3⟩ := HY.out x (List.mem_of_getElem? hx)
      obtain ⟨b1, o1, rfl, hb1, hrow1⟩ := row_ofD HR.out hx
      have hrow := range_below hrow1 hb1 (hbel.mono hB)
      have HXD : Hid (l.drop k = x :: l.drop (k + 1)) := Lib.hid (by
        have hkl := (List.getElem?_eq_some_iff.1 hx).1
        rw [List.drop_eq_getElem_cons hkl]
        rw [List.getElem?_eq_getElem hkl] at hx
        rw [Option.some.inj hx])
      obtain ⟨V, hV⟩ : ∃ V, V = wr.alloc (.cells (clD x).toArray 34) := ⟨_, rfl⟩
      have HV := Lib.hid hV
      have bV : Below wr.heap.size wr V := by rw [hV]; exact (Below.refl _ wr).alloc (Nat.le_refl _) _
      have hbV : V.heap[wr.heap.size]? = some (.cells (clD x).toArray 34 (0, 0)) := by rw [hV]; exact World.alloc_heap_new wr _
      have kx1 : V.cell? ⟨wr.heap.size, 1, none⟩ = some (.string (strB x.key)) := cells_at (i := 1) hbV rfl
      have kx2 : V.cell? ⟨wr.heap.size, 2, none⟩ = some (.int .i64 x.off) := cells_at (i := 2) hbV rfl
      have kx4 : V.cell? ⟨wr.heap.size, 4, none⟩ = some (.slice x.A x.b.length x.c) := cells_at (i := 4) hbV rfl
      have kx5 : V.cell? ⟨wr.heap.size, 5, none⟩ = some (.string (strB x.head)) := cells_at (i := 5) hbV rfl
      have s1 : (strB x.key).size = x.key.length := strB_size _
      have s2 : (strB x.head).size = x.head.length := strB_size _
      have b7 := hbel.trans (bV.mono hbel.size)
      unfold maxLen at hy2
      have HSTEP : Hid (F = if (((decide (60 ≤ k) || decide ((x.b.length : Int) > 1000)) || decide ((x.key.length : Int) > 60)) || decide ((x.head.length : Int) > 60)) || (decide (x.off > 4000) && decide (x.off ≤ 65535)) then true else farD (k + 1) (z + (x.b.length : Int)) (l.drop (k + 1))) := Lib.hid (by rw [HE.out, HXD.out, farD])
      clear hx hrow1 hV bV hbV
      by_cases c1 : 60 ≤ k
      · have d1 : decide ((k : Int) ≥ 60) = true := decide_eq_true (by omega)
        have d1' : decide (60 ≤ (k : Int)) = true := d1
        have e1 : decide (60 ≤ k) = true := decide_eq_true c1
        have HT : Hid (F = true) := Lib.hid (by rw [HSTEP.out, e1]; simp)
        clear c1
        go_wp2_with (first
          | ((with_reducible show wpList _ _ _ (Oper.mk _ (Op.load 34 _) _ _ _ _ :: _) _ _); refine wpList_val rfl (run_load_do rfl rfl hrow rfl) ?_)
          | ((with_reducible show wpList _ _ _ (Oper.mk _ (Op.store 34 _ _) _ _ _ _ :: _) _ _); refine do_store_new (cs := (clD x).toArray) rfl rfl rfl rfl (clD_one x) ?_; rw [← HV.out]))
        go_ret
        exact ⟨by rw [HT.out]; rfl, b7⟩
      · have d1 : decide ((k : Int) ≥ 60) = false := decide_eq_false (by omega)
        have d1' : decide (60 ≤ (k : Int)) = false := d1
        have e1 : decide (60 ≤ k) = false := decide_eq_false c1
        by_cases c2 : (x.b.length : Int) > 1000
        · have d2 : decide ((x.b.length : Int) > 1000) = true := decide_eq_true (by omega)
          have d2' : decide (1000 < (x.b.length : Int)) = true := d2
          have e2 : decide ((x.b.length : Int) > 1000) = true := decide_eq_true c2
          have HT : Hid (F = true) := Lib.hid (by rw [HSTEP.out, e2]; simp)
          clear c1 c2
          go_wp2_with (first
            | ((with_reducible show wpList _ _ _ (Oper.mk _ (Op.load 34 _) _ _ _ _ :: _) _ _); refine wpList_val rfl (run_load_do rfl rfl hrow rfl) ?_)
            | ((with_reducible show wpList _ _ _ (Oper.mk _ (Op.store 34 _ _) _ _ _ _ :: _) _ _); refine do_store_new (cs := (clD x).toArray) rfl rfl rfl rfl (clD_one x) ?_; rw [← HV.out]))
          go_ret
          exact ⟨by rw [HT.out]; rfl, b7⟩
        · have d2 : decide ((x.b.length : Int) > 1000) = false := decide_eq_false (by omega)
          have d2' : decide (1000 < (x.b.length : Int)) = false := d2
          have e2 : decide ((x.b.length : Int) > 1000) = false := decide_eq_false c2
          by_cases c3 : (x.key.length : Int) > 60
          · have d3 : decide ((x.key.length : Int) > 60) = true := decide_eq_true (by omega)
            have d3' : decide (60 < (x.key.length : Int)) = true := d3
            have e3 : decide ((x.key.length : Int) > 60) = true := decide_eq_true c3
            have HT : Hid (F = true) := Lib.hid (by rw [HSTEP.out, e3]; simp)
            clear c1 c2 c3
            go_wp2_with (first
              | ((with_reducible show wpList _ _ _ (Oper.mk _ (Op.load 34 _) _ _ _ _ :: _) _ _); refine wpList_val rfl (run_load_do rfl rfl hrow rfl) ?_)
              | ((with_reducible show wpList _ _ _ (Oper.mk _ (Op.store 34 _ _) _ _ _ _ :: _) _ _); refine do_store_new (cs := (clD x).toArray) rfl rfl rfl rfl (clD_one x) ?_; rw [← HV.out]))
            go_ret
            exact ⟨by rw [HT.out]; rfl, b7⟩
          · have d3 : decide ((x.key.length : Int) > 60) = false := decide_eq_false (by omega)
            have d3' : decide (60 < (x.key.length : Int)) = false := d3
            have e3 : decide ((x.key.length : Int) > 60) = false := decide_eq_false c3
            by_cases c4 : (x.head.length : Int) > 60
            · have d4 : decide ((x.head.length : Int) > 60) = true := decide_eq_true (by omega)
              have d4' : decide (60 < (x.head.length : Int)) = true := d4
              have e4 : decide ((x.head.length : Int) > 60) = true := decide_eq_true c4
              have HT : Hid (F = true) := Lib.hid (by rw [HSTEP.out, e4]; simp)
              clear c1 c2 c3 c4
              go_wp2_with (first
                | ((with_reducible show wpList _ _ _ (Oper.mk _ (Op.load 34 _) _ _ _ _ :: _) _ _); refine wpList_val rfl (run_load_do rfl rfl hrow rfl) ?_)
                | ((with_reducible show wpList _ _ _ (Oper.mk _ (Op.store 34 _ _) _ _ _ _ :: _) _ _); refine do_store_new (cs := (clD x).toArray) rfl rfl rfl rfl (clD_one x) ?_; rw [← HV.out]))
              go_ret
              exact ⟨by rw [HT.out]; rfl, b7⟩
            · have d4 : decide ((x.head.length : Int) > 60) = false := decide_eq_false (by omega)
              have d4' : decide (60 < (x.head.length : Int)) = false := d4
              have e4 : decide ((x.head.length : Int) > 60) = false := decide_eq_false c4
              by_cases c5 : x.off > 4000
              · have d5 : decide (x.off > 4000) = true := decide_eq_true c5
                have d5' : decide (4000 < x.off) = true := d5
                by_cases c6 : x.off ≤ 65535
                · have d6 : decide (x.off ≤ 65535) = true := decide_eq_true c6
                  have HT : Hid (F = true) := Lib.hid (by rw [HSTEP.out, d5, d6]; simp)
                  clear c1 c2 c3 c4 c5 c6
                  go_wp2_with (first
                    | ((with_reducible show wpList _ _ _ (Oper.mk _ (Op.load 34 _) _ _ _ _ :: _) _ _); refine wpList_val rfl (run_load_do rfl rfl hrow rfl) ?_)
                    | ((with_reducible show wpList _ _ _ (Oper.mk _ (Op.store 34 _ _) _ _ _ _ :: _) _ _); refine do_store_new (cs := (clD x).toArray) rfl rfl rfl rfl (clD_one x) ?_; rw [← HV.out]))
                  go_ret
                  exact ⟨by rw [HT.out]; rfl, b7⟩
                · have d6 : decide (x.off ≤ 65535) = false := decide_eq_false c6
                  have HT : Hid (F = farD (k + 1) (z + (x.b.length : Int)) (l.drop (k + 1))) := Lib.hid (by rw [HSTEP.out, e1, e2, e3, e4, d5, d6]; rfl)
                  have hk1 : k + 1 ≤ 60 := by omega
                  have hz2 : 0 ≤ z + (x.b.length : Int) ∧ z + (x.b.length : Int) ≤ 1000 * ((k + 1 : Nat) : Int) := by omega
                  clear c1 c2 c3 c4 c5 c6
                  go_wp2_with (first
                    | ((with_reducible show wpList _ _ _ (Oper.mk _ (Op.load 34 _) _ _ _ _ :: _) _ _); refine wpList_val rfl (run_load_do rfl rfl hrow rfl) ?_)
                    | ((with_reducible show wpList _ _ _ (Oper.mk _ (Op.store 34 _ _) _ _ _ _ :: _) _ _); refine do_store_new (cs := (clD x).toArray) rfl rfl rfl rfl (clD_one x) ?_; rw [← HV.out]))
                  go_roundw
                  case rel => exact ⟨k + 1, z + (x.b.length : Int), by omega, hk1, by simp, by rfl, hz2, HT, b7⟩
                  case measure => simp [intOf]; omega
              · have d5 : decide (x.off > 4000) = false := decide_eq_false c5
                have d5' : decide (4000 < x.off) = false := d5
                have HT : Hid (F = farD (k + 1) (z + (x.b.length : Int)) (l.drop (k + 1))) := Lib.hid (by rw [HSTEP.out, e1, e2, e3, e4, d5]; rfl)
                have hk1 : k + 1 ≤ 60 := by omega
                have hz2 : 0 ≤ z + (x.b.length : Int) ∧ z + (x.b.length : Int) ≤ 1000 * ((k + 1 : Nat) : Int) := by omega
                clear c1 c2 c3 c4 c5
                go_wp2_with (first
                  | ((with_reducible show wpList _ _ _ (Oper.mk _ (Op.load 34 _) _ _ _ _ :: _) _ _); refine wpList_val rfl (run_load_do rfl rfl hrow rfl) ?_)
                  | ((with_reducible show wpList _ _ _ (Oper.mk _ (Op.store 34 _ _) _ _ _ _ :: _) _ _); refine do_store_new (cs := (clD x).toArray) rfl rfl rfl rfl (clD_one x) ?_; rw [← HV.out]))
                go_roundw
                case rel => exact ⟨k + 1, z + (x.b.length : Int), by omega, hk1, by simp, by rfl, hz2, HT, b7⟩
                case measure => simp [intOf]; omega
    · obtain rfl : n = k := by omega
      have HT : Hid (F = decide (z > 8000)) := Lib.hid (by rw [HE.out, List.drop_eq_nil_of_le (by rw [← HN.out]; exact Nat.le_refl _)]; rfl)
      go_wp2
      go_ret
      exact ⟨by rw [HT.out]; rfl, hbel⟩
end Go.Proofs.Ytghbliabmecbcaa

/-
  Buffers of parts, in plain lists: what a table answers and keeps, and that it stays within its bounds. No program. Conditions are each theorem's own.
-/
namespace Go.Proofs.Ytghbliabmecbcaa
open Go.RowKit

/-- A buffer. -/
structure Bf where
  key : List UInt8
  since : Int
  l : List Pc
  head : List UInt8
  has : Bool
def bytesJ : List Bf → Int
  | [] => 0
  | b :: t => bytesP b.l + bytesJ t
def findJ (t : List Bf) (key : List UInt8) : Nat := t.findIdx fun x => x.key == key
def insJ : List (List UInt8) → List UInt8 → List (List UInt8)
  | [], s => [s]
  | x :: l, s => if Op.bytesLess x s then x :: insJ l s else s :: x :: l
def keysOf (t : List Bf) : List (List UInt8) := t.foldl (fun out b => insJ out b.key) []
def clampJ (now : Int) : Int := min (max now 0) 1099511627776
def goneJ (wait now : Int) (b : Bf) : Bool := decide (now ≥ wait) && decide (b.since ≤ now - wait)
def expK (t : List Bf) (wait now : Int) : List (List UInt8) := keysOf (t.filter (goneJ wait now))
def expL (t : List Bf) (wait now : Int) : List Bf := t.filter fun b => !goneJ wait now b
/-- What a part's call answers: the first part's text, all bytes, whether they are all there, the error. -/
abbrev AnsJ := List UInt8 × List UInt8 × Bool × Int
/-- A buffer with a part more. -/
def upJ (x : Bf) (p : Pc) (head : List UInt8) : Bf := { x with l := addL x.l p, head := if p.off = 0 ∧ x.has = false then head else x.head, has := x.has || decide (p.off = 0) }
/-- A part at a buffer that is there, at a place of the table. -/
def putJ (mb : Int) (t0 t : List Bf) (k : Nat) (x : Bf) (p : Pc) (head : List UInt8) : List Bf × AnsJ :=
  if bytesJ t + roomP x.l p.off p.b > mb then (t0, [], [], false, 7)
  else if addE x.l p ≠ 0 then (t.eraseIdx k, [], [], false, addE x.l p)
  else if doneB (upJ x p head).l then (t.eraseIdx k, (upJ x p head).head, doneP (upJ x p head).l, true, 0)
  else (t.set k (upJ x p head), [], [], false, 0)
def newJ (key : List UInt8) (now : Int) : Bf := ⟨key, clampJ now, [], [], false⟩
def addJ (most mb : Int) (t : List Bf) (key : List UInt8) (p : Pc) (head : List UInt8) (now : Int) : List Bf × AnsJ :=
  match t[findJ t key]? with
  | some x => putJ mb t t (findJ t key) x p head
  | none => if (t.length : Int) ≥ most then (t, [], [], false, 7) else putJ mb t (t ++ [newJ key now]) t.length (newJ key now) p head

theorem bytesP_nn : ∀ l : List Pc, 0 ≤ bytesP l
  | [] => Int.le_refl _
  | x :: l => by
    have h := bytesP_nn l
    have h2 : x.len = (x.b.length : Int) := rfl
    rw [bytesP]; omega
theorem bytesP_app (l : List Pc) (p : Pc) : bytesP (l ++ [p]) = bytesP l + p.len := by
  induction l with
  | nil => simp [bytesP]
  | cons a l ih => rw [List.cons_append, bytesP, bytesP, ih]; omega
theorem bytesJ_nn : ∀ t : List Bf, 0 ≤ bytesJ t
  | [] => Int.le_refl _
  | b :: t => by
    have h := bytesJ_nn t
    have h2 := bytesP_nn b.l
    rw [bytesJ]; omega
theorem bytesJ_app (t : List Bf) (b : Bf) : bytesJ (t ++ [b]) = bytesJ t + bytesP b.l := by
  induction t with
  | nil => simp [bytesJ]
  | cons a t ih => rw [List.cons_append, bytesJ, bytesJ, ih]; omega
theorem bytesJ_erase : ∀ (t : List Bf) (k : Nat), bytesJ (t.eraseIdx k) ≤ bytesJ t
  | [], _ => by simp
  | b :: t, 0 => by
    have := bytesP_nn b.l
    rw [List.eraseIdx_cons_zero, bytesJ]; omega
  | b :: t, k + 1 => by
    have := bytesJ_erase t k
    rw [List.eraseIdx_cons_succ, bytesJ, bytesJ]; omega
theorem bytesJ_set : ∀ (t : List Bf) (k : Nat) (x y : Bf), t[k]? = some x → bytesJ (t.set k y) = bytesJ t - bytesP x.l + bytesP y.l
  | [], _, _, _, h => by simp at h
  | b :: t, 0, x, y, h => by
    simp only [List.getElem?_cons_zero, Option.some.injEq] at h
    subst h
    rw [List.set_cons_zero, bytesJ, bytesJ]; omega
  | b :: t, k + 1, x, y, h => by
    rw [List.getElem?_cons_succ] at h
    have := bytesJ_set t k x y h
    rw [List.set_cons_succ, bytesJ, bytesJ]; omega
theorem erase_length (t : List Bf) (k : Nat) : (t.eraseIdx k).length ≤ t.length := by
  rw [List.length_eraseIdx]; split <;> omega
theorem bytesJ_filter (f : Bf → Bool) : ∀ t : List Bf, bytesJ (t.filter f) ≤ bytesJ t
  | [] => Int.le_refl _
  | b :: t => by
    have h := bytesJ_filter f t
    have h2 := bytesP_nn b.l
    rw [List.filter_cons]
    split
    · rw [bytesJ, bytesJ]; omega
    · rw [bytesJ]; omega
/-- What is taken needs no more room than was asked. -/
theorem room_add (l : List Pc) (p : Pc) : bytesP (addL l p) ≤ bytesP l + roomP l p.off p.b := by
  have hr0 : 0 ≤ roomP l p.off p.b := by unfold roomP; split <;> omega
  rcases addL_cases l p with e | ⟨e, _, _, _, hs, _⟩
  · rw [e]; omega
  · have hne : ∀ m, ¬ sameP l ⟨p.off, m, p.b⟩ = true := fun m hm => hs (by
      have hx := sameP_iff.1 hm
      refine List.any_eq_true.2 ⟨_, hx, ?_⟩
      have h1 : (Pc.mk p.off m p.b).len = p.len := rfl
      have h2 : (Pc.mk p.off m p.b).stop = p.stop := rfl
      have h3 : p.stop = p.off + p.len := rfl
      have h4 : 0 ≤ p.len := Int.natCast_nonneg _
      simp only [sharing, Bool.or_eq_true, Bool.and_eq_true, decide_eq_true_eq, beq_iff_eq, h1, h2]
      by_cases h0 : p.len = 0
      · right; exact ⟨⟨trivial, h0⟩, h0⟩
      · left; exact ⟨⟨⟨by omega, by omega⟩, by omega⟩, by omega⟩)
    have hr : roomP l p.off p.b = p.len := by
      rw [roomP, if_neg]; rfl
      simp only [Bool.or_eq_true, not_or]
      exact ⟨hne true, hne false⟩
    rw [e, bytesP_app, hr]; omega
theorem insJ_length : ∀ (l : List (List UInt8)) (s : List UInt8), (insJ l s).length = l.length + 1
  | [], _ => rfl
  | x :: l, s => by
    rw [insJ]; split
    · rw [List.length_cons, insJ_length l s, List.length_cons]
    · rfl
theorem foldl_ins_length : ∀ (t : List Bf) (out : List (List UInt8)), (t.foldl (fun out b => insJ out b.key) out).length = out.length + t.length
  | [], _ => rfl
  | b :: t, out => by rw [List.foldl_cons, foldl_ins_length t, insJ_length, List.length_cons]; omega
theorem keysOf_length (t : List Bf) : (keysOf t).length = t.length := by rw [keysOf, foldl_ins_length]; simp
theorem findJ_lt {t : List Bf} {key : List UInt8} {x : Bf} (h : t[findJ t key]? = some x) : findJ t key < t.length := (List.getElem?_eq_some_iff.1 h).1
theorem findJ_none {t : List Bf} {key : List UInt8} (h : t[findJ t key]? = none) : findJ t key = t.length := by
  have h1 := List.getElem?_eq_none_iff.1 h
  have h2 : findJ t key ≤ t.length := List.findIdx_le_length
  omega
/-- A call keeps the table within its bounds. -/
theorem putJ_in {mb most : Int} {t0 t : List Bf} {k : Nat} {x : Bf} {p : Pc} {head : List UInt8} (hk : t[k]? = some x) (h0 : bytesJ t0 ≤ mb) (h0' : (t0.length : Int) ≤ most) (h1 : bytesJ t ≤ mb) (h1' : (t.length : Int) ≤ most) :
    bytesJ (putJ mb t0 t k x p head).1 ≤ mb ∧ ((putJ mb t0 t k x p head).1.length : Int) ≤ most := by
  unfold putJ
  by_cases hr : bytesJ t + roomP x.l p.off p.b > mb
  · rw [if_pos hr]; exact ⟨h0, h0'⟩
  · rw [if_neg hr]
    have he := bytesJ_erase t k
    have hl := erase_length t k
    have hE : bytesJ (t.eraseIdx k) ≤ mb ∧ ((t.eraseIdx k).length : Int) ≤ most := ⟨by omega, by omega⟩
    by_cases ha : addE x.l p ≠ 0
    · rw [if_pos ha]; exact hE
    · rw [if_neg ha]
      by_cases hd : doneB (upJ x p head).l = true
      · rw [if_pos hd]; exact hE
      · rw [if_neg hd]
        have h2 := room_add x.l p
        refine ⟨?_, ?_⟩
        · show bytesJ (t.set k (upJ x p head)) ≤ mb
          rw [bytesJ_set t k x _ hk]
          show bytesJ t - bytesP x.l + bytesP (addL x.l p) ≤ mb
          omega
        · show ((t.set k (upJ x p head)).length : Int) ≤ most
          rw [List.length_set]; exact h1'
theorem addJ_in {mb most : Int} {t : List Bf} {key : List UInt8} {p : Pc} {head : List UInt8} {now : Int} (h : bytesJ t ≤ mb) (h' : (t.length : Int) ≤ most) :
    bytesJ (addJ most mb t key p head now).1 ≤ mb ∧ ((addJ most mb t key p head now).1.length : Int) ≤ most := by
  unfold addJ
  split
  · rename_i x hx; exact putJ_in hx h h' h h'
  · by_cases hm : (t.length : Int) ≥ most
    · rw [if_pos hm]; exact ⟨h, h'⟩
    · rw [if_neg hm]
      refine putJ_in (by simp) h h' ?_ (by rw [List.length_append, List.length_singleton]; omega)
      rw [bytesJ_app]
      show bytesJ t + bytesP [] ≤ mb
      rw [bytesP]; omega
/-- All buffers that began at one time stay so. -/
theorem putJ_since {mb c : Int} {t0 t : List Bf} {k : Nat} {x : Bf} {p : Pc} {head : List UInt8} (hk : t[k]? = some x) (h0 : ∀ b ∈ t0, b.since = c) (h : ∀ b ∈ t, b.since = c) : ∀ b ∈ (putJ mb t0 t k x p head).1, b.since = c := by
  have he : ∀ b ∈ t.eraseIdx k, b.since = c := fun b hb => h b (List.mem_of_mem_eraseIdx hb)
  unfold putJ
  split
  · exact h0
  · split
    · exact he
    · split
      · exact he
      · intro b hb
        rcases List.mem_or_eq_of_mem_set hb with hb | rfl
        · exact h b hb
        · exact h x (List.mem_of_getElem? hk)
theorem addJ_since {mb most now : Int} {t : List Bf} {key : List UInt8} {p : Pc} {head : List UInt8} (h : ∀ b ∈ t, b.since = clampJ now) : ∀ b ∈ (addJ most mb t key p head now).1, b.since = clampJ now := by
  unfold addJ
  split
  · rename_i x hx; exact putJ_since hx h h
  · split
    · exact h
    · refine putJ_since (by simp) h fun b hb => ?_
      rcases List.mem_append.1 hb with hb | hb
      · exact h b hb
      · rw [List.mem_singleton.1 hb]; rfl
/-- Behind the wait all are gone, before it none. -/
theorem exp_none {t : List Bf} {wait now c : Int} (h : ∀ b ∈ t, b.since = c) (hn : now < wait ∨ c > now - wait) : expK t wait now = [] ∧ expL t wait now = t := by
  have hg : ∀ b ∈ t, goneJ wait now b = false := fun b hb => by
    have h1 := h b hb
    simp only [goneJ, Bool.and_eq_false_iff, decide_eq_false_iff_not]; omega
  refine ⟨?_, List.filter_eq_self.2 fun b hb => by rw [hg b hb]; rfl⟩
  rw [expK, List.filter_eq_nil_iff.2 fun b hb => by rw [hg b hb]; decide]; rfl
theorem exp_all {t : List Bf} {wait now c : Int} (h : ∀ b ∈ t, b.since = c) (hn : now ≥ wait) (hc : c ≤ now - wait) : (expK t wait now).length = t.length ∧ expL t wait now = [] := by
  have hg : ∀ b ∈ t, goneJ wait now b = true := fun b hb => by
    have h1 := h b hb
    simp only [goneJ, Bool.and_eq_true, decide_eq_true_eq]; omega
  refine ⟨?_, List.filter_eq_nil_iff.2 fun b hb => by rw [hg b hb]; decide⟩
  rw [expK, keysOf_length, List.filter_eq_self.2 hg]
end Go.Proofs.Ytghbliabmecbcaa

/-
  The table behind Add, in plain lists: what room a part took, whom the map holds. Conditions are each theorem's own.
-/
namespace Go.Proofs.Ytghbliabmecbcaa
open Go.RowKit Go.Shelf Go.Maps
/-- What is taken needs just the room that was asked. -/
theorem room_eq (l : List Pc) (p : Pc) (h : addE l p = 0) : bytesP (addL l p) = bytesP l + roomP l p.off p.b := by
  rcases addL_cases l p with e | ⟨e, _, _, _, hs, _⟩
  · have hsm : sameP l p = true := by
      by_cases h1 : sameP l p = true
      · exact h1
      · exfalso
        have e2 : addL l p = l ++ [p] := by rw [addL, if_pos h, if_neg h1]
        rw [e2] at e
        have := congrArg List.length e
        simp at this
    have hr : roomP l p.off p.b = 0 := by
      rw [roomP, if_pos]
      obtain ⟨o, m, b⟩ := p
      cases m with
      | true => rw [Bool.or_eq_true]; exact .inl hsm
      | false => rw [Bool.or_eq_true]; exact .inr hsm
    rw [e, hr]; omega
  · have hne : ∀ m, ¬ sameP l ⟨p.off, m, p.b⟩ = true := fun m hm => hs (by
      have hx := sameP_iff.1 hm
      refine List.any_eq_true.2 ⟨_, hx, ?_⟩
      have h1 : (Pc.mk p.off m p.b).len = p.len := rfl
      have h2 : (Pc.mk p.off m p.b).stop = p.stop := rfl
      have h3 : p.stop = p.off + p.len := rfl
      have h4 : 0 ≤ p.len := Int.natCast_nonneg _
      simp only [sharing, Bool.or_eq_true, Bool.and_eq_true, decide_eq_true_eq, beq_iff_eq, h1, h2]
      by_cases h0 : p.len = 0
      · right; exact ⟨⟨trivial, h0⟩, h0⟩
      · left; exact ⟨⟨⟨by omega, by omega⟩, by omega⟩, by omega⟩)
    have hr : roomP l p.off p.b = p.len := by
      rw [roomP, if_neg]; rfl
      simp only [Bool.or_eq_true, not_or]
      exact ⟨hne true, hne false⟩
    rw [e, bytesP_app, hr]
theorem roomC_eq {L : List Pc} (hr : Ris L) (p : Pc) (h : addC L p = 0) : bytesP (addCL L p) = bytesP L + roomC L p.off p.b := by
  have hs : Same L L := ⟨hr, List.Perm.refl _⟩
  rw [(hs.addL p).bytes, room_eq L p (by rw [← hs.addE]; exact h)]
  have := hs.room p.off p.b false
  unfold roomC
  rw [this]
/-- All bytes of all buffers. -/
def sumB : List Bu → Int
  | [] => 0
  | s :: S => s.by + sumB S
theorem sumB_perm {S T : List Bu} (h : S.Perm T) : sumB S = sumB T := by
  induction h with
  | nil => rfl
  | cons x _ ih => rw [sumB, sumB, ih]
  | swap x y l => simp only [sumB]; omega
  | trans _ _ h1 h2 => exact h1.trans h2
theorem by_nn (s : Bu) : 0 ≤ s.by := bytesP_nn _
theorem sumB_nn : ∀ S : List Bu, 0 ≤ sumB S
  | [] => Int.le_refl _
  | s :: S => by
    have := sumB_nn S
    have := by_nn s
    rw [sumB]; omega
theorem withoutM_none {key : List UInt8} {M : List (List UInt8 × Nat)} (h : ∀ p ∈ M, p.1 ≠ key) : withoutM key M = M := by
  unfold withoutM
  rw [List.filter_eq_self]
  intro p hp
  simpa using h p hp
theorem withoutM_perm {key : List UInt8} {M : List (List UInt8 × Nat)} {S R : List Bu} {s : Bu} (hM : M.Perm (S.map Bu.kg)) (hS : S.Perm (s :: R)) (hk : s.key = key) (nd : (s :: R).Pairwise (fun a b => a.key ≠ b.key)) : (withoutM key M).Perm (R.map Bu.kg) := by
  have h1 : M.Perm (s.kg :: R.map Bu.kg) := hM.trans (hS.map _)
  have h2 : (withoutM key M).Perm (withoutM key (s.kg :: R.map Bu.kg)) := h1.filter _
  refine h2.trans ?_
  have e : withoutM key (s.kg :: R.map Bu.kg) = withoutM key (R.map Bu.kg) := by
    unfold withoutM
    rw [List.filter_cons_of_neg]
    simp [Bu.kg, hk]
  rw [e, withoutM_none]
  intro p hp
  obtain ⟨x, hx, rfl⟩ := List.mem_map.1 hp
  exact fun h => (List.pairwise_cons.1 nd).1 x hx (hk.trans h.symm)
/-- A table within its bounds: its map holds all buffers that lie about, its number is the sum of their bytes. -/
structure Jv (w : World) (B0 t bm : Nat) (mb my wt : Int) (N : Nat) (S : List Bu) : Prop where
  tx : Tx w t bm (sumB S) mb my wt (S.map Bu.kg) S
  z : Tz B0 t bm S
  by_ : sumB S ≤ my
  n : (S.length : Int) ≤ mb
  l : ∀ s ∈ S, s.L.length ≤ N
theorem Jv.below {w w' : World} {B0 t bm N : Nat} {mb my wt : Int} {S : List Bu} (h : Jv w B0 t bm mb my wt N S) (hb : Below w.heap.size w w') : Jv w' B0 t bm mb my wt N S := ⟨h.tx.below hb, h.z, h.by_, h.n, h.l⟩
theorem Jv.mono {w : World} {B0 t bm N N' : Nat} {mb my wt : Int} {S : List Bu} (h : Jv w B0 t bm mb my wt N S) (hN : N ≤ N') : Jv w B0 t bm mb my wt N' S := ⟨h.tx, h.z, h.by_, h.n, fun s hs => Nat.le_trans (h.l s hs) hN⟩
end Go.Proofs.Ytghbliabmecbcaa

/-
  Add of layer 16's code, whatever comes: the table keeps its bounds. Conditions are each theorem's own.
-/
namespace Go.Proofs.Ytghbliabmecbcaa
open Go.RowKit Go.Shelf Go.Maps
theorem tellB_began (s : Bu) (off : Int) (head : List UInt8) : (tellB s off head).began = s.began := by unfold tellB; split <;> rfl
section
variable {w : World} {B0 t bm N : Nat} {mb my wt : Int} {S R : List Bu} {s : Bu} {key : List UInt8} {now : Int}
/-- What is known of the key's parts. -/
theorem Jv.parts (h : Jv w B0 t bm mb my wt N S) (hk : s.key = key) (hc : S.Perm (s :: R) ∨ (S = R ∧ Fresh s key now ∧ ∀ x ∈ S, x.key ≠ key)) :
    partsOf S key = piE s.L ∧ sumB S = bytesP (partsOf S key) + sumB R ∧ Ris (partsOf S key) ∧ (withoutM key (S.map Bu.kg)).Perm (R.map Bu.kg) ∧ (∀ x ∈ R, x ∈ S) ∧ R.length ≤ S.length ∧ s.L.length ≤ N := by
  rcases hc with hp | ⟨rfl, hf, hno⟩
  · have nd := hp.pairwise h.tx.nd (fun e => e.symm)
    have hm : s ∈ S := hp.mem_iff.2 (List.mem_cons_self ..)
    have e := partsOf_hit hp hk nd
    refine ⟨e, ?_, ?_, withoutM_perm (List.Perm.refl _) hp hk nd, fun x hx => hp.mem_iff.2 (List.mem_cons_of_mem _ hx), ?_, h.l s hm⟩
    · rw [sumB_perm hp, e]; rfl
    · rw [e]; exact (h.tx.bx s hm).hx.ris
    · rw [hp.length_eq]; simp
  · have e := partsOf_none hno
    refine ⟨by rw [e, hf.2.2.2.1]; rfl, by rw [e]; simp [bytesP], by rw [e]; exact Ris.nil, ?_, fun x hx => hx, Nat.le_refl _, by rw [hf.2.2.2.1]; exact Nat.zero_le _⟩
    rw [withoutM_none]
    intro p hp
    obtain ⟨x, hx, rfl⟩ := List.mem_map.1 hp
    exact hno x hx
theorem sum_part (hk : s ∈ S) : s.by ≤ sumB S := by
  obtain ⟨S1, S2, e⟩ := List.append_of_mem hk
  have : S.Perm (s :: (S1 ++ S2)) := by rw [e]; exact List.perm_middle
  rw [sumB_perm this, sumB]
  have := sumB_nn (S1 ++ S2)
  omega
set_option maxHeartbeats 1000000 in
theorem jadd_any (h : Jv w B0 t bm mb my wt N S) (hmy : my ≤ 10000000000) (key head : List UInt8) (off now : Int) (more : Bool) (A' : Option Addr) (c' : Nat) (b : List UInt8) (hA' : Arg w w.heap.size A' c' b) (hk : key.length ≤ maxLen) (hbl : b.length ≤ 1000000)
    (hoff : -9223372036854775808 ≤ off ∧ off ≤ 9223372036854775807) (hN : N + 1 ≤ 100000) (hS : S.length < 1000000) (hB0 : B0 ≤ w.heap.size) (P : Int → Prop) (hP : ∀ s ∈ S, P s.began) (hPn : P (min (max now 0) 1099511627776)) :
    Calls Try.prog 16 #[.pointer (some ⟨t, 0, none⟩), sq key, .int .i64 off, .bool more, .slice A' b.length c', sq head, .int .i64 now] w fun e w' =>
      ∃ a1 a2 a3 a4 S', e = .returned (.tuple #[a1, a2, a3, a4]) ∧ Jv w' B0 t bm mb my wt (N + 1) S' ∧ Below B0 w w' ∧ S'.length ≤ S.length + 1 ∧ ∀ s ∈ S', P s.began := by
  have hnn := sumB_nn S
  have hby := h.by_
  have htot : 0 ≤ sumB S ∧ sumB S ≤ 100000000000 := by omega
  have hL : ∀ s ∈ S, s.L.length + 1 ≤ 100000 := fun s hs => by have := h.l s hs; omega
  have hML : (S.map Bu.kg).length = S.length := by simp
  by_cases hF : Takes (S.map Bu.kg) S mb key
  · by_cases hroom : sumB S + roomC (partsOf S key) off b > my
    · refine (jadd_room h.tx (List.Perm.refl _) key head off now more A' c' b hA' hk hbl htot hF hroom).mono ?_
      rintro e w' ⟨rfl, hT, hb⟩
      exact ⟨_, _, _, _, S, rfl, (h.below hb).mono (Nat.le_succ _), hb.mono hB0, Nat.le_succ _, hP⟩
    · by_cases hadd : addC (partsOf S key) ⟨off, more, b⟩ = 0
      · cases hd : (endedP (addCL (partsOf S key) ⟨off, more, b⟩) && decide (gapsS 0 (addCL (partsOf S key) ⟨off, more, b⟩) = [])) with
        | false =>
          refine (jadd_open h.tx (List.Perm.refl _) key head off now more A' c' b hA' hk hbl hoff hL htot hF (by omega) B0 hB0 h.z hroom hadd hd).mono ?_
          rintro e w' ⟨rfl, s, R, A2, c2, L2, hT, hsk, hc, hL2, ll, hz, hb⟩
          obtain ⟨p1, p2, p3, p4, p5, p6, p7⟩ := h.parts hsk hc
          have hq := roomC_eq p3 ⟨off, more, b⟩ hadd
          have e1 : (tellB (s.with_ A2 c2 L2) off head).by = bytesP (partsOf S key) + roomC (partsOf S key) off b := by
            unfold Bu.by
            rw [tellB_L]
            show bytesP (piE L2) = _
            rw [hL2, hq]
          have e2 : sumB (tellB (s.with_ A2 c2 L2) off head :: R) = sumB S + roomC (partsOf S key) off b := by rw [sumB, e1]; omega
          have e3 : (tellB (s.with_ A2 c2 L2) off head).kg = (key, s.g) := by
            unfold Bu.kg
            rw [tellB_key, tellB_g, ← hsk]; rfl
          refine ⟨_, _, _, _, tellB (s.with_ A2 c2 L2) off head :: R, rfl, ⟨?_, hz, by rw [e2]; omega, ?_, ?_⟩, hb, by rw [List.length_cons]; omega, ?_⟩
          · rw [e2, List.map_cons, e3]
            exact hT.perm (p4.cons _) (List.Perm.refl _)
          · have hn := h.n
            rw [List.length_cons]
            rcases hc with hp | ⟨rfl, hf, hno⟩
            · have := hp.length_eq
              rw [List.length_cons] at this
              omega
            · rcases hF with ⟨x, hx, hxk⟩ | hge
              · exact absurd hxk (hno x hx)
              · rw [hML] at hge; omega
          · intro x hx
            rcases List.mem_cons.1 hx with rfl | hx
            · rw [tellB_L]
              show L2.length ≤ N + 1
              omega
            · have := h.l x (p5 x hx); omega
          · intro x hx
            rcases List.mem_cons.1 hx with rfl | hx
            · rw [tellB_began]
              show P s.began
              rcases hc with hp | ⟨_, hf, _⟩
              · exact hP s (hp.mem_iff.2 (List.mem_cons_self ..))
              · rw [hf.2.2.2.2.1]; exact hPn
            · exact hP x (p5 x hx)
        | true =>
          have hbp : 0 ≤ bytesP (addCL (partsOf S key) ⟨off, more, b⟩) ∧ bytesP (addCL (partsOf S key) ⟨off, more, b⟩) ≤ 1000000000000 := by
            refine ⟨bytesP_nn _, ?_⟩
            have hr : Ris (partsOf S key) ∧ bytesP (partsOf S key) ≤ sumB S := by
              unfold partsOf
              cases hf : S.find? (fun s => decide (s.key = key)) with
              | none => exact ⟨Ris.nil, hnn⟩
              | some x =>
                have hx := List.mem_of_find?_eq_some hf
                exact ⟨(h.tx.bx x hx).hx.ris, sum_part hx⟩
            rw [roomC_eq hr.1 ⟨off, more, b⟩ hadd]
            show bytesP (partsOf S key) + roomC (partsOf S key) off b ≤ _
            have := hr.2
            omega
          refine (jadd_done h.tx (List.Perm.refl _) key head off now more A' c' b hA' hk hbl hoff hL htot hF (by omega) B0 hB0 h.z hroom hadd hd hbp).mono ?_
          rintro e w' ⟨v, rfl, s, R, hT, hsk, hc, hz, hb, -⟩
          obtain ⟨p1, p2, p3, p4, p5, p6, p7⟩ := h.parts hsk hc
          have hq := roomC_eq p3 ⟨off, more, b⟩ hadd
          have e2 : sumB S + roomC (partsOf S key) off b - bytesP (addCL (partsOf S key) ⟨off, more, b⟩) = sumB R := by rw [hq]; show sumB S + roomC (partsOf S key) off b - (bytesP (partsOf S key) + roomC (partsOf S key) off b) = _; omega
          rw [e2] at hT
          have := h.n
          have hpn := bytesP_nn (partsOf S key)
          exact ⟨_, _, _, _, R, rfl, ⟨hT.perm p4 (List.Perm.refl _), hz, by omega, by omega, fun x hx => Nat.le_succ_of_le (h.l x (p5 x hx))⟩, hb, by omega, fun x hx => hP x (p5 x hx)⟩
      · have hbp : 0 ≤ bytesP (partsOf S key) ∧ bytesP (partsOf S key) ≤ 1000000000000 := by
          refine ⟨bytesP_nn _, ?_⟩
          unfold partsOf
          cases hf : S.find? (fun s => decide (s.key = key)) with
          | none => show (0 : Int) ≤ _; omega
          | some x =>
            have := sum_part (List.mem_of_find?_eq_some hf)
            show x.by ≤ _
            omega
        refine (jadd_err h.tx (List.Perm.refl _) key head off now more A' c' b hA' hk hbl hoff hL htot hF B0 hB0 h.z hroom _ rfl hadd hbp).mono ?_
        rintro e w' ⟨rfl, s, R, hT, hsk, hc, hz, hb⟩
        obtain ⟨p1, p2, p3, p4, p5, p6, p7⟩ := h.parts hsk hc
        have e2 : sumB S - bytesP (partsOf S key) = sumB R := by omega
        rw [e2] at hT
        have := h.n
        exact ⟨_, _, _, _, R, rfl, ⟨hT.perm p4 (List.Perm.refl _), hz, by omega, by omega, fun x hx => Nat.le_succ_of_le (h.l x (p5 x hx))⟩, hb, by omega, fun x hx => hP x (p5 x hx)⟩
  · have hno : ∀ p ∈ S.map Bu.kg, p.1 ≠ key := fun p hp e => by
      obtain ⟨x, hx, rfl⟩ := List.mem_map.1 hp
      exact hF (.inl ⟨x, hx, e⟩)
    have hge : ((S.map Bu.kg).length : Int) ≥ mb := by
      by_cases hg : ((S.map Bu.kg).length : Int) ≥ mb
      · exact hg
      · exact absurd (.inr hg) hF
    refine (jadd_full h.tx key head off now more _ hk hno hge).mono ?_
    rintro e w' ⟨rfl, hT, hb⟩
    exact ⟨_, _, _, _, S, rfl, (h.below hb).mono (Nat.le_succ _), hb.mono hB0, Nat.le_succ _, hP⟩
end
end Go.Proofs.Ytghbliabmecbcaa

/-
  Keys of layer 16's code: the keys of the map, sorted. Conditions are each theorem's own.
-/
namespace Go.Proofs
open Go.RowKit Go.Maps Go.Sort Go.Shelf
shelf_lay_g SlLaysZ.n7 Ggz 7 at Try 52 as Try.keysA
shelf_lay_g SlLaysZ.n6 Ggz 6 at Try 51 as Try.sortedA
shelf_lay_g SlLaysM.n6 Slgm 6 at Try 38 as Try.sortA
theorem Try.sortsA (m : Nat) : AnyZ.SortsIn Try.prog Try.sortedA_ren Fence.wide m :=
  ⟨fun blk off cap ss W hH hblk hsz => callsIn_wide.2 (AnyM.slices_Sort_string Try.sortA blk off cap ss W hH hblk hsz),
   fun p cap W => callsIn_wide.2 (AnyM.slices_Sort_string_none Try.sortA p cap W)⟩
namespace Ytghbliabmecbcaa
set_option maxHeartbeats 1000000 in
set_option maxRecDepth 100000 in
theorem jkeys {w : World} {t bm : Nat} {tot mb my wt : Int} {M : List (List UInt8 × Nat)} {S : List Bu} (h : Tx w t bm tot mb my wt M S) (hM : M.length ≤ 1000000) :
    Calls Try.prog 22 #[.pointer (some ⟨t, 0, none⟩)] w fun e w' => ∃ (v : Value) (ss : List (List UInt8)), e = .returned v ∧ ss.Perm (M.map (·.1)) ∧
      w'.ownsRow w.heap.size 9 1 v ss.length ((ss.mergeSort (fun x y => decide (x ≤ y))).map encStr) ∧ (v = .slice none 0 0 ↔ ss = []) ∧ Below w.heap.size w w' := by
  have k0 := h.c0
  obtain ⟨es, hown, hp⟩ := h.map
  have hz := en_size hp
  have hmax : Maps.size (DataW.map es) ≤ maxLen := by rw [hz]; unfold maxLen; omega
  have hbytes : Maps.size (DataW.map es) * 16 ≤ 140737488355328 := by rw [hz]; omega
  have HKS : Hid (∀ ss : List (List UInt8), ss.Perm (strKeys (DataW.map es)) → ss.Perm (M.map (·.1))) := Lib.hid (fun ss hs => by
    refine hs.trans ?_
    have e1 : strKeys (DataW.map es) = es.map (fun p => strOf p.1) := rfl
    rw [e1]
    refine (hp.map _).trans ?_
    rw [List.map_map]
    exact List.Perm.of_eq rfl)
  clear h hp
  refine (callsIn_wide (n := 6)).1 ?_
  have hbl := hown.lt
  have hseq : SeqGives Fence.wide 2 Try.prog 86 #[.pointer (some ⟨w.heap.size, 0, none⟩)] encStr (fun ss => ss.Perm (strKeys (DataW.map es))) (Maps.size (DataW.map es)) (w.alloc (.cells #[.map (some bm)] 69)) :=
    AnyZ.keys_gives (ρ := Try.keysA_ren) { Try.keysA with } Fence.wide _ trivial rfl (by omega) w.heap.size bm M.length (DataW.map es) _ (by simp) (by simp) (by
      obtain ⟨es', clock, hb, Ft, hs, hD⟩ := hown
      exact ⟨es', clock, (Below.heap_alloc _ _ bm hbl).trans hb, Ft, hs, hD⟩)
  have cK : ∀ mb W, CallsIn Fence.wide 5 Try.prog 52 #[.map mb] W fun e w' => e = .returned (.func (.func 86) #[] #[.pointer (some ⟨W.heap.size, 0, none⟩)]) ∧ w' = W.alloc (.cells #[.map mb] 69) := fun mb W => AnyZ.keys_in Try.keysA Fence.wide 5 trivial rfl mb W
  have cS := AnyZ.sorted_in Try.sortedA Fence.wide 5 trivial trivial trivial trivial rfl (by omega) (Try.sortsA _) (enters_of Try.func38 (by kernel_rfl) rfl) 86 #[.pointer (some ⟨w.heap.size, 0, none⟩)] trivial (enters_of Try.func86 (by kernel_rfl) rfl) _ _ hmax hbytes _ hseq
  change CallsIn _ _ Try.prog 51 _ _ _ at cS
  have hfK : Fence.wide.fn 52 := trivial
  have hfS : Fence.wide.fn 51 := trivial
  have hfM : Fence.wide.fn 36 := trivial
  refine callsIn_of_wp Try.func22 rfl trivial ?_ rfl
  simp only [Try.ntmps22, List.size_toArray, List.length_cons, List.length_nil, Nat.reduceAdd, Nat.reduceSub, Array.replicate_succ, Array.replicate_zero, List.push_toArray, List.append_toArray, List.nil_append, List.cons_append]
  gi_wp2_with (first
    | (gi_at_call 36; refine (callsIn_wide.2 (jmade t bm _ k0)).mono ?_; rintro e w1 ⟨rfl, rfl⟩)
    | (gi_at_call 52; refine (cK _ _).mono ?_; rintro e w' ⟨rfl, rfl⟩)
    | (gi_at_call 51; refine cS.mono ?_; rintro e w' ⟨v, ss, rfl, hS, hrow, hnil, hb⟩))
  go_ret
  exact ⟨v, ss, rfl, HKS.out ss hS, ownsRow_base_a hrow (by simp), hnil, ((Below.refl _ w).alloc (Nat.le_refl _) _).trans (hb.mono (by simp))⟩
end Ytghbliabmecbcaa
end Go.Proofs

/-
  Expire of layer 16's code. Conditions are each theorem's own.
-/
namespace Go.Proofs.Ytghbliabmecbcaa
open Go.RowKit Go.Shelf Go.Maps Go.Sort
theorem pw_eqK : ∀ {l : List Bu}, l.Pairwise (fun a b => a.key ≠ b.key) → ∀ {a b : Bu}, a ∈ l → b ∈ l → a.key = b.key → a = b
  | [], _, _, _, ha, _, _ => by cases ha
  | x :: l, h, a, b, ha, hb, e => by
    obtain ⟨h1, h2⟩ := List.pairwise_cons.1 h
    rcases List.mem_cons.1 ha with rfl | ha'
    · rcases List.mem_cons.1 hb with rfl | hb'
      · rfl
      · exact absurd e (h1 b hb')
    · rcases List.mem_cons.1 hb with rfl | hb'
      · exact absurd e.symm (h1 a ha')
      · exact pw_eqK h2 ha' hb' e
theorem own_det {w : World} {b n n' : Nat} {D D' : DataW Unit} {k : TypeId} {R : Value → Option (DataW Unit × List MemPlace)} (h : w.ownsMap Try.prog k R b n D) (h' : w.ownsMap Try.prog k R b n' D') : D = D' := by
  obtain ⟨es, c, hb, F, hs, hD⟩ := h
  obtain ⟨es', c', hb', F', hs', hD'⟩ := h'
  rw [hb] at hb'
  simp only [Option.some.injEq, Obj.map.injEq] at hb'
  obtain ⟨rfl, rfl⟩ := hb'
  rw [hD, hD']
theorem ranges_kept {Z : Nat → Prop} {w w' : World} {b r n cnt : Nat} {D : DataW Unit} {k : TypeId} {R : Value → Option (DataW Unit × List MemPlace)} {left : Lit → Bool} (h : w.ranges Try.prog k R b r n D left cnt) (hk : Kept Z w w') (hb : ¬ Z b) (hr : ¬ Z r) : w'.ranges Try.prog k R b r n D left cnt := by
  have h1 := h.owns.lt
  have h2 := h.lt
  obtain ⟨es, clock, since, seen, c0, hb', F, hs, hD, hr', rest⟩ := h
  exact ⟨es, clock, since, seen, c0, (hk.block b h1 hb).trans hb', F, hs, hD, (hk.block r h2 hr).trans hr', rest⟩
theorem keyOf_sq {key : Value} {kl : Lit} (h : keyOf Try.prog 9 key = some kl) : ∃ x : List UInt8, key = sq x ∧ kl = .string x ∧ x.length ≤ maxLen := by
  cases key <;> simp [keyOf, Try.underlying9, mapKey] at h
  rename_i s
  refine ⟨s.data.toList, ?_, h.2.symm, ?_⟩
  · unfold sq strB; simp
  · simpa using h.1
theorem ptr_any {v : Value} {y : DataW Unit × List MemPlace} (h : ptrElem v = some y) : ∃ o : Option Nat, v = .pointer (o.map fun g => ⟨g, 0, none⟩) := by
  unfold ptrElem at h
  split at h
  · exact ⟨none, rfl⟩
  · exact ⟨some _, rfl⟩
  · cases h
/-- A table, while blocks that are none of its own are written. -/
theorem Tx.awayP {Z : Nat → Prop} {U : TypeId → Prop} {w w' : World} {t bm : Nat} {tot mb my wt : Int} {M : List (List UInt8 × Nat)} {S : List Bu} (h : Tx w t bm tot mb my wt M S) (k : Kept Z w w') (ha : AwayT w Z U)
    (h0 : ¬ U 71) (h1 : ¬ U 133) (h2 : ¬ U 128) (h3 : ¬ U 5) (h4 : ¬ U 75) (hb : ¬ Z bm) : Tx w' t bm tot mb my wt M S := by
  obtain ⟨es, hm, hp⟩ := h.map
  exact ⟨(k.block t (heap_lt h.obj) (fun s => h0 (ha t s _ _ _ h.obj))).trans h.obj, ⟨es, own_map_kept hm k hb, hp⟩, h.ndm, h.nd, h.len,
    fun s hs => (h.bx s hs).keptA k ha h1 h2 h3 (fun z => h4 (ha s.g z _ _ _ (h.bx s hs).obj)), h.ap⟩
def TStr (t : TypeId) : Prop := t = 9
theorem ts_no : ¬ TStr 71 ∧ ¬ TStr 133 ∧ ¬ TStr 128 ∧ ¬ TStr 5 ∧ ¬ TStr 75 := by
  refine ⟨?_, ?_, ?_, ?_, ?_⟩ <;> (intro h; exact absurd h (nat_ne (by kernel_rfl)))
theorem tt_str : ¬ TT 9 := fun h => absurd h (nat_ne (by kernel_rfl))
theorem info_sq : (Try.prog.info? 9).map (fun i => (i.zero, i.size, i.bytes)) = some (some (.string ByteArray.empty), 1, 16) := by kernel_rfl
theorem append_sq {w : World} {ops : Array Oper} {rest : List Oper} {o : Oper} {a : Act} {Q : Exit → Act → World → Prop} (hgd : o.guard = none) (s x : Operand)
    (ho : o.op = .call { callee := .builtin .append, args := #[s, x], argTypes := #[36, 36] })
    (base : Nat) (v : Value) (n : Nat) (ls : List (List UInt8)) (hs : a.eval s = v) (hown : w.ownsRow base 9 1 v n (ls.map sq))
    (g : Nat) (y : List UInt8) (hx : a.eval x = .slice (some ⟨g, 0, none⟩) 1 1) (hy : w.cell? ⟨g, 0, none⟩ = some (sq y))
    (hlen : n ≤ 1000000) (hbase : base ≤ w.heap.size)
    (h : ∀ v' w', w'.ownsRow base 9 1 v' (n + 1) ((ls ++ [y]).map sq) → w.grownBy w' v.ownBlock → wpList Try.prog ops Q rest (a.put o.dst v') w') : wpList Try.prog ops Q (o :: rest) a w := by
  obtain ⟨i0, hi, hz0, hz1, hz2⟩ := info_parts info_sq
  refine wpList_append_own w hgd s x 36 ho base 9 i0 (.string ByteArray.empty) 1 16 Try.underlying36 hi hz0 hz1 hz2 rfl (by decide) v n (ls.map sq) hs hown ⟨g, 0, none⟩ 1 1 [sq y] hx
      rfl (fun j u hu => ?_) (by intro u hu; simp only [List.mem_singleton] at hu; subst hu; rfl) (by unfold maxLen; omega) (by omega) hbase (fun v' w' h1 h2 _ => h v' w' (by simpa using h1) h2)
  have hj : j = 0 := by have := (List.getElem?_eq_some_iff.1 hu).1; simp at this; exact this
  subst hj
  simp only [List.getElem?_cons_zero, Option.some.injEq] at hu
  rw [← hu, add_off]; exact hy

/-- The step of a range over a table's map: a buffer comes. -/
theorem wpList_next_buf {w : World} {ops : Array Oper} {rest : List Oper} {o : Oper} {a : Act} {Q : Exit → Act → World → Prop} (hg : o.guard = none) (it : Operand) (hop : o.op = Op.next it false)
    {t bm r n cnt : Nat} {tot mb my wt : Int} {R S : List Bu} {D : DataW Unit} {left : Lit → Bool} (hT : Tx w t bm tot mb my wt (R.map Bu.kg) S) (h : w.ranges Try.prog 9 ptrElem bm r n D left cnt)
    (hit : a.eval it = .pointer (some ⟨r, 0, none⟩))
    (hDone : cnt = 0 → (∀ kl, left kl = false) → wpList Try.prog ops Q rest (a.put o.dst (.tuple #[.bool false])) w)
    (hMore : ∀ (s : Bu) (w' : World) (cnt' : Nat), s ∈ R → left (.string s.key) = true → w'.ranges Try.prog 9 ptrElem bm r n D (fun z => left z && !z.sameKey (.string s.key)) cnt' → cnt' < cnt →
      w.grownBy w' (some r) → w'.heap.size = w.heap.size → (Instr.entry (.pointer (some ⟨r, 0, none⟩))).run Try.prog w' = .ok (.tuple #[sq s.key, .pointer (some ⟨s.g, 0, none⟩)]) w' →
      wpList Try.prog ops Q rest (a.put o.dst (.tuple #[.bool true, sq s.key, .pointer (some ⟨s.g, 0, none⟩)])) w') :
    wpList Try.prog ops Q (o :: rest) a w := by
  refine wpList_next_ranges w hg it hop 9 klaw ptrElem sq (fun o : Option Nat => .pointer (o.map fun g => ⟨g, 0, none⟩)) (fun key kl hk => by obtain ⟨x, e, _⟩ := keyOf_sq hk; exact ⟨x, e⟩) (fun v y hv => ptr_any hv) bm r n D left cnt hit h hDone
    (fun x c kl y w' cnt' hkx hlx hR hat hrg hlt hgr hsz hen => ?_)
  obtain ⟨x', ex, ekl, _⟩ := keyOf_sq hkx
  have e1 : x = x' := by
    have e2 : strB x = strB x' := by unfold sq at ex; injection ex
    have e3 := congrArg (fun b => b.data.toList) e2
    simpa [strB] using e3
  subst e1
  subst ekl
  obtain ⟨es, hm, hp⟩ := hT.map
  obtain rfl : D = .map es := own_det h.owns hm
  by_cases hin : ∃ p ∈ R.map Bu.kg, p.1 = x
  · obtain ⟨p, hpm, hpx⟩ := hin
    obtain ⟨s, hs, rfl⟩ := List.mem_map.1 hpm
    have h1 := en_at hp hT.ndm hpm (.lit (.int .i64 0))
    rw [hpx, hat] at h1
    have hc : (Value.pointer (c.map fun g => ⟨g, 0, none⟩)) = .pointer (some ⟨s.g, 0, none⟩) := by
      obtain ⟨y1, y2⟩ := y
      simp only at h1
      rw [h1] at hR
      exact ptr_inv hR
    have hsx : s.key = x := hpx
    subst hsx
    rw [hc] at hen ⊢
    exact hMore s w' cnt' hs hlx hrg hlt hgr hsz hen
  · exfalso
    have hno : ∀ p ∈ R.map Bu.kg, p.1 ≠ x := fun p hp' e => hin ⟨p, hp', e⟩
    have h1 := en_none hp hno (.lit (.int .i64 0))
    have h2 := en_none hp hno (.lit (.int .i64 1))
    rw [hat] at h1 h2
    rw [h1] at h2
    simp at h2

section
variable {w : World} {t bm : Nat} {tot mb my wt : Int} {M : List (List UInt8 × Nat)} {S : List Bu}
set_option maxRecDepth 100000 in
theorem jdropR {r n cnt : Nat} {D : DataW Unit} {left : Lit → Bool} (hrg : w.ranges Try.prog 9 ptrElem bm r n D left cnt) (hT : Tx w t bm tot mb my wt M S) (s : Bu) (hb : Bx w s) (hk : s.key.length ≤ maxLen) (ht0 : 0 ≤ tot ∧ tot ≤ 1000000000000) (hs0 : 0 ≤ s.by ∧ s.by ≤ 1000000000000) :
    Calls Try.prog 37 #[.pointer (some ⟨t, 0, none⟩), sq s.key, .pointer (some ⟨s.g, 0, none⟩)] w fun e w' =>
      e = .returned (.tuple #[]) ∧ Tx w' t bm (tot - s.by) mb my wt (withoutM s.key M) S ∧ Kept (fun k => k = t ∨ k = bm) w w' ∧ ∃ cnt', w'.ranges Try.prog 9 ptrElem bm r n (D.del (.string s.key)) (fun z => left z && !z.sameKey (.string s.key)) cnt' ∧ cnt' ≤ cnt := by
  have HRG := Lib.hid hrg
  clear hrg
  have ht := hT.obj
  have htz := heap_lt ht
  have hg := hb.obj
  have hgz := heap_lt hg
  have HW : Hid (IntKind.i64.wrap (tot - s.by) = tot - s.by) := Lib.hid (IntWalk.i64_in _ (by omega))
  have HT := Lib.hid hT
  clear hT
  unfold sq
  go_enter Try.func37, Try.ntmps37
  go_upto_region 0 with fail
  refine regionY 10 (fun w' => Below w.heap.size w w') (by kernel_rfl) ?_
  have hS := (Below.refl w.heap.size w).drew
  generalize w.drew = w8 at *
  refine pureY (i := 0) (oi := ⟨some 6, _, _, _, _, _⟩) rfl (by kernel_rfl) (by kernel_rfl) (by kernel_rfl) (by kernel_rfl) (by kernel_rfl) (fun _ _ _ h => h) (by rfl) (v := ?_) (fun w hSw => ?_) hS ?_
  rotate_left
  · go_simp; try with_reducible rfl
  try go_frame
  refine pureY (i := 1) (oi := ⟨some 7, _, _, _, _, _⟩) rfl (by kernel_rfl) (by kernel_rfl) (by kernel_rfl) (by kernel_rfl) (by kernel_rfl) (fun _ _ _ h => h) (by rfl) (v := ?_) (fun w hSw => ?_) hS ?_
  rotate_left
  · go_simp; try with_reducible rfl
  try go_frame
  refine pureY (i := 2) (oi := ⟨some 8, _, _, _, _, _⟩) rfl (by kernel_rfl) (by kernel_rfl) (by kernel_rfl) (by kernel_rfl) (by kernel_rfl) (fun _ _ _ h => h) (by rfl) (v := ?_) (fun w hSw => ?_) hS ?_
  rotate_left
  · go_simp; try with_reducible rfl
  try go_frame
  refine pureY (i := 3) (oi := ⟨some 9, _, _, _, _, _⟩) rfl (by kernel_rfl) (by kernel_rfl) (by kernel_rfl) (by kernel_rfl) (by kernel_rfl) (fun _ _ _ h => h) (by rfl) (fun w hSw => run_load_int rfl rfl (cells_at (i := 1) ((hSw.block t htz).trans ht) rfl)) hS ?_
  try go_frame
  refine pureY (i := 4) (oi := ⟨some 10, _, _, _, _, _⟩) rfl (by kernel_rfl) (by kernel_rfl) (by kernel_rfl) (by kernel_rfl) (by kernel_rfl) (fun _ _ _ h => h) (by rfl) (v := ?_) (fun w hSw => ?_) hS ?_
  rotate_left
  · go_simp; try with_reducible rfl
  try go_frame
  refine pureY (i := 5) (oi := ⟨some 11, _, _, _, _, _⟩) rfl (by kernel_rfl) (by kernel_rfl) (by kernel_rfl) (by kernel_rfl) (by kernel_rfl) (fun _ _ _ h => h) (by rfl) (v := ?_) (fun w hSw => ?_) hS ?_
  rotate_left
  · go_simp; try with_reducible rfl
  try go_frame
  refine pureY (i := 6) (oi := ⟨some 12, _, _, _, _, _⟩) rfl (by kernel_rfl) (by kernel_rfl) (by kernel_rfl) (by kernel_rfl) (by kernel_rfl) (fun _ _ _ h => h) (by rfl) (v := ?_) (fun w hSw => ?_) hS ?_
  rotate_left
  · go_simp; try with_reducible rfl
  try go_frame
  refine pureY (i := 7) (oi := ⟨some 13, _, _, _, _, _⟩) rfl (by kernel_rfl) (by kernel_rfl) (by kernel_rfl) (by kernel_rfl) (by kernel_rfl) (fun _ _ _ h => h) (by rfl) (fun w hSw => run_load_hptr rfl rfl (cells_at (i := 0) ((hSw.block s.g hgz).trans hg) rfl)) hS ?_
  try go_frame
  refine oneY (i := 8) (oi := ⟨some 14, _, _, _, _, _⟩) (by kernel_rfl) rfl (by rfl) (fun K hK => ?_)
  refine callI (f := 67) (args := #[.pointer (some ⟨s.h, 0, none⟩)]) (by go_simp; try rfl) ?_
  refine (hcbytes s.h s.A s.c s.L _ (hb.hx.below hS)).mono ?_
  rintro e w8 ⟨rfl, rfl⟩
  refine ⟨_, rfl, ?_⟩
  refine hK _ _ (fun _ => hS) ?_
  clear hK K
  try go_frame
  try go_frame
  refine pureY (i := 9) (oi := ⟨some 15, _, _, _, _, _⟩) rfl (by kernel_rfl) (by kernel_rfl) (by kernel_rfl) (by kernel_rfl) (by kernel_rfl) (fun _ _ _ h => h) (by rfl) (v := .int .i64 (tot - s.by)) (fun w hSw => by go_simp; try exact HW.out) hS ?_
  try go_frame
  refine oneY (i := 10) (oi := ⟨some 16, _, _, _, _, _⟩) (by kernel_rfl) rfl (by rfl) (fun K hK => ?_)
  refine valI (v := ?_) ?_ ?_
  rotate_left
  · go_simp; try with_reducible rfl
  refine hK _ _ (fun h => absurd h (by decide)) ?_
  clear hK K
  try go_frame
  refine oneY (i := 11) (oi := ⟨some 17, _, _, _, _, _⟩) (by kernel_rfl) rfl (by rfl) (fun K hK => ?_)
  refine valI (v := ?_) ?_ ?_
  rotate_left
  · go_simp; try with_reducible rfl
  refine hK _ _ (fun h => absurd h (by decide)) ?_
  clear hK K
  try go_frame
  refine oneY (i := 12) (oi := ⟨none, _, _, _, _, _⟩) (by kernel_rfl) rfl (by rfl) (fun K hK => ?_)
  have hht := ((hS.block t htz).trans ht)
  have kk := cells_at (i := 1) hht rfl
  have ff := heap_frozen hht 1
  refine store_intI rfl rfl rfl kk ff ?_
  have h2 : (w8.setCell ⟨t, 1, none⟩ (.int .i64 (tot - s.by))).heap[t]? = some (.cells #[.map (some bm), .int .i64 (tot - s.by), .int .i64 mb, .int .i64 my, .int .i64 wt] 71 (0, 0)) := heap_setCell_same _ t 1 _ _ (.int .i64 (tot - s.by)) hht
  have K1 : Kept (fun k => k = t) w (w8.setCell ⟨t, 1, none⟩ (.int .i64 (tot - s.by))) := (Kept.of_below hS).trans (Kept.setCell w8 t 1 _) (fun _ _ h => h)
  clear kk ff hht
  refine hK _ _ (fun h => absurd h (by decide)) ?_
  clear hK K
  generalize w8.setCell ⟨t, 1, none⟩ (.int .i64 (tot - s.by)) = W2 at *
  try go_frame
  try go_frame
  refine doneY (by kernel_rfl) ?_ _
  obtain ⟨es, hown0, hp⟩ := HT.out.map
  have hrg0 := HRG.out
  obtain rfl : D = .map es := own_det hrg0.owns hown0
  have hrT : r ≠ t := fun e => by
    obtain ⟨_, _, _, _, _, _, _, _, _, hr, _⟩ := hrg0
    rw [e, ht] at hr
    cases hr
  have hrg := ranges_kept hrg0 K1 (fun e => HT.out.ne e) hrT
  have k0 : W2.cell? ⟨t, 0, none⟩ = some (.map (some bm)) := cells_at h2 rfl
  obtain ⟨es', hdel, hp'⟩ := en_delW hp s.key
  have HDEL := Lib.hid hdel
  clear hdel hp hown0
  go_wp2_with (at_delete; refine wpList_delete_ranges _ rfl _ _ 69 9 rfl 72 klaw Try.underlying69 ptrElem bm r n _ left cnt rfl hrg _ _ rfl (kkey s.key hk) ?_; intro w3 cnt3 hrg3 hle3 hturn3; go_frame)
  have hK3 := Kept.of_turned hturn3
  have hKK : Kept (fun k => k = t ∨ k = bm) w w3 := ((K1.mono (T := fun k => k = t ∨ k = bm) (fun _ _ h => .inl h)).trans hK3 (fun _ _ h => .inr h))
  have hown3 := hrg3.owns
  rw [HDEL.out] at hown3
  refine bodyPost_end (results_none rfl _ _ _) rfl ⟨rfl, HT.out.turn hKK ((hK3.block t (heap_lt h2) (fun e => HT.out.ne e.symm)).trans h2) ⟨es', ?_, hp'⟩ (withoutM_nd HT.out.ndm), hKK, cnt3, hrg3, hle3⟩
  have := own_exact hown3
  rwa [hp'.length_eq, List.length_map] at this

end
/-- How far a round of Expire has come: G have gone, R are there. -/
structure ExI (w wr : World) (t bm r : Nat) (mb my wt lim : Int) (S : List Bu) (v : Value) (left : Lit → Bool) (cnt : Nat) (ks : List (List UInt8)) (G R : List Bu) : Prop where
  tx : Tx wr t bm (sumB R) mb my wt (R.map Bu.kg) S
  rg : ∃ n D, wr.ranges Try.prog 9 ptrElem bm r n D left cnt
  pm : S.Perm (G ++ R)
  ex : ∀ s ∈ G, s.began ≤ lim
  al : ∀ s ∈ R, s.began ≤ lim → left (.string s.key) = true
  row : wr.ownsRow r 9 1 v ks.length (ks.map sq)
  kk : ks = G.map (·.key)
  kp : Kept (fun k => k = t ∨ k = bm) w wr
theorem iter_not_cells {w : World} {b r n cnt : Nat} {D : DataW Unit} {k : TypeId} {R : Value → Option (DataW Unit × List MemPlace)} {left : Lit → Bool} (h : w.ranges Try.prog k R b r n D left cnt) {cs : Array Value} {ty : TypeId} {fr : Nat × Nat} : w.heap[r]? ≠ some (.cells cs ty fr) := by
  obtain ⟨_, _, _, _, _, _, _, _, _, hr, _⟩ := h
  intro h2
  rw [hr] at h2
  cases h2
section
variable {w wr w1 : World} {t bm r : Nat} {mb my wt lim : Int} {S G R : List Bu} {v : Value} {left : Lit → Bool} {cnt : Nat} {ks : List (List UInt8)}
/-- The iterator alone has turned. -/
theorem ExI.step (h : ExI w wr t bm r mb my wt lim S v left cnt ks G R) (hr : w.heap.size ≤ r) {n : Nat} {D : DataW Unit} {left' : Lit → Bool} {cnt' : Nat} (_ : w1.ranges Try.prog 9 ptrElem bm r n D left' cnt') (hg : wr.grownBy w1 (some r)) (hbm : bm ≠ r) :
    Tx w1 t bm (sumB R) mb my wt (R.map Bu.kg) S ∧ w1.ownsRow r 9 1 v ks.length (ks.map sq) ∧ Kept (fun k => k = t ∨ k = bm) w w1 := by
  obtain ⟨n0, D0, hrg0⟩ := h.rg
  have hk := Kept.of_grown hg
  have ha : AwayT wr (fun k => some k = some r) (fun _ => False) := fun k hk cs ty fr hg => by
    injection hk with hk
    rw [hk] at hg
    exact absurd hg (iter_not_cells hrg0)
  refine ⟨h.tx.awayP hk ha id id id id id (fun e => hbm (by injection e)), own_keptA h.row hk ha id, h.kp.trans hk (fun i hi e => ?_)⟩
  injection e with e
  omega
end
theorem own_nil_str (w : World) (B : Nat) : w.ownsRow B 9 1 (.slice none 0 0) ([] : List (List UInt8)).length (([] : List (List UInt8)).map sq) := ⟨rfl, .inl ⟨rfl, rfl⟩⟩
theorem own_away {V : World} {base n : Nat} {v : Value} {xs : List Value} (h : V.ownsRow base 9 1 v n xs) : AwayT V (fun k => some k = v.ownBlock) TStr := fun k hk cs ty fr hg => by
  rcases h.2 with ⟨e1, _⟩ | ⟨g, cap, cur, e1, _, hgb, _⟩
  · rw [e1] at hk; cases hk
  · rw [e1] at hk
    injection hk with hk
    rw [hk] at hg
    have := hgb.symm.trans hg
    simp only [Option.some.injEq, Obj.cells.injEq] at this
    exact this.2.1.symm
theorem own_cells {V : World} {base n : Nat} {v : Value} {xs : List Value} (h : V.ownsRow base 9 1 v n xs) {k : Nat} (hk : some k = v.ownBlock) : (∃ cs ty fr, V.heap[k]? = some (.cells cs ty fr)) ∧ base ≤ k := by
  rcases h.2 with ⟨e1, _⟩ | ⟨g, cap, cur, e1, hb, hgb, _⟩
  · rw [e1] at hk; cases hk
  · rw [e1] at hk
    injection hk with hk
    rw [hk]
    exact ⟨⟨_, _, _, hgb⟩, hb⟩
theorem Tx.awayTT {w : World} {t bm : Nat} {tot mb my wt : Int} {M : List (List UInt8 × Nat)} {S : List Bu} (h : Tx w t bm tot mb my wt M S) : AwayT w (fun k => k = t ∨ k = bm) TT := fun k hk cs ty fr hg => by
  rcases hk with rfl | rfl
  · have := h.obj.symm.trans hg
    simp only [Option.some.injEq, Obj.cells.injEq] at this
    exact this.2.1.symm
  · obtain ⟨es, hm', _⟩ := h.map
    exact absurd hg (map_is hm')
theorem sq_enc : (sq : List UInt8 → Value) = encStr := by funext x; rfl
theorem sumB_app : ∀ G R : List Bu, sumB (G ++ R) = sumB G + sumB R
  | [], R => by show sumB R = 0 + sumB R; omega
  | s :: G, R => by rw [List.cons_append, sumB, sumB, sumB_app G R]; omega
section
variable {w wr : World} {B0 t bm N r : Nat} {mb my wt lim : Int} {S G R : List Bu} {v : Value} {left : Lit → Bool} {cnt : Nat} {ks : List (List UInt8)}
/-- A table without those that have gone. -/
theorem Jv.gone (h : Jv w B0 t bm mb my wt N S) (hp : S.Perm (G ++ R)) (hT : Tx wr t bm (sumB R) mb my wt (R.map Bu.kg) S) : Jv wr B0 t bm mb my wt N R := by
  have hs : ∀ s ∈ R, s ∈ S := fun s hs => hp.mem_iff.2 (List.mem_append.2 (.inr hs))
  have h1 := sumB_perm hp
  rw [sumB_app] at h1
  have h2 := sumB_nn G
  have h3 := h.by_
  have h4 := h.n
  have h5 := hp.length_eq
  rw [List.length_append] at h5
  exact ⟨(hT.perm (List.Perm.refl _) hp).sub (List.sublist_append_right G R), ⟨h.z.1, h.z.2.1, fun s hm => h.z.2.2 s (hs s hm)⟩, by omega, by omega, fun s hm => h.l s (hs s hm)⟩
theorem ExI.nd (h : ExI w wr t bm r mb my wt lim S v left cnt ks G R) : R.Pairwise (fun a b => a.key ≠ b.key) :=
  (h.pm.pairwise h.tx.nd (fun e => e.symm)).sublist (List.sublist_append_right G R)
/-- One that is there stays. -/
theorem ExI.stay (h : ExI w wr t bm r mb my wt lim S v left cnt ks G R) {s : Bu} (hs : s ∈ R) (hb : ¬ s.began ≤ lim) : ∀ x ∈ R, x.began ≤ lim → (left (.string x.key) && !(Lit.string x.key).sameKey (.string s.key)) = true := fun x hx hxb => by
  have hne : x.key ≠ s.key := fun e => by
    have := pw_eqK h.nd hx hs e
    rw [this] at hxb
    exact hb hxb
  rw [h.al x hx hxb, same_str, decide_eq_false hne]
  rfl
/-- One that is there goes. -/
theorem ExI.goes (h : ExI w wr t bm r mb my wt lim S v left cnt ks G R) {s : Bu} (hs : s ∈ R) : ∃ R', R.Perm (s :: R') ∧ S.Perm ((G ++ [s]) ++ R') ∧ sumB R - s.by = sumB R' ∧ (withoutM s.key (R.map Bu.kg)).Perm (R'.map Bu.kg) ∧
    (∀ x ∈ R', x.began ≤ lim → (left (.string x.key) && !(Lit.string x.key).sameKey (.string s.key)) = true) := by
  obtain ⟨R1, R2, e⟩ := List.append_of_mem hs
  have hp : R.Perm (s :: (R1 ++ R2)) := by rw [e]; exact List.perm_middle
  have nd := hp.pairwise h.nd (fun e => e.symm)
  refine ⟨R1 ++ R2, hp, ?_, ?_, withoutM_perm (List.Perm.refl _) hp rfl nd, fun x hx hxb => ?_⟩
  · rw [List.append_assoc]
    exact h.pm.trans (List.Perm.append_left G hp)
  · rw [sumB_perm hp, sumB]; omega
  · have hne : x.key ≠ s.key := fun e => (List.pairwise_cons.1 nd).1 x hx e.symm
    rw [h.al x (hp.mem_iff.2 (List.mem_cons_of_mem _ hx)) hxb, same_str, decide_eq_false hne]
    rfl
end
/-- What Expire leaves. -/
def ExpOut (w : World) (B0 t bm : Nat) (mb my wt now : Int) (N : Nat) (S : List Bu) (e : Ending) (w' : World) : Prop :=
  ∃ (v : Value) (ks : List (List UInt8)) (G R : List Bu), e = .returned v ∧ ks = G.map (·.key) ∧ S.Perm (G ++ R) ∧ (∀ s ∈ G, s.began ≤ now - wt) ∧ (∀ s ∈ R, ¬ s.began ≤ now - wt) ∧
      w'.ownsRow w.heap.size 9 1 v ks.length ((ks.mergeSort (fun x y => decide (x ≤ y))).map sq) ∧ Jv w' B0 t bm mb my wt N R ∧ Below B0 w w'
set_option maxHeartbeats 1000000 in
set_option maxRecDepth 100000 in
theorem jexpire {w : World} {B0 t bm N : Nat} {mb my wt now : Int} {S : List Bu} (h : Jv w B0 t bm mb my wt N S) (hmy : my ≤ 10000000000) (hS : S.length ≤ 1000000) (hwt : 0 ≤ wt ∧ wt ≤ now) (hnow : now ≤ 9223372036854775807) (hB0 : B0 ≤ w.heap.size) :
    Calls Try.prog 14 #[.pointer (some ⟨t, 0, none⟩), .int .i64 now] w fun e w' => ExpOut w B0 t bm mb my wt now N S e w' := by
  have HJ := Lib.hid h
  have hT := h.tx
  have k0 := hT.c0
  have ht := hT.obj
  have kw : w.cell? ⟨t, 4, none⟩ = some (.int .i64 wt) := cells_at (i := 4) ht rfl
  obtain ⟨es, hown, hp⟩ := hT.map
  have HWR : Hid (IntKind.i64.wrap (now - wt) = now - wt) := Lib.hid (IntWalk.i64_in _ (by omega))
  have hno : decide (now < wt) = false := decide_eq_false (by omega)
  have hbl := hown.lt
  have hsum := sumB_nn S
  have hby := h.by_
  obtain ⟨W, hW⟩ : ∃ W, W = w.heap.size := ⟨_, rfl⟩
  have HWz := Lib.hid hW
  have hW1 : W ≤ w.heap.size := by omega
  have hW2 : w.heap.size ≤ W := by omega
  have HT := Lib.hid hT
  have HP := Lib.hid hp
  clear h hT hp hW
  go_enter Try.func14, Try.ntmps14
  go_wp2_with (first
    | (go_at_call 36; refine (jmade t bm _ k0).mono ?_; rintro e w1 ⟨rfl, rfl⟩)
    | (at_range; refine wpList_range_own _ rfl _ 69 rfl 9 72 klaw Try.underlying69 ptrElem bm (S.map Bu.kg).length _ rfl hown ?_; intro w0 hrg0 hg0 hs0)
    | go_in)
  go_frame
  rw [← HWz.out] at hrg0 ⊢
  have hbmW : bm ≠ W := by omega
  go_loopw [5] (fun v wr => ∃ left cnt ks G R, Hid (ExI w wr t bm W mb my wt (now - wt) S v left cnt ks G R)) (fun _ wr => wr.rangeLeft bm W)
  case atStart =>
    refine ⟨_, _, [], [], S, Lib.hid ⟨HT.out.below ((Below.refl _ _).grown hg0 (Nat.le_refl _) (fun k e => (by cases e))), ⟨_, _, hrg0⟩, List.Perm.refl _, (fun s hs => (by cases hs)), (fun s hs _ => ?_), own_nil_str _ _, rfl, Kept.of_below ((Below.refl _ _).grown hg0 (Nat.le_refl _) (fun k e => (by cases e)))⟩⟩
    rw [en_has HP.out]
    exact List.any_eq_true.2 ⟨s.kg, List.mem_map.2 ⟨s, hs, rfl⟩, by simp [Bu.kg]⟩
  case round =>
    clear hrg0 hg0 hs0
    obtain ⟨left, cnt, ks, G, R, HE⟩ := hrel
    obtain ⟨n1, D1, hrg⟩ := HE.out.rg
    have hTr := HE.out.tx
    go_wp2_with (first
      | (at_next; refine wpList_next_buf rfl _ rfl hTr hrg rfl ?_ ?_)
      | go_in)
    · -- nothing is left
      intro _ hl0
      have hal : ∀ s ∈ R, ¬ s.began ≤ now - wt := fun s hs hb => by
        have := HE.out.al s hs hb
        rw [hl0] at this
        cases this
      have HA := Lib.hid hal
      rcases HE.out.row.2 with ⟨e1, h0⟩ | ⟨gb, cap, cur, e1, hbase, hgb, r1, r2, r3, r4⟩
      · subst e1
        have cS := AnyM.slices_Sort_string_none Try.sortA none 0 wr
        change Calls Try.prog 38 _ _ _ at cS
        go_wp2_with (go_at_call 38; refine cS.mono ?_; rintro e w' ⟨rfl, rfl⟩)
        go_ret
        have hks : ks = [] := List.eq_nil_of_length_eq_zero h0
        refine ⟨_, ks, G, R, rfl, HE.out.kk, HE.out.pm, HE.out.ex, (fun s hs => by have := HA.out s hs; omega), ?_, HJ.out.gone HE.out.pm hTr, HE.out.kp.below hB0 (fun i hi => by rcases hi with rfl | rfl; exact HJ.out.z.1; exact HJ.out.z.2.1)⟩
        rw [hks, List.mergeSort_nil, ← HWz.out]
        exact own_nil_str _ _
      · subst e1
        have hH : Go.Sort.Holds encStr wr gb 0 ks.toArray := holds_of_block hgb (by rw [sq_enc] at r4; simpa using r4)
        have hgl : gb < wr.heap.size := heap_lt hgb
        have hkl : ks.length ≤ 1000000 := by
          have h1 := HE.out.kk
          have h2 := HE.out.pm.length_eq
          rw [List.length_append] at h2
          rw [h1, List.length_map]; omega
        have cS := AnyM.slices_Sort_string Try.sortA gb 0 cap ks wr hH hgl (by omega)
        change Calls Try.prog 38 _ _ _ at cS
        go_wp2_with (go_at_call 38; refine cS.mono ?_; rintro e w' ⟨rfl, nn, os, rfl⟩)
        go_ret
        have hg := grownBy_sorted (w := wr) (g := gb) (n := nn) (os := os) (ks.mergeSort fun x y => decide (x ≤ y)).toArray
        have hZ := Kept.of_grown hg
        have haw := own_away HE.out.row
        have hbmg : ¬ some bm = some gb := fun e => by
          injection e with e
          rw [e] at hown
          obtain ⟨es8, hm8, _⟩ := hTr.map
          rw [e] at hm8
          exact map_is hm8 hgb
        refine ⟨_, ks, G, R, rfl, HE.out.kk, HE.out.pm, HE.out.ex, (fun s hs => by have := HA.out s hs; omega), ?_, HJ.out.gone HE.out.pm (hTr.awayP hZ haw ts_no.1 ts_no.2.1 ts_no.2.2.1 ts_no.2.2.2.1 ts_no.2.2.2.2 hbmg), ?_⟩
        · rw [← HWz.out, sq_enc]
          exact ownsRow_sorted (by simp) hbase hgb r1 r2 r3
        · exact (HE.out.kp.trans hZ (fun i hi e => by injection e with e; omega)).below hB0 (fun i hi => by rcases hi with rfl | rfl; exact HJ.out.z.1; exact HJ.out.z.2.1)
    · intro s w1 cnt1 hsR hlx hrg1 hlt hg1 hs1 hen
      obtain ⟨hT1, hrow1, hk1⟩ := HE.out.step (by omega) hrg1 hg1 hbmW
      have hSm : s ∈ S := HE.out.pm.mem_iff.2 (List.mem_append.2 (.inr hsR))
      have hbx := hT1.bx s hSm
      have hgz := heap_lt hbx.obj
      have htz := heap_lt hT1.obj
      have KB : Hid (∀ V, Below w1.heap.size w1 V → V.cell? ⟨s.g, 1, none⟩ = some (.int .i64 s.began)) := Lib.hid fun V hV => (hV.cell (p := ⟨s.g, 1, none⟩) hgz).trans (cells_at (i := 1) hbx.obj rfl)
      have KW : Hid (∀ V, Below w1.heap.size w1 V → V.cell? ⟨t, 4, none⟩ = some (.int .i64 wt)) := Lib.hid fun V hV => (hV.cell (p := ⟨t, 4, none⟩) htz).trans (cells_at (i := 4) hT1.obj rfl)
      go_upto_region 7 with fail
      refine wp_region_held_drew (S := fun w' => Below w1.heap.size w1 w') (by kernel_rfl) (Below.refl _ _).drew (fun hS => ?_)
      refine held_pure (i := 0) (oi := ⟨some 29, _, _, _, _, _⟩) rfl (by kernel_rfl) (by kernel_rfl) (by kernel_rfl) (fun _ _ _ h => h) (by rfl) (v := ?_) (fun w hSw => ?_) hS (fun hS => ?_)
      rotate_left
      · go_simp; try with_reducible rfl
      try go_frame
      refine held_pure (i := 1) (oi := ⟨some 30, _, _, _, _, _⟩) rfl (by kernel_rfl) (by kernel_rfl) (by kernel_rfl) (fun _ _ _ h => h) (by rfl) (v := ?_) (fun w hSw => ?_) hS (fun hS => ?_)
      rotate_left
      · go_simp; try with_reducible rfl
      try go_frame
      refine held_pure (i := 2) (oi := ⟨some 31, _, _, _, _, _⟩) rfl (by kernel_rfl) (by kernel_rfl) (by kernel_rfl) (fun _ _ _ h => h) (by rfl) (v := ?_) (fun w hSw => ?_) hS (fun hS => ?_)
      rotate_left
      · go_simp; try with_reducible rfl
      try go_frame
      refine held_pure (i := 3) (oi := ⟨some 32, _, _, _, _, _⟩) rfl (by kernel_rfl) (by kernel_rfl) (by kernel_rfl) (fun _ _ _ h => h) (by rfl) (fun w hSw => run_load_int rfl rfl (KB.out _ hSw)) hS (fun hS => ?_)
      try go_frame
      refine held_pure (i := 4) (oi := ⟨some 33, _, _, _, _, _⟩) rfl (by kernel_rfl) (by kernel_rfl) (by kernel_rfl) (fun _ _ _ h => h) (by rfl) (v := ?_) (fun w hSw => ?_) hS (fun hS => ?_)
      rotate_left
      · go_simp; try with_reducible rfl
      try go_frame
      refine held_pure (i := 5) (oi := ⟨some 34, _, _, _, _, _⟩) rfl (by kernel_rfl) (by kernel_rfl) (by kernel_rfl) (fun _ _ _ h => h) (by rfl) (v := ?_) (fun w hSw => ?_) hS (fun hS => ?_)
      rotate_left
      · go_simp; try with_reducible rfl
      try go_frame
      refine held_pure (i := 6) (oi := ⟨some 35, _, _, _, _, _⟩) rfl (by kernel_rfl) (by kernel_rfl) (by kernel_rfl) (fun _ _ _ h => h) (by rfl) (v := ?_) (fun w hSw => ?_) hS (fun hS => ?_)
      rotate_left
      · go_simp; try with_reducible rfl
      try go_frame
      refine held_pure (i := 7) (oi := ⟨some 36, _, _, _, _, _⟩) rfl (by kernel_rfl) (by kernel_rfl) (by kernel_rfl) (fun _ _ _ h => h) (by rfl) (v := ?_) (fun w hSw => ?_) hS (fun hS => ?_)
      rotate_left
      · go_simp; try with_reducible rfl
      try go_frame
      refine held_pure (i := 8) (oi := ⟨some 37, _, _, _, _, _⟩) rfl (by kernel_rfl) (by kernel_rfl) (by kernel_rfl) (fun _ _ _ h => h) (by rfl) (fun w hSw => run_load_int rfl rfl (KW.out _ hSw)) hS (fun hS => ?_)
      try go_frame
      refine held_pure (i := 9) (oi := ⟨some 38, _, _, _, _, _⟩) rfl (by kernel_rfl) (by kernel_rfl) (by kernel_rfl) (fun _ _ _ h => h) (by rfl) (v := .int .i64 (now - wt)) (fun w hSw => by go_simp; try exact HWR.out) hS (fun hS => ?_)
      try go_frame
      refine held_pure (i := 10) (oi := ⟨some 39, _, _, _, _, _⟩) rfl (by kernel_rfl) (by kernel_rfl) (by kernel_rfl) (fun _ _ _ h => h) (by rfl) (v := ?_) (fun w hSw => ?_) hS (fun hS => ?_)
      rotate_left
      · go_simp; try with_reducible rfl
      try go_frame
      refine wpAnyH_done (by kernel_rfl) ?_ _
      have hTd := hT1.below hS
      have hrowd : w1.drew.ownsRow W 9 1 u5 ks.length (ks.map sq) := hrow1
      have hrgd := ranges_kept hrg1 (Kept.of_below hS (S := fun _ => False)) id id
      have hkd : Kept (fun k => k = t ∨ k = bm) w w1.drew := hk1.then_below hS
      have hzd : w1.heap.size = w1.drew.heap.size := rfl
      have hWz1 : W ≤ w1.heap.size := by have := hk1.size; omega
      rw [hzd] at hWz1
      clear hT1 hrow1 hrg1 hk1 hS KB KW hbx hgz htz hg1 hs1 hen hzd
      generalize w1.drew = V at *
      have hkl : ks.length ≤ 1000000 := by
        have h1 := HE.out.kk
        have h2 := HE.out.pm.length_eq
        rw [List.length_append] at h2
        rw [h1, List.length_map]; omega
      by_cases hbe : s.began ≤ now - wt
      · have d1 : decide (s.began ≤ now - wt) = true := decide_eq_true hbe
        obtain ⟨V2, hV2⟩ : ∃ V2, V2 = V.alloc (.cells #[.string (strB s.key)] 9) := ⟨_, rfl⟩
        have HV2 := Lib.hid hV2
        have bV2 : Below V.heap.size V V2 := by rw [hV2]; exact (Below.refl _ V).alloc (Nat.le_refl _) _
        have kV2 : V2.cell? ⟨V.heap.size, 0, none⟩ = some (sq s.key) := cells_at (i := 0) (by rw [hV2]; exact World.alloc_heap_new V _) rfl
        have rowV2 : V2.ownsRow W 9 1 u5 ks.length (ks.map sq) := by rw [hV2]; exact hrowd.alloc _
        have rgV2 : V2.ranges Try.prog 9 ptrElem bm W n1 D1 _ cnt1 := ranges_kept hrgd (Kept.of_below bV2 (S := fun _ => False)) id id
        have TV2 := hTd.below bV2
        have szV2 := bV2.size
        have hlk := TV2.len s hSm
        have hby2 : 0 ≤ s.by ∧ s.by ≤ 1000000000000 := by
          have h1 := by_nn s
          have h2 := sum_part hSm
          omega
        have hsR2 : 0 ≤ sumB R ∧ sumB R ≤ 1000000000000 := by
          have h1 := sumB_perm HE.out.pm
          rw [sumB_app] at h1
          have h2 := sumB_nn G
          have h3 := sumB_nn R
          omega
        clear hV2
        unfold sq
        go_wp2_with (first
          | (at_builtin; (rw [← HV2.out]; refine append_sq rfl _ _ rfl W _ _ ks rfl rowV2 V.heap.size s.key rfl kV2 hkl (by omega) ?_); intro v' w2 hrow2 hg2)
          | (go_at_call 37; (refine (jdropR (ranges_kept rgV2 (Kept.of_grown hg2) (fun e => by obtain ⟨⟨_, _, _, hc⟩, _⟩ := own_cells rowV2 e; obtain ⟨es8, hm8, _⟩ := TV2.map; exact map_is hm8 hc) (fun e => by obtain ⟨⟨_, _, _, hc⟩, _⟩ := own_cells rowV2 e; exact iter_not_cells rgV2 hc)) (TV2.awayP (Kept.of_grown hg2) (own_away rowV2) ts_no.1 ts_no.2.1 ts_no.2.2.1 ts_no.2.2.2.1 ts_no.2.2.2.2 (fun e => by obtain ⟨⟨_, _, _, hc⟩, _⟩ := own_cells rowV2 e; obtain ⟨es8, hm8, _⟩ := TV2.map; exact map_is hm8 hc)) s ((TV2.awayP (Kept.of_grown hg2) (own_away rowV2) ts_no.1 ts_no.2.1 ts_no.2.2.1 ts_no.2.2.2.1 ts_no.2.2.2.2 (fun e => by obtain ⟨⟨_, _, _, hc⟩, _⟩ := own_cells rowV2 e; obtain ⟨es8, hm8, _⟩ := TV2.map; exact map_is hm8 hc)).bx s hSm) hlk hsR2 hby2).mono ?_; rintro e w3 ⟨rfl, hT3, hk3, cnt3, hrg3, hle3⟩)))
        rw [strike_twice] at hrg3
        obtain ⟨R', q1, q2, q3, q4, q5⟩ := HE.out.goes hsR
        have hTa := TV2.awayP (Kept.of_grown hg2) (own_away rowV2) ts_no.1 ts_no.2.1 ts_no.2.2.1 ts_no.2.2.2.1 ts_no.2.2.2.2 (fun e => by obtain ⟨⟨_, _, _, hc⟩, _⟩ := own_cells rowV2 e; obtain ⟨es8, hm8, _⟩ := TV2.map; exact map_is hm8 hc)
        have hkk3 : Kept (fun k => k = t ∨ k = bm) w w3 := (((hkd.then_below bV2).trans (Kept.of_grown hg2) (fun i hi e => by have := (own_cells rowV2 e).2; omega)).trans hk3 (fun _ _ h => h))
        go_roundw
        case rel =>
          refine ⟨_, cnt3, ks ++ [s.key], G ++ [s], R', Lib.hid ⟨?_, ⟨_, _, hrg3⟩, q2, ?_, q5, ?_, ?_, hkk3⟩⟩
          · rw [← q3]; exact hT3.perm q4 (List.Perm.refl _)
          · intro x hx
            rcases List.mem_append.1 hx with hx | hx
            · exact HE.out.ex x hx
            · rw [List.mem_singleton] at hx; rw [hx]; exact hbe
          · rw [List.length_append]; exact own_keptA hrow2 hk3 hTa.awayTT tt_str
          · rw [HE.out.kk]; simp
        case measure => rw [hrg3.left_eq, hrg.left_eq]; omega
      · have d1 : decide (s.began ≤ now - wt) = false := decide_eq_false hbe
        go_wp2
        go_roundw
        case rel => exact ⟨_, cnt1, ks, G, R, Lib.hid ⟨hTd, ⟨_, _, hrgd⟩, HE.out.pm, HE.out.ex, HE.out.stay hsR (by omega), hrowd, HE.out.kk, hkd⟩⟩
        case measure => rw [hrgd.left_eq, hrg.left_eq]; exact hlt
end Go.Proofs.Ytghbliabmecbcaa

/-
  Expire of layer 16's code, where none has waited for as long as it may, and where all have. Conditions are each theorem's own.
-/
namespace Go.Proofs.Ytghbliabmecbcaa
open Go.RowKit Go.Shelf Go.Maps Go.Sort
theorem own_sliceJ {w : World} {base e sz n : Nat} {v : Value} {xs : List Value} (h : w.ownsRow base e sz v n xs) : ∃ A c, v = .slice A n c := by
  rcases h.2 with ⟨rfl, h0⟩ | ⟨g, cap, cur, rfl, _⟩
  · exact ⟨none, 0, by rw [h0]⟩
  · exact ⟨_, _, rfl⟩
theorem jexp_none {w : World} {B0 t bm N : Nat} {mb my wt now : Int} {S : List Bu} (h : Jv w B0 t bm mb my wt N S) (hmy : my ≤ 10000000000) (hS : S.length ≤ 1000000) (hwt : 0 ≤ wt ∧ wt ≤ now) (hnow : now ≤ 9223372036854775807) (hB0 : B0 ≤ w.heap.size)
    (hn : ∀ s ∈ S, now - wt < s.began) : Calls Try.prog 14 #[.pointer (some ⟨t, 0, none⟩), .int .i64 now] w fun e w' =>
      (∃ A c, e = .returned (.slice A 0 c)) ∧ ∃ R, Jv w' B0 t bm mb my wt N R ∧ Below B0 w w' ∧ S.Perm R := by
  refine (jexpire h hmy hS hwt hnow hB0).mono ?_
  rintro e w' ⟨v, ks, G, R, rfl, hk, hp, hG, hR, hrow, hJ, hb⟩
  have hG0 : G = [] := by
    cases G with
    | nil => rfl
    | cons s G =>
      have h1 := hG s (List.mem_cons_self ..)
      have h2 := hn s (hp.mem_iff.2 (by simp))
      omega
  subst hG0
  have hks : ks = [] := hk
  obtain ⟨A, c, rfl⟩ := own_sliceJ hrow
  exact ⟨⟨A, c, by rw [hks]; rfl⟩, R, hJ, hb, by simpa using hp⟩
theorem jexp_all {w : World} {B0 t bm N : Nat} {mb my wt now : Int} {S : List Bu} (h : Jv w B0 t bm mb my wt N S) (hmy : my ≤ 10000000000) (hS : S.length ≤ 1000000) (hwt : 0 ≤ wt ∧ wt ≤ now) (hnow : now ≤ 9223372036854775807) (hB0 : B0 ≤ w.heap.size)
    (hn : ∀ s ∈ S, s.began ≤ now - wt) : Calls Try.prog 14 #[.pointer (some ⟨t, 0, none⟩), .int .i64 now] w fun e w' =>
      (∃ A c, e = .returned (.slice A S.length c)) ∧ Jv w' B0 t bm mb my wt N [] ∧ Below B0 w w' := by
  refine (jexpire h hmy hS hwt hnow hB0).mono ?_
  rintro e w' ⟨v, ks, G, R, rfl, hk, hp, hG, hR, hrow, hJ, hb⟩
  have hR0 : R = [] := by
    cases R with
    | nil => rfl
    | cons s R => exact absurd (hn s (hp.mem_iff.2 (by simp))) (hR s (List.mem_cons_self ..))
  subst hR0
  obtain ⟨A, c, rfl⟩ := own_sliceJ hrow
  have hl := hp.length_eq
  rw [List.append_nil] at hl
  exact ⟨⟨A, c, by rw [hk, List.length_map, hl]⟩, hJ, hb⟩
end Go.Proofs.Ytghbliabmecbcaa

/-
  awake of layer 16. Conditions are each theorem's own.
-/
namespace Go.Proofs.Ytghbliabmecbcaa
open Go.RowKit Go.Shelf Go.Maps
section
variable {w : World} {t bm : Nat} {tot mb my wt : Int} {M : List (List UInt8 × Nat)} {S : List Bu}
theorem Tx.alloc (h : Tx w t bm tot mb my wt M S) (o : Obj) : Tx (w.alloc o) t bm tot mb my wt M S := h.below ((Below.refl _ w).alloc (Nat.le_refl _) o)
end
theorem awake_one {w w' : World} {t bm B0 : Nat} {my wt : Int} (h : AddLeaves w w' t bm 0 1 my wt [] [] [97] [121] 8 0 false [98] B0) : ∃ s : Bu, Tx w' t bm 1 1 my wt [s.kg] [s] ∧ s.key = [97] ∧ s.headed = false ∧ piE s.L = [⟨8, false, [98]⟩] ∧ s.L.length ≤ 1 ∧ Tz B0 t bm [s] ∧ Below B0 w w' := by
  obtain ⟨s, R, A2, c2, L2, hT, hk, hc, hL, hl, hz, hb⟩ := h
  rcases hc with h1 | ⟨h1, hf, _⟩
  · exact absurd h1.length_eq (by simp)
  subst h1
  have e : tellB (s.with_ A2 c2 L2) 8 [121] = s.with_ A2 c2 L2 := by unfold tellB; rw [if_neg (fun h => absurd h.1 (by decide))]
  rw [e] at hT hz
  have r1 : roomC (partsOf [] [97]) 8 [98] = 1 := by decide +kernel
  have r2 : addCL (partsOf [] [97]) ⟨8, false, [98]⟩ = [⟨8, false, [98]⟩] := by decide +kernel
  rw [r1] at hT
  rw [r2] at hL
  refine ⟨s.with_ A2 c2 L2, ?_, hk, hf.2.2.2.2.2.2, hL, ?_, hz, hb⟩
  · have e2 : (s.with_ A2 c2 L2).kg = ([97], s.g) := by rw [← hk]; rfl
    rw [e2]
    exact hT
  · rw [hf.2.2.2.1] at hl
    exact hl
theorem parts_one {s : Bu} {key : List UInt8} (h : s.key = key) : partsOf [s] key = piE s.L := by
  unfold partsOf
  simp [h]
theorem head_one {s : Bu} {key head : List UInt8} (h : s.key = key) (hh : s.headed = false) : headOf [s] key 0 head = head := by
  unfold headOf
  simp [h, tellB, hh]
theorem without_one {s : Bu} {key : List UInt8} (h : s.key = key) : ((withoutM key [s.kg]).length : Int) = 0 := by
  simp [withoutM, Bu.kg, h]
set_option maxRecDepth 100000 in
set_option maxHeartbeats 2000000 in
theorem awake16 (w : World) : Calls Try.prog 12 #[] w fun e w' => e = .returned (.bool true) ∧ Below w.heap.size w w' := by
  have HP0 : Hid (partsOf [] [97] = []) := Lib.hid rfl
  have HR1 : Hid (roomC [] 8 [98] = 1) := Lib.hid (by decide +kernel)
  have HE1 : Hid (addC [] ⟨8, false, [98]⟩ = 0) := Lib.hid (by decide +kernel)
  have HF1 : Hid (addCL [] ⟨8, false, [98]⟩ = [⟨8, false, [98]⟩]) := Lib.hid (by decide +kernel)
  have HG1 : Hid ((endedP [⟨8, false, [98]⟩] && decide (gapsS 0 [⟨8, false, [98]⟩] = [])) = false) := Lib.hid (by decide +kernel)
  have HR2 : Hid (roomC [⟨8, false, [98]⟩] 0 [49, 50, 51, 52, 53, 54, 55, 56] = 8) := Lib.hid (by decide +kernel)
  have HE2 : Hid (addC [⟨8, false, [98]⟩] ⟨0, true, [49, 50, 51, 52, 53, 54, 55, 56]⟩ = 0) := Lib.hid (by decide +kernel)
  have HF2 : Hid (addCL [⟨8, false, [98]⟩] ⟨0, true, [49, 50, 51, 52, 53, 54, 55, 56]⟩ = [⟨0, true, [49, 50, 51, 52, 53, 54, 55, 56]⟩, ⟨8, false, [98]⟩]) := Lib.hid (by decide +kernel)
  have HG2 : Hid ((endedP [⟨0, true, [49, 50, 51, 52, 53, 54, 55, 56]⟩, ⟨8, false, [98]⟩] && decide (gapsS 0 [⟨0, true, [49, 50, 51, 52, 53, 54, 55, 56]⟩, ⟨8, false, [98]⟩] = [])) = true) := Lib.hid (by decide +kernel)
  have HC2 : Hid (catP [⟨0, true, [49, 50, 51, 52, 53, 54, 55, 56]⟩, ⟨8, false, [98]⟩] = [49, 50, 51, 52, 53, 54, 55, 56, 98]) := Lib.hid (by decide +kernel)
  have HB2 : Hid (bytesP [⟨0, true, [49, 50, 51, 52, 53, 54, 55, 56]⟩, ⟨8, false, [98]⟩] = 9) := Lib.hid (by decide +kernel)
  have hcv := conv_bb
  go_enter Try.func12, Try.ntmps12
  go_wp2_with (first
    | (go_at_call 21; go_loud (refine (jbufs HT3.out).mono ?_; rintro e w5 ⟨rfl, rfl⟩; rw [HM3.out]))
    | (go_at_call 16; go_loud (refine (jadd_done (HT2.out.alloc _) (List.Perm.refl _) [97] [120] 0 0 true (some ⟨w2.heap.size, 0, none⟩) 8 [49, 50, 51, 52, 53, 54, 55, 56] (lit_arg w2 #[.int .u8 49, .int .u8 50, .int .u8 51, .int .u8 52, .int .u8 53, .int .u8 54, .int .u8 55, .int .u8 56] (8, 9) [49, 50, 51, 52, 53, 54, 55, 56] rfl) (by unfold maxLen; simp) (by simp) (by omega) (fun s hs => by rw [List.mem_singleton.1 hs]; omega) (by omega) (.inl ⟨s2, List.mem_singleton.2 rfl, HK2.out⟩) (by simp) w.heap.size (by have := b1.size; have := b2.size; simp at *; omega) HZ2.out (by rw [HP2.out, HR2.out]; omega) (by rw [HP2.out]; exact HE2.out) (by rw [HP2.out, HF2.out]; exact HG2.out) (by rw [HP2.out, HF2.out, HB2.out]; omega)).mono ?_; rintro e w3 ⟨v3, rfl, s3, R3, hT3, hsk3, hcs3, hz3, b3, P3, p3, rfl, a3⟩; rw [HP2.out, HF2.out, HC2.out] at a3; rw [HP2.out, HF2.out, HC2.out, HH2.out]; have HT3 := Lib.hid hT3; have hcs : (convert 32 9 (.slice P3 9 p3)).run Try.prog w3 = .ok (.string ⟨#[49, 50, 51, 52, 53, 54, 55, 56, 98]⟩) w3 := conv_any P3 [49, 50, 51, 52, 53, 54, 55, 56, 98] p3 _ w3 a3.rd; clear hT3 a3 hcs3 hz3 hsk3))
    | (go_at_call 16; go_loud (refine (jadd_open (HT1.out.alloc _) (List.Perm.refl _) [97] [121] 8 0 false (some ⟨w1.heap.size, 0, none⟩) 1 [98] (lit_arg w1 #[.int .u8 98] (1, 2) [98] rfl) (by unfold maxLen; simp) (by simp) (by omega) (fun s h => by cases h) (by omega) (.inr (by simp)) (by simp) w.heap.size (by have := b1.size; simp; omega) ⟨Nat.le_succ _, Nat.le_refl _, fun s h => by cases h⟩ (by rw [HP0.out, HR1.out]; omega) (by rw [HP0.out]; exact HE1.out) (by rw [HP0.out, HF1.out]; exact HG1.out)).mono ?_; rintro e w2 ⟨rfl, ha2⟩; obtain ⟨s2, hT2, hk2, hh2, hL2, ll2, hz2, b2⟩ := awake_one ha2; have HT2 := Lib.hid hT2; have HK2 := Lib.hid hk2; have HZ2 := Lib.hid hz2; have HP2 := Lib.hid ((parts_one hk2).trans hL2); have HH2 : Hid (sq (headOf [s2] [97] 0 [120]) = .string ⟨#[120]⟩) := Lib.hid (by rw [head_one hk2 hh2]; rfl); have HM3 := Lib.hid (without_one hk2); clear ha2 hT2 hk2 hh2 hL2 hz2))
    | (go_at_call 9; go_loud (refine (jnew_ok 1 100 60 _ (by decide)).mono ?_; rintro e w1 ⟨rfl, hT1, b1⟩; have HT1 := Lib.hid hT1; clear hT1)))
  go_ret
  have B1 := b1.alloc b1.size (.cells #[.int .u8 98] 5 (1, 2))
  have B2 := B1.trans b2
  have B3 := (B2.alloc B2.size (.cells #[.int .u8 49, .int .u8 50, .int .u8 51, .int .u8 52, .int .u8 53, .int .u8 54, .int .u8 55, .int .u8 56] 5 (8, 9))).trans b3
  exact ⟨rfl, B3⟩
end Go.Proofs.Ytghbliabmecbcaa

/-
  Keys by their number; calls that are not far. Conditions are each theorem's own.
-/
namespace Go.Proofs.Ytghbliabmecbcaa
open Go.RowKit Go.Shelf Go.Maps
theorem jkeys_len {w : World} {t bm : Nat} {tot mb my wt : Int} {M : List (List UInt8 × Nat)} {S : List Bu} (h : Tx w t bm tot mb my wt M S) (hM : M.length ≤ 1000000) :
    Calls Try.prog 22 #[.pointer (some ⟨t, 0, none⟩)] w fun e w' => (∃ A c, e = .returned (.slice A M.length c)) ∧ Below w.heap.size w w' := by
  refine (jkeys h hM).mono ?_
  rintro e w' ⟨v, ss, rfl, hp, ho, -, hb⟩
  have hl : ss.length = M.length := by rw [hp.length_eq, List.length_map]
  refine ⟨?_, hb⟩
  rw [← hl]
  rcases ho.2 with ⟨e1, h0⟩ | ⟨g, cap, cur, e1, _⟩
  · rw [e1, h0]; exact ⟨none, 0, rfl⟩
  · rw [e1]; exact ⟨_, _, rfl⟩
theorem farD_no : ∀ {l : List Dx} {i : Nat} {n : Int}, farD i n l = false → l.length + i ≤ 60 + (if l = [] then i else 0) ∧ (∀ x ∈ l, x.b.length ≤ 1000)
  | [], i, n, _ => ⟨by simp, fun x h => (by cases h)⟩
  | x :: l, i, n, h => by
    rw [farD] at h
    split at h
    · cases h
    · rename_i hc
      simp only [Bool.or_eq_true, Bool.and_eq_true, decide_eq_true_eq, not_or] at hc
      obtain ⟨⟨⟨⟨h1, h2⟩, _⟩, _⟩, _⟩ := hc
      obtain ⟨i1, i2⟩ := farD_no h
      refine ⟨?_, fun y hy => ?_⟩
      · rw [if_neg (by simp)]
        rw [List.length_cons]
        split at i1
        · rename_i hl; subst hl; simp; omega
        · omega
      · rcases List.mem_cons.1 hy with rfl | hy
        · omega
        · exact i2 y hy
end Go.Proofs.Ytghbliabmecbcaa
