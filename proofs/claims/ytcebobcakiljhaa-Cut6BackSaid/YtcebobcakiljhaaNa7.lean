/-
  Contracts and lemmas on which the proofs of this seat stand (several texts in one). Conditions are each theorem's own.
-/
import Derived.Test.YtcebobcakiljhaaNa6
import Derived.Test.YtcebobcakiljhaaNa5
import Derived.Test.YtcebobcakiljhaaNa1
import Derived.OrdersHeld
import Derived.OrdersIn
import Derived.TacticsIn
import Derived.OwnWalkIn
import Derived.Maps.RangeWalk
import Derived.RangeFuncSeq
import Derived.Test.YtcebobcakiljhaaNa4

/-
  Contract of cut4's Copied; append onto what a variable's box holds. Conditions are each theorem's own.
-/
namespace Go.Proofs.Ytcebobcakiljhaa
open Go.RowKit Go.Shelf
attribute [local go_sem] Oper.semAt_some

/-- 'out = append(out, ..)' out of the append law's two words, no block laid ahead of it. -/
theorem appended0 {W w1 : World} {n₀ B : Nat} {t e : TypeId} {size : Nat} {v v' : Value} {k m : Nat} {xs ys : List Value}
    (hv : Boxed W B t v) (hte : t ≠ e) (hrow : W.ownsRow n₀ e size v k xs) (hn₀ : n₀ ≤ W.heap.size) (hB : n₀ ≤ B)
    (hown' : w1.ownsRow n₀ e size v' m ys) (hgrow : W.grownBy w1 v.ownBlock) :
    Boxed w1 B t v ∧ Boxed (w1.setCell ⟨B, 0, none⟩ v') B t v' ∧ (w1.setCell ⟨B, 0, none⟩ v').ownsRow n₀ e size v' m ys ∧ KeepsOthers W (w1.setCell ⟨B, 0, none⟩ v') ∧ Below n₀ W (w1.setCell ⟨B, 0, none⟩ v') := by
  have hv1 : Boxed w1 B t v := hv.kept hgrow (hv.not_row hte hrow)
  refine ⟨hv1, hv1.set v', hown'.kept (grownBy_setCell' w1 B v') (.inr (hv1.not_row hte hown').symm), ?_, ?_⟩
  · refine (KeepsOthers.of_grownBy hgrow fun j o ej hj => ?_).trans (KeepsOthers.setCell _ _ _)
    rcases hrow.2 with ⟨rfl, _⟩ | ⟨g, cap, cur, rfl, _, hgb, _⟩
    · simp [Value.ownBlock] at ej
    · obtain rfl : g = j := by simpa [Value.ownBlock] using ej
      rw [hgb] at hj; cases hj; rfl
  · refine ((Below.refl n₀ W).grown hgrow hn₀ fun j ej => ?_).setCell (p := ⟨B, 0, none⟩) hB v'
    rcases hrow.2 with ⟨rfl, _⟩ | ⟨g, cap, cur, rfl, hb, _, _⟩
    · simp [Value.ownBlock] at ej
    · obtain rfl : g = j := by simpa [Value.ownBlock] using ej
      exact hb
theorem Marks.from {lo : Nat} {w w' : World} (hk : KeepsFrom lo w w') : ∀ {ds : List Deferred} {hi : Nat}, Marks lo hi ds w → Marks lo hi ds w'
  | [], _, _ => trivial
  | _ :: _, _, ⟨D, e, h1, h2, h3, h4⟩ => ⟨D, e, h1, h2, hk.same D _ h1 h3 rfl, Marks.from hk h4⟩
theorem nat_ne {a b : Nat} (h : (a == b) = false) : a ≠ b := by simpa using h
/-- The length of the slice that a box holds. -/
def lenAt (w : World) (g : Nat) : Nat := match w.cell? ⟨g, 0, none⟩ with | some (.slice _ n _) => n | _ => 0
theorem lenAt_box {w : World} {g t : Nat} {A : Option Addr} {n c : Nat} (h : Boxed w g t (.slice A n c)) : lenAt w g = n := by unfold lenAt; rw [h.cell]
theorem own_slice {w : World} {base e s n : Nat} {v : Value} {xs : List Value} (h : w.ownsRow base e s v n xs) : ∃ A c, v = .slice A n c := by
  rcases h.2 with ⟨e, h0⟩ | ⟨g, cap, cur, e, _⟩
  · exact ⟨none, 0, by rw [e, h0]⟩
  · exact ⟨_, cap, e⟩
set_option maxRecDepth 100000 in
set_option maxHeartbeats 1000000 in
theorem c13copied (A : Option Addr) (b : List UInt8) (c B : Nat) (w : World) (hR : Arg w B A c b) (hB : B ≤ w.heap.size) (hl : b.length ≤ 1000000) :
    Calls Try.prog 13 #[.slice A b.length c] w fun e w' => ∃ v, e = .returned v ∧ Made w w' v (copied b) := by
  have hte : 22 ≠ 5 := nat_ne (by kernel_rfl)
  obtain ⟨W, hW⟩ : ∃ W, W = w.alloc (.cells #[.slice none 0 0] 22) := ⟨_, rfl⟩
  have hbW : Below w.heap.size w W := by rw [hW]; exact (Below.refl _ w).alloc (Nat.le_refl _) _
  have hs : W.heap.size = w.heap.size + 1 := by rw [hW]; simp
  have hbx : Boxed W w.heap.size 22 (.slice none 0 0) := by rw [hW]; exact Boxed.new w 22 _
  have heach := each_any A b c B W (hR.below (hbW.mono hB)) (by omega) hl
  obtain ⟨n, hn'⟩ : ∃ n, n = b.length := ⟨_, rfl⟩
  have hn := Lib.hid hn'.symm
  rw [← hn'] at hl heach ⊢
  clear hn'
  subst hW
  refine (callsIn_wide (n := 4)).1 ?_
  refine callsIn_of_wp_marks Try.func13 rfl trivial ?_ rfl
  simp only [Try.ntmps13, List.size_toArray, List.length_cons, List.length_nil, Nat.reduceAdd, Nat.reduceSub, Array.replicate_succ, Array.replicate_zero, List.push_toArray, List.append_toArray, List.nil_append, List.cons_append]
  gi_wp2_with (refine ⟨trivial, ?_⟩; gi_at_call 33; refine (callsIn_wide.2 heach).mono ?_; rintro e w1 ⟨Bs, rfl, x1, hseq⟩)
  generalize w.alloc (.cells #[.slice none 0 0] 22) = W at *
  have HS := Lib.hid hs
  have hz1 := x1.size
  have hbx1 := Boxed.below hbx x1 (by omega)
  have hB1 : Below w.heap.size w w1 := hbW.trans (x1.mono (by omega))
  have hzz : w.heap.size < w1.heap.size := by omega
  clear hs hbx hbW heach
  refine range_told (by omega) (gf := 56) (lb := #[.pointer (some ⟨Bs, 0, none⟩)]) rfl (enters_of Try.func56 (by kernel_rfl) rfl)
    (hseq (4 - 1) (by omega)) KeepP.trans (fun V l r r' hl hr => KeepP.loop (by omega)) (Below.refl _ _) (fun _ => rfl)
    (fun pre x V l r r' h _ hl => GO.turn h hl)
    (fun pre X => (∃ v, Boxed X w.heap.size 22 v ∧ X.ownsRow w.heap.size 5 1 v (cops b (pre.map (·.at_))).length (row (cops b (pre.map (·.at_)))) ∧ True) ∧ Below w.heap.size w X)
    (fun _ _ _ => False)
    (OwnFrom.and (Own.from (holdsRow_own (β := List OI) w.heap.size w.heap.size 22 5 1 (fun pre => (cops b (pre.map (·.at_))).length) (fun pre => row (cops b (pre.map (·.at_)))) (fun _ _ => True)) _)
      (fun pre X Y r hs hg hr => below_keep hs hg hr (by omega) (Nat.le_refl _)))
    (fun cd pre X Y r hs hg hr => hs)
    ⟨⟨_, hbx1, World.ownsRow_nil _ _ _ _, trivial⟩, hB1⟩
    (fun x => { tmps := #[.slice A n c, undef, .slice none 0 0, .pointer (some ⟨w.heap.size, 0, none⟩), .slice x.A x.n x.c, .slice A n c, .func (.func 56) #[] #[.pointer (some ⟨Bs, 0, none⟩)], .slice x.A x.n x.c, undef, undef, undef, undef, undef, undef, undef, undef, undef, undef, undef, undef, undef, undef, undef], defers := [] }) ?assign ?body ?done ?stop
  case assign =>
    intro l x X K hK
    dsimp only [encS]
    gi_wp2
    exact hK
  case body =>
    rintro l pre ⟨k, XA, xc, z⟩ X ⟨⟨v, hvX, hoX, _⟩, hBX⟩ ⟨⟨more, hmore⟩, hz, hAX⟩
    dsimp only at hmore hz hAX ⊢
    have hopt : 0 < optL b k := places_mem (by rw [hmore]; simp)
    rw [← hz] at hopt
    have hpre : (cops b ((pre ++ [(⟨k, XA, xc, z⟩ : OI)]).map (·.at_))) = cops b (pre.map (·.at_)) ++ cop1 b k := by rw [List.map_append]; exact cops_snoc b _ k
    have hlen := cops_pre b hmore
    rw [hn.out] at hlen
    have hle := optL_le (b := b) (at_ := k) (by rw [← hz]; exact hopt)
    rw [← hz, hn.out] at hle
    obtain ⟨D, hD⟩ : ∃ D, D = (b.drop k).take z := ⟨_, rfl⟩
    rw [← hD] at hAX
    have HDl : Hid (D.length = z) := Lib.hid (by rw [hD, List.length_take, List.length_drop]; have := hn.out; omega)
    have HD1 : Hid (byt b k ≥ 128 → cop1 b k = D) := Lib.hid (fun h => by rw [cop1, if_pos h, hD, hz])
    clear hz
    have kd : byt D 0 = byt b k := by rw [hD, byt_take _ hopt, byt_drop, Nat.add_zero]
    obtain ⟨b0, off, e, hb0, hc0⟩ := hAX.rd (by rw [HDl.out]; exact hopt)
    obtain rfl := e
    have kx := hc0 0 (by rw [HDl.out]; exact hopt)
    rw [Nat.add_zero, kd] at kx
    obtain ⟨C, hC⟩ : ∃ C, C = cops b (pre.map (·.at_)) := ⟨_, rfl⟩
    rw [← hC] at hoX hlen hpre
    have HP := Lib.hid hpre
    obtain ⟨y, hy⟩ : ∃ y, y = byt b k := ⟨_, rfl⟩
    rw [← hy] at kx
    have HY := Lib.hid hy
    have hcv := hvX.cell
    have hfv := hvX.frozen
    clear hc0 hD hpre hC hy kd hmore
    by_cases hd : y ≥ 128
    · have d1 : decide (y ≥ 128) = true := by simpa using hd
      have d2 : decide (128 ≤ y) = true := by simpa using hd
      have HE := Lib.hid (HD1.out (by rw [← HY.out]; exact hd))
      obtain ⟨i0, hi, hz0, hz1, hz2⟩ := info_parts info_u8
      gi_wp2_with (gi_at_builtin; refine wpListIn_append_own _ rfl _ _ 22 rfl w.heap.size 5 i0 (.int .u8 0) 1 1 Try.underlying22 hi hz0 hz1 hz2 rfl (by decide) _ _ _ rfl hoX ⟨b0, off, none⟩ z xc (row D) rfl (by rw [row_length, HDl.out, Nat.mul_one]) hAX.rd.src (row_one D) (by have := hle.1; unfold maxLen; omega) (by have := hle.1; omega) hBX.size ?_; intro v' w' hown' hgrow hnil; obtain ⟨q1, q2, q3, q4, q5⟩ := appended0 hvX hte hoX hBX.size (Nat.le_refl _) hown' hgrow; have qc := q1.cell; have qf := q1.frozen; obtain ⟨A9, c9, rfl⟩ := own_slice hown')
      refine ⟨q4.from _, ⟨q5.size, fun j hj => q5.block j (Nat.lt_of_lt_of_le hj hB)⟩, ⟨_, q2, ?_⟩, hBX.trans q5⟩
      rw [HP.out, HE.out, List.length_append, HDl.out, row_append]
      exact ⟨q3, trivial⟩
    · have d1 : decide (y ≥ 128) = false := by simpa using hd
      have d2 : decide (128 ≤ y) = false := by simpa using hd
      have HE := Lib.hid (cop1_no (b := b) (a := k) (by rw [← HY.out]; exact hd))
      gi_wp2
      refine ⟨KeepsFrom.refl _ _, KeepP.refl _ _, ⟨v, hvX, ?_⟩, hBX⟩
      rw [HP.out, HE.out, List.append_nil]
      exact hoX
  case done =>
    rintro D xs X hD hS ⟨⟨v, hvX, hoX, _⟩, hBX⟩ hK
    have hm1 : Marks w1.heap.size X.heap.size [{ target := .collected D, args := #[] }] X := (Marks.push (hi := D) (ds := []) trivial (Nat.le_refl _) hD hK).more (heap_lt hK)
    rw [hS] at hoX
    have hcl := cops_le b
    rw [hn.out] at hcl
    have HCO : Hid (copied b = cops b (places b) ++ List.replicate (padN (cops b (places b)).length) 0) := Lib.hid rfl
    obtain ⟨C, hC⟩ : ∃ C, C = cops b (places b) := ⟨_, rfl⟩
    rw [← hC] at hoX HCO hcl
    obtain ⟨N, hN⟩ : ∃ N, N = C.length := ⟨_, rfl⟩
    rw [← hN] at hoX HCO hcl
    have HN := Lib.hid hN
    obtain ⟨p, hp⟩ : ∃ p, p = padN N := ⟨_, rfl⟩
    have hpm := padN_mod N
    rw [← hp] at hpm HCO
    have hp4 := hpm.2
    have HPM : Hid (∀ j, j ≤ p → ((N + j) % 4 = 0 ↔ j = p)) := Lib.hid fun j hj => by have := hpm.1; omega
    have hwX := heap_lt hK
    clear hN hp hpm hC hS hK hseq
    gi_wp2
    gi_loopw [] (fun wr => ∃ (v : Value) (j L : Nat), j ≤ p ∧ Hid (L = N + j) ∧ L ≤ n + 4 ∧ Boxed wr w.heap.size 22 v ∧ wr.ownsRow w.heap.size 5 1 v L (row (C ++ List.replicate j 0)) ∧ Below w.heap.size w wr ∧ Marks w1.heap.size X.heap.size [{ target := .collected D, args := #[] }] wr ∧ X.heap.size ≤ wr.heap.size)
      (fun wr => N + p - lenAt wr w.heap.size)
    case atStart => exact ⟨v, 0, N, Nat.zero_le _, Lib.hid rfl, by omega, hvX, by simpa using hoX, hBX, hm1, Nat.le_refl _⟩
    case round =>
      obtain ⟨v, j, L, hj, HL, hL4, hvr, hor, hbr, hmr, hzr⟩ := hrel
      have hslice := own_slice hor
      obtain ⟨A3, c3, rfl⟩ := hslice
      have hcv := hvr.cell
      have hfv := hvr.frozen
      by_cases hjp : j = p
      · have hm : L % 4 = 0 := by have := HL.out; have := (HPM.out j hj).2 hjp; omega
        have e1 : ((L : Int) % 4 != 0) = false := by simp; omega
        gi_wp2
        refine leaves_marks w1.heap.size (fun Y => Y.ownsRow w.heap.size 5 1 (.slice A3 L c3) L (row (C ++ List.replicate j 0)) ∧ Below w.heap.size w Y) (fun Y D hY h1 h2 => ⟨ownsRow_putObj hY.1 _ h2 rfl, hY.2.trans (belowK_b (w := w) (Nat.le_refl _) Y D _ _ (by omega) h2 rfl rfl)⟩)
          (fun Y hY => ⟨_, results_tmp rfl _ _ _, _, rfl, ?_⟩) _ _ _ hmr ⟨hor, hbr⟩
        refine Made.of_own ?_ hY.2
        rw [HCO.out, List.length_append, List.length_replicate, ← HN.out, ← hjp, ← HL.out]
        exact hY.1
      · have hm : L % 4 ≠ 0 := by have := HL.out; have := HPM.out j hj; omega
        have e1 : ((L : Int) % 4 != 0) = true := by simp; omega
        obtain ⟨i0, hi, hz0, hz1, hz2⟩ := info_parts info_u8
        gi_wp2_with (gi_at_builtin; refine wpListIn_append_own _ rfl _ _ 22 rfl w.heap.size 5 i0 (.int .u8 0) 1 1 Try.underlying22 hi hz0 hz1 hz2 rfl (by decide) _ _ _ rfl (hor.alloc _) ⟨wr.heap.size, 0, none⟩ 1 1 (row [0]) rfl rfl (rd_zero wr).src (row_one _) (by unfold maxLen; omega) (by omega) (by have := hbr.size; simp; omega) ?_; intro v' w' hown' hgrow hnil; obtain ⟨q1, q2, q3, q4, q5⟩ := Boxed.appended hvr hte hor hbr.size (Nat.le_refl _) hown' hgrow; have qc := q1.cell; have qf := q1.frozen; obtain ⟨A9, c9, rfl⟩ := own_slice hown')
        go_roundw
        case rel => exact ⟨_, j + 1, L + 1, by omega, Lib.hid (by have := HL.out; omega), by have := HL.out; omega, q2, by rw [← rep_snoc, row_append]; exact q3, hbr.trans q5, Marks.from (q4.from _) hmr, by have := q5.size; omega⟩
        case measure =>
          rw [lenAt_box q2, lenAt_box hvr]; have := HL.out; omega
  case stop =>
    rintro D cd pre X hD _ h
    exact h.elim
end Go.Proofs.Ytcebobcakiljhaa

/-
  Packets of IPv4 as elements of a slice: their cells, what their lists own; contract of cut4's part. Conditions are each theorem's own.
-/
namespace Go.Proofs.Ytcebobcakiljhaa
open Go.RowKit Go.Shelf

/-- A packet, and where its lists lie. -/
structure X4 where
  q : P4
  A : Option Addr
  c : Nat
  A' : Option Addr
  c' : Nat
def cl4 (x : X4) : List Value := (v4a x.q x.A x.c x.A' x.c').toList
theorem cl4_len (x : X4) : (cl4 x).length = 11 := rfl
theorem cl4_one (x : X4) : ∀ u ∈ cl4 x, u.oneCell' = true := by
  intro u hu
  simp only [cl4, v4a, List.mem_cons, List.not_mem_nil, or_false] at hu
  rcases hu with rfl | rfl | rfl | rfl | rfl | rfl | rfl | rfl | rfl | rfl | rfl <;> rfl
def val4 (x : X4) : Value := v4v x.q x.A x.c x.A' x.c'
/-- Its lists are rows of the call's own. -/
def Own4 (W : World) (base : Nat) (x : X4) : Prop := W.ownsRow base 5 1 (.slice x.A x.q.opt.length x.c) x.q.opt.length (row x.q.opt) ∧ W.ownsRow base 5 1 (.slice x.A' x.q.dat.length x.c') x.q.dat.length (row x.q.dat)
section
variable {W V : World} {base : Nat} {x : X4}
theorem Own4.below (h : Own4 W base x) (hb : Below W.heap.size W V) : Own4 V base x := ⟨own_below h.1 hb, own_below h.2 hb⟩
theorem Own4.base_ {base' : Nat} (h : Own4 W base' x) (hb : base ≤ base') : Own4 W base x := ⟨own_base h.1 hb, own_base h.2 hb⟩
theorem Own4.arg (h : Own4 W base x) : Arg W W.heap.size x.A x.c x.q.opt := arg_own h.1
theorem Own4.arg' (h : Own4 W base x) : Arg W W.heap.size x.A' x.c' x.q.dat := arg_own h.2
theorem Own4.keep {e t sz : Nat} (h : Own4 W base x) (k : KeepS e t sz W V) (h1 : 5 ≠ t) (h2 : 5 ≠ e) : Own4 V base x := ⟨k.own h.1 h1 h2, k.own h.2 h1 h2⟩
theorem Own4.loop {l : Nat} {r r' : Loop} (h : Own4 W base x) (hl : W.heap[l]? = some (.loop r)) : Own4 (W.putObj l (.loop r')) base x := ⟨ownsRow_putObj h.1 _ hl rfl, ownsRow_putObj h.2 _ hl rfl⟩
theorem Own4.turn {r : Option Nat} (h : Own4 W base x) (hg : W.grownBy V r) (hr : ∀ k, r = some k → ∃ o : Obj, W.heap[k]? = some o ∧ o.isCells = false) : Own4 V base x := by
  have key : ∀ {v : Value} {n : Nat} {xs : List Value}, W.ownsRow base 5 1 v n xs → V.ownsRow base 5 1 v n xs := fun {v n xs} h => by
    refine h.kept hg ?_
    rcases h.2 with ⟨rfl, _⟩ | ⟨g, cap, cur, rfl, _, hgb, _⟩
    · exact .inl rfl
    · refine .inr fun e' => ?_
      obtain ⟨o, ho, hc⟩ := hr g (by simpa [Value.ownBlock] using e'.symm)
      rw [hgb] at ho; cases ho; cases hc
  exact ⟨key h.1, key h.2⟩
end
theorem own_setCellB {w : World} {base e sz n t : Nat} {v : Value} {xs : List Value} {cs : Array Value} (h : w.ownsRow base e sz v n xs) {g i : Nat} {u : Value} (hg : w.heap[g]? = some (.cells cs t (0, 0))) (hte : t ≠ e) : (w.setCell ⟨g, i, none⟩ u).ownsRow base e sz v n xs := by
  refine ⟨h.1, ?_⟩
  rcases h.2 with hn | ⟨g', cap, cur, hv, hb, hg', rest⟩
  · exact .inl hn
  · refine .inr ⟨g', cap, cur, hv, hb, (heap_setCell_other w ⟨g, i, none⟩ g' u (fun e' => ?_)).trans hg', rest⟩
    have e'' : g' = g := e'
    subst e''
    rw [hg'] at hg
    cases hg; exact hte rfl
theorem own_setRowB {w : World} {base e sz n t : Nat} {v : Value} {xs : List Value} {cs cs' : Array Value} (h : w.ownsRow base e sz v n xs) {g : Nat} (hg : w.heap[g]? = some (.cells cs t (0, 0))) (hte : t ≠ e) : (w.setRow g cs').ownsRow base e sz v n xs := by
  refine ⟨h.1, ?_⟩
  rcases h.2 with hn | ⟨g', cap, cur, hv, hb, hg', rest⟩
  · exact .inl hn
  · refine .inr ⟨g', cap, cur, hv, hb, (setRow_other w g g' cs' (fun e' => ?_)).trans hg', rest⟩
    subst e'
    rw [hg'] at hg
    cases hg; exact hte rfl
set_option maxRecDepth 100000 in
set_option maxHeartbeats 1000000 in
theorem c13part (q : P4) (A : Option Addr) (c : Nat) (A' : Option Addr) (c' : Nat) (D : Option Addr) (d : Nat) (dat : List UInt8) (mr : Bool) (w : World) (B : Nat) (hO : Arg w B A c q.opt) (hD : Arg w B D d dat) (hB0 : B ≤ w.heap.size) (ho : q.opt.length ≤ 1000000) (hl : dat.length ≤ 1000000) :
    Calls Try.prog 54 #[v4v q A c A' c', .slice D dat.length d, .bool mr] w fun e w' => ∃ P p P' p', e = .returned (v4v { q with mf := mr, dat := dat } P p P' p') ∧ Own4 w' w.heap.size ⟨{ q with mf := mr, dat := dat }, P, p, P', p'⟩ ∧ Below w.heap.size w w' := by
  have hB : Below w.heap.size w ((w.alloc (.cells (v4a q A c A' c') 24)).alloc (.cells #[.int .i64 0, .int .i64 0, .int .i64 0, .int .i64 0, .int .i64 0, .int .i64 0, .int .i64 0, .bool false, .bool false, .slice none 0 0, .slice none 0 0] 24)) := ((Below.refl w.heap.size w).alloc (Nat.le_refl _) _).alloc (by simp) _
  have hU0 : ((w.alloc (.cells (v4a q A c A' c') 24)).alloc (.cells #[.int .i64 0, .int .i64 0, .int .i64 0, .int .i64 0, .int .i64 0, .int .i64 0, .int .i64 0, .bool false, .bool false, .slice none 0 0, .slice none 0 0] 24)).heap[w.heap.size]? = some (.cells (v4a q A c A' c') 24 (0, 0)) := (Below.heap_alloc (w.alloc (.cells (v4a q A c A' c') 24)) _ w.heap.size (by simp)).trans (World.alloc_heap_new w _)
  have hR0 : ((w.alloc (.cells (v4a q A c A' c') 24)).alloc (.cells #[.int .i64 0, .int .i64 0, .int .i64 0, .int .i64 0, .int .i64 0, .int .i64 0, .int .i64 0, .bool false, .bool false, .slice none 0 0, .slice none 0 0] 24)).heap[w.heap.size + 1]? = some (.cells (v4a p4z none 0 none 0) 24 (0, 0)) := by
    have := World.alloc_heap_new (w.alloc (.cells (v4a q A c A' c') 24)) (.cells #[.int .i64 0, .int .i64 0, .int .i64 0, .int .i64 0, .int .i64 0, .int .i64 0, .int .i64 0, .bool false, .bool false, .slice none 0 0, .slice none 0 0] 24)
    rwa [World.size_alloc] at this
  have hte : 24 ≠ 5 := nat_ne (by kernel_rfl)
  unfold v4v
  rw [show (#[Value.int .i64 q.tos, .int .i64 q.id, .int .i64 q.off, .int .i64 q.ttl, .int .i64 q.proto, .int .i64 q.src, .int .i64 q.dst, .bool q.df, .bool q.mf, .slice A q.opt.length c, .slice A' q.dat.length c']) = v4a q A c A' c' from rfl]
  go_enter Try.func54, Try.ntmps54
  go_upto_region 1 with fail
  generalize (w.alloc (.cells (v4a q A c A' c') 24)).alloc (.cells #[.int .i64 0, .int .i64 0, .int .i64 0, .int .i64 0, .int .i64 0, .int .i64 0, .int .i64 0, .bool false, .bool false, .slice none 0 0, .slice none 0 0] 24) = W at *
  have hWz : w.heap.size + 1 < W.heap.size := heap_lt hR0
  have k9 : W.cell? ⟨w.heap.size, 9, none⟩ = some (.slice A q.opt.length c) := by { rw [cell_of_row _ _ _ _ _ _ hU0]; rfl }
  have hO1 := hO.below (hB.mono hB0)
  have hD1 := hD.below (hB.mono hB0)
  go_upto_region 2 with (first
    | (go_at_call 37; refine (clone_any D dat d B V2 hD2 (by omega) (by omega)).mono ?_; rintro e w3 ⟨v3, rfl, m3⟩; obtain ⟨P', p', rfl, g3, o3, y3⟩ := made_shape m3; have hU3 := (y3.block w.heap.size (by omega)).trans hU2; have hR3 := (y3.block (w.heap.size + 1) (by omega)).trans hR2; have c9 : w3.cell? ⟨w.heap.size, 9, none⟩ = some (.slice A q.opt.length c) := by { rw [cell_of_row _ _ _ _ _ _ hU3]; rfl }; have c10 : w3.cell? ⟨w.heap.size, 10, none⟩ = some (.slice A' q.dat.length c') := by { rw [cell_of_row _ _ _ _ _ _ hU3]; rfl }; have c8 : w3.cell? ⟨w.heap.size, 8, none⟩ = some (.bool q.mf) := by { rw [cell_of_row _ _ _ _ _ _ hU3]; rfl }; have f9 := heap_frozen hU3 9; have f10 := heap_frozen hU3 10; have f8 := heap_frozen hU3 8)
    | (go_at_call 37; refine (clone_any A q.opt c B W hO1 (by omega) (by omega)).mono ?_; rintro e V2 ⟨v2, rfl, m2⟩; obtain ⟨P, p, rfl, g2, o2, y2⟩ := made_shape m2; have hU2 := (y2.block w.heap.size (by omega)).trans hU0; have hR2 := (y2.block (w.heap.size + 1) hWz).trans hR0; have hD2 := hD1.below (y2.mono (by omega)); have hz2 := y2.size))
  have hU4 := heap_setCell_same w3 w.heap.size 9 _ _ (.slice P q.opt.length p) hU3
  have hU5 := heap_setCell_same _ w.heap.size 10 _ _ (.slice P' dat.length p') hU4
  have hU6 := heap_setCell_same _ w.heap.size 8 _ _ (.bool mr) hU5
  have hU6 : (((w3.setCell ⟨w.heap.size, 9, none⟩ (.slice P q.opt.length p)).setCell ⟨w.heap.size, 10, none⟩ (.slice P' dat.length p')).setCell ⟨w.heap.size, 8, none⟩ (.bool mr)).heap[w.heap.size]? = some (.cells (v4a { q with mf := mr, dat := dat } P p P' p') 24 (0, 0)) := hU6
  have hz3 := y3.size
  have hR6 : (((w3.setCell ⟨w.heap.size, 9, none⟩ (.slice P q.opt.length p)).setCell ⟨w.heap.size, 10, none⟩ (.slice P' dat.length p')).setCell ⟨w.heap.size, 8, none⟩ (.bool mr)).heap[w.heap.size + 1]? = some (.cells (v4a p4z none 0 none 0) 24 (0, 0)) :=
    (heap_setCell_other _ _ _ _ (by show w.heap.size + 1 ≠ w.heap.size; omega)).trans ((heap_setCell_other _ _ _ _ (by show w.heap.size + 1 ≠ w.heap.size; omega)).trans ((heap_setCell_other _ _ _ _ (by show w.heap.size + 1 ≠ w.heap.size; omega)).trans hR3))
  have own6 : Own4 (((w3.setCell ⟨w.heap.size, 9, none⟩ (.slice P q.opt.length p)).setCell ⟨w.heap.size, 10, none⟩ (.slice P' dat.length p')).setCell ⟨w.heap.size, 8, none⟩ (.bool mr)) w.heap.size ⟨{ q with mf := mr, dat := dat }, P, p, P', p'⟩ :=
    ⟨own_setCellB (own_setCellB (own_setCellB (own_base (own_below o2 y3) (by omega)) hU3 hte) hU4 hte) hU5 hte, own_setCellB (own_setCellB (own_setCellB (own_base o3 (by omega)) hU3 hte) hU4 hte) hU5 hte⟩
  have hB6 : Below w.heap.size w (((w3.setCell ⟨w.heap.size, 9, none⟩ (.slice P q.opt.length p)).setCell ⟨w.heap.size, 10, none⟩ (.slice P' dat.length p')).setCell ⟨w.heap.size, 8, none⟩ (.bool mr)) :=
    (((hB.trans ((y2.trans (y3.mono hz2)).mono (by omega))).setCell (p := ⟨w.heap.size, 9, none⟩) (Nat.le_refl _) _).setCell (p := ⟨w.heap.size, 10, none⟩) (Nat.le_refl _) _).setCell (p := ⟨w.heap.size, 8, none⟩) (Nat.le_refl _) _
  clear hU4 hU5 c8 c9 c10 f8 f9 f10 k9 hU3 hR3
  generalize ((w3.setCell ⟨w.heap.size, 9, none⟩ (.slice P q.opt.length p)).setCell ⟨w.heap.size, 10, none⟩ (.slice P' dat.length p')).setCell ⟨w.heap.size, 8, none⟩ (.bool mr) = V6 at *
  have at6 : At4 V6 w.heap.size { q with mf := mr, dat := dat } P p P' p' := fun j v hj => by
    rw [Nat.zero_add, cell_of_row _ _ _ _ _ _ hU6, ← Array.getElem?_toList]; exact hj
  go_wp2_with (first
    | ((with_reducible show wpList _ _ _ (Oper.mk _ (Op.load 24 _) _ _ _ _ :: _) _ _); refine wpList_val rfl (run_load_v4 rfl rfl at6 rfl) ?_)
    | ((with_reducible show wpList _ _ _ (Oper.mk _ (Op.store 24 _ _) _ _ _ _ :: _) _ _); refine v4_store (g := w.heap.size + 1) (cs := v4a { q with mf := mr, dat := dat } P p P' p') rfl rfl hR6 rfl rfl (v4a_one _ _ _ _ _) ?_))
  have own7 : Own4 (V6.setRow (w.heap.size + 1) (v4a { q with mf := mr, dat := dat } P p P' p')) w.heap.size ⟨{ q with mf := mr, dat := dat }, P, p, P', p'⟩ := ⟨own_setRowB own6.1 hR6 hte, own_setRowB own6.2 hR6 hte⟩
  exact bodyPost_ret (v4_result rfl rfl (setRow_heap _ _ _ _ _ _ hR6) rfl) rfl ⟨P, p, P', p', rfl, own7, below_row hB6 (by omega)⟩
end Go.Proofs.Ytcebobcakiljhaa

/-
  A region that draws its order and calls an iterator's yield: a load is taken ahead where each world of a class gives it the same value; the walk's moves, inside the widest fence. Conditions are each theorem's own.
-/
namespace Go.Proofs.Ytcebobcakiljhaa
open Go.RowKit

section
variable {n : Nat} {P : Program} {ops : Array Oper} {Q : Exit → Act → World → Prop} {md : Region.Mode} {S : World → Prop}
/-- Whatever comes up next, S holds behind it. -/
def anyHI (n : Nat) (P : Program) (md : Region.Mode) (ops : Array Oper) (Q : Exit → Act → World → Prop) (S : World → Prop) : Nat → Array Bool → Act → World → Prop
  | 0, listed, a, w => Region.ready md ops listed = [] ∧ Q .normal a w
  | fuel + 1, listed, a, w => (Region.ready md ops listed = [] → Q .normal a w) ∧
    ∀ i ∈ Region.ready md ops listed, wpOpIn Fence.wide n P ops Q i (fun a' w' => S w' ∧ anyHI n P md ops Q S fuel (listed.setIfInBounds i true) a' w') a w
theorem any_of_HI : ∀ (fuel : Nat) (listed : Array Bool) (a : Act) (w : World), anyHI n P md ops Q S fuel listed a w → wpAnyIn Fence.wide n P md ops Q fuel listed a w
  | 0, _, _, _, h => h
  | fuel + 1, _, _, _, h => ⟨h.1, fun i hi => wpOpIn_mono (fun a' w' h' => any_of_HI fuel _ a' w' h'.2) (h.2 i hi)⟩
theorem opI_here {i : Nat} {o : Oper} {v : Value} {a : Act} {w : World} {K : Act → World → Prop} (hi : ops[i]? = some o) (hy : YieldsIf P ops S o v a) (hS : S w) (h : K (a.put o.dst v) w) : wpOpIn Fence.wide n P ops Q i K a w := by
  unfold wpOpIn
  simp only [hi]
  rcases hy with ⟨hw, hv⟩ | ⟨hw, rfl⟩
  · rw [if_pos hw]
    refine ⟨fun _ _ => trivial, ?_⟩
    rw [show Fence.wide.round = none from rfl, Oper.semAt_none, hv w hS]
    exact h
  · rw [if_neg (by rw [hw]; decide)]
    exact ⟨fun _ _ => trivial, h⟩
/-- Another operation, with that one's value there already or not. -/
theorem opI_swap {j : Nat} {oi oj : Oper} {v : Value} (hj : ops[j]? = some oj) (hap : oi.apart ops oj = true) (hsi : ∀ cs b, oi.op ≠ .select cs b) (hsj : ∀ cs b, oj.op ≠ .select cs b)
    (hQ : ∀ c a w, Q (.panic c) (a.put oi.dst v) w → Q (.panic c) a w) {K : Act → World → Prop} {a : Act} {w : World} (hy : YieldsIf P ops S oi v a) (h : wpOpIn Fence.wide n P ops Q j K (a.put oi.dst v) w) :
    wpOpIn Fence.wide n P ops Q j (fun a' w' => YieldsIf P ops S oi v a' ∧ K (a'.put oi.dst v) w') a w := by
  obtain ⟨h1, h2, h3⟩ := Oper.apart_spec hap
  have stay : ∀ (b : Act), YieldsIf P ops S oi v b → ∀ u, YieldsIf P ops S oi v (b.put oj.dst u) := fun b hb u => hb.of_same (execOp_put oi hsi b oj.dst u h3) (wanted_put oi b oj.dst u h3)
  unfold wpOpIn at h ⊢
  simp only [hj] at h ⊢
  rw [wanted_put oj a oi.dst v h1] at h
  by_cases hw : Region.wanted oj (yielded ops a.tmps) = true
  · rw [if_pos hw] at h ⊢
    refine ⟨fun _ _ => trivial, ?_⟩
    have h := h.2
    rw [show Fence.wide.round = none from rfl, Oper.semAt_none] at h ⊢
    rw [execOp_put oj hsj a oi.dst v h1] at h
    generalize (execOp a.eval oj).run P w = r at h ⊢
    rcases r with ⟨x, w'⟩ | ⟨x, w'⟩
    · cases x with
      | value u => exact ⟨stay a hy u, by rw [← Act.put_comm a v u h2]; exact h⟩
      | skip => exact ⟨stay a hy _, by rw [← Act.put_comm a v undef h2]; exact h⟩
      | defer d => exact ⟨stay { a with defers := d :: a.defers } (hy.of_same rfl rfl) _, by rw [← Act.put_comm _ v undef h2, ← Act.put_defers]; exact h⟩
      | enter f args =>
        refine ⟨h.1, CallsIn.mono h.2 fun e w'' he => ?_⟩
        cases e with
        | returned u => exact ⟨stay a hy u, by rw [← Act.put_comm a v u h2]; exact he⟩
        | panicked c => exact hQ _ _ _ he
        | outgrown => exact he
      | row r args => exact ⟨h.1, RowsIn.mono h.2 fun u w'' he => ⟨stay a hy u, by rw [← Act.put_comm a v u h2]; exact he⟩⟩
      | round l f tmps assign body =>
        refine ⟨h.1, RoundIn.mono h.2 fun e w'' he => ?_⟩
        cases e with
        | returned u => exact ⟨stay a hy u, by rw [← Act.put_comm a v u h2]; exact he⟩
        | panicked c => exact hQ _ _ _ he
        | outgrown => exact he
      | _ => exact h
    · cases x with
      | panic u => exact hQ _ _ _ h
      | _ => exact h
  · rw [if_neg hw] at h ⊢
    exact ⟨fun _ _ => trivial, stay a hy _, by rw [← Act.put_comm a v undef h2]; exact h.2⟩
theorem takeI_all {i : Nat} {oi : Oper} {v : Value} (hi : ops[i]? = some oi) (hsel : ∀ (j : Nat) (o : Oper) cs b, ops[j]? = some o → o.op ≠ .select cs b) (hQ : ∀ c a w, Q (.panic c) (a.put oi.dst v) w → Q (.panic c) a w) :
    ∀ (fuel : Nat) (listed : Array Bool) (a : Act) (w : World), (∀ j oj, ops[j]? = some oj → j ≠ i → listed.getD j true = false → (∀ e ∈ oj.after, Region.binds md e = true → e.on ≠ i) → oi.apart ops oj = true) →
      i ∈ Region.ready md ops listed → YieldsIf P ops S oi v a → S w → anyHI n P md ops Q S fuel (listed.setIfInBounds i true) (a.put oi.dst v) w → anyHI n P md ops Q S (fuel + 1) listed a w
  | fuel, listed, a, w, free, hr, hy, hS, H => by
    refine ⟨fun h => (by rw [h] at hr; cases hr), fun j hj => ?_⟩
    by_cases hji : j = i
    · subst hji; exact opI_here hi hy hS ⟨hS, H⟩
    have hj' := ready_mono hj hji
    cases fuel with
    | zero => rw [H.1] at hj'; cases hj'
    | succ fuel =>
      obtain ⟨hjun, oj, hoj, hall⟩ := mem_ready.1 hj
      have hnot : ∀ e ∈ oj.after, Region.binds md e = true → e.on ≠ i := fun e he hb heq => by
        have g1 := hall e he hb
        have g0 := (mem_ready.1 hr).1
        rw [heq] at g1
        rcases Nat.lt_or_ge i listed.size with h' | h'
        · simp [h'] at g0 g1; rw [g0] at g1; cases g1
        · simp [Array.getElem?_eq_none h'] at g1
      refine wpOpIn_mono (fun a' w' h3 => ⟨h3.2.1, takeI_all hi hsel hQ fuel (listed.setIfInBounds j true) a' w' (fun k ok hk hki hun hno => free k ok hk hki ?_ hno) (ready_mono hr (Ne.symm hji)) h3.1 h3.2.1 (by rw [Array.setIfInBounds_comm _ _ hji]; exact h3.2.2)⟩)
        (opI_swap hoj (free j oj hoj hji hjun hnot) (fun cs b => hsel i oi cs b hi) (fun cs b => hsel j oj cs b hoj) hQ hy (H.2 j hj'))
      by_cases hjk : j = k
      · subst hjk; exact hjun
      · rw [getD_set_ne true hjk] at hun; exact hun
/-- An operation that yields its value in each world of the class is taken first. -/
theorem pureI {i : Nat} {oi : Oper} {v : Value} {fuel : Nat} {listed : Array Bool} {a : Act} {w : World} (hi : ops[i]? = some oi) (hs : Region.noSelect ops = true) (hf : Region.free md ops listed i = true) (hr : (Region.ready md ops listed).contains i = true)
    (hQ : ∀ c a w, Q (.panic c) (a.put oi.dst v) w → Q (.panic c) a w) (hw : Region.wanted oi (yielded ops a.tmps) = true) (hrun : ∀ w, S w → (execOp a.eval oi).run P w = .ok (.value v) w) (hS : S w)
    (h : S w → anyHI n P md ops Q S fuel (listed.setIfInBounds i true) (a.put oi.dst v) w) : anyHI n P md ops Q S (fuel + 1) listed a w :=
  takeI_all hi (Region.noSelect_spec hs) hQ fuel listed a w (Region.free_spec hi hf) (by simpa using hr) (.inl ⟨hw, hrun⟩) hS (h hS)
/-- The only one that may come up. -/
theorem oneI {i : Nat} {oi : Oper} {fuel : Nat} {listed : Array Bool} {a : Act} {w : World} (hr : Region.ready md ops listed = [i]) (hi : ops[i]? = some oi) (hw : Region.wanted oi (yielded ops a.tmps) = true)
    (h : ∀ K : Act → World → Prop, (∀ a w, S w → (S w → anyHI n P md ops Q S fuel (listed.setIfInBounds i true) a w) → K a w) → oi.wpIn Fence.wide n P a w K Q) : anyHI n P md ops Q S (fuel + 1) listed a w := by
  refine ⟨fun h0 => (by rw [hr] at h0; cases h0), fun j hj => ?_⟩
  rw [hr, List.mem_singleton] at hj
  subst hj
  unfold wpOpIn
  simp only [hi]
  rw [if_pos hw]
  exact h _ (fun a w hS hW => ⟨hS, hW hS⟩)
theorem doneI {listed : Array Bool} {a : Act} {w : World} (hr : Region.ready md ops listed = []) (h : Q .normal a w) : ∀ fuel, anyHI n P md ops Q S fuel listed a w
  | 0 => ⟨hr, h⟩
  | _ + 1 => ⟨fun _ => h, by rw [hr]; simp⟩
theorem regionI {id : Nat} {a : Act} {w : World} (hm : P.follows .mixedOrders = true) (hS : S w.drew) (h : S w.drew → anyHI n P .any ops Q S ops.size (Array.replicate ops.size false) a w.drew) : (Code.region id ops true).wpIn Fence.wide n P Q a w :=
  wpIn_region_any hm (any_of_HI _ _ _ _ (h hS))
/-- A call of a function of the program, by its plain contract. -/
theorem callI {o : Oper} {a : Act} {w : World} {K : Act → World → Prop} {f : FuncId} {args : Array Value} (hrun : (execOp a.eval o).run P w = .ok (.enter f args) w) (h : Calls P f args w fun e w' => ∃ v, e = .returned v ∧ K (a.put o.dst v) w') : o.wpIn Fence.wide n P a w K Q := by
  refine ⟨fun _ _ => trivial, ?_⟩
  rw [show Fence.wide.round = none from rfl, Oper.semAt_none, hrun]
  exact ⟨fun h => (by cases h), (callsIn_wide.2 h).mono fun e w' he => by obtain ⟨v, rfl, hk⟩ := he; exact hk⟩
/-- A call of yield. -/
theorem yieldI {o : Oper} {a : Act} {w : World} {K : Act → World → Prop} {l : Nat} {args : Array Value} {R : Ending → World → Prop} (hrun : (execOp a.eval o).run P w = (Instr.yield l args).run P w) (hY : YieldAt Fence.wide (n - 1) P l args w R)
    (h : ∀ e w', R e w' → ∃ v, e = .returned v ∧ K (a.put o.dst v) w') : o.wpIn Fence.wide n P a w K Q := by
  obtain ⟨fn, tmps, assign, body, hy, hR⟩ := hY
  refine ⟨fun _ _ => trivial, ?_⟩
  rw [show Fence.wide.round = none from rfl, Oper.semAt_none, hrun, hy]
  exact ⟨fun h => (by cases h), hR.mono fun e w' he => by obtain ⟨v, rfl, hk⟩ := h e w' he; exact hk⟩
end
/-! ### A range that never leaves its iterator early -/
/-- What a list of elements is said of stays, whatever is laid, whatever walk's object turns, and whatever is written into one block of cells of a type. -/
def StaysAt {β : Type} (T : TypeId) (B : Nat) (J : β → World → Prop) : Prop :=
  ∀ s W W' row, J s W → W.grownBy W' row → (∀ k, row = some k → (B ≤ k ∧ ∃ o : Obj, W.heap[k]? = some o ∧ o.isWalk = true) ∨ (k = B ∧ ∃ cs, W.heap[k]? = some (.cells cs T (0, 0)))) → J s W'
/-- An iterator's promise where each round goes on: its elements come in order, all of them; of each, when it comes, G is known. It may write into the first block that it lays, if that is of type T. -/
def SeqAll {α : Type} (m : Nat) (P : Program) (T : TypeId) (g : Nat) (lb : Array Value) (encs : α → Array Value) (G : List α → α → World → Prop) (Kp : World → World → Prop) (S : List α → Prop) (w : World) : Prop :=
  ∀ (l : Nat) (J : List α → World → Prop) (W : World), Below w.heap.size w W → StaysAt T W.heap.size J →
    (∀ pre x X, J pre X → G pre x X → W.heap.size < X.heap.size → YieldAt Fence.wide (m - 1) P l (encs x) X fun e Y => e = .returned (.bool true) ∧ J (pre ++ [x]) Y ∧ Kp X Y) →
    J [] W →
    CallsIn Fence.wide m P g (#[.func (.yield l) #[] #[]] ++ lb) W fun e Y => (∃ v, e = .returned v) ∧ ∃ xs, S xs ∧ J xs Y
theorem range_all {α : Type} {n : Nat} {P : Program} {T : TypeId} {g : Operand} {ps : Array Tmp} {assign body : Code} {Q : Exit → Act → World → Prop} {a : Act} {w : World} (h1 : 1 ≤ n)
    {gf : Nat} {lb : Array Value} (hg : a.eval g = .func (.func gf) #[] lb) (eg : ∀ args w, (callFunc gf args).run P w = .ok (.enter gf args) w)
    {encs : α → Array Value} {G : List α → α → World → Prop} {Kp : World → World → Prop} {S : List α → Prop} {w0 : World} (hseq : SeqAll (n - 1) P T gf lb encs G Kp S w0)
    (hKt : ∀ {A B C : World}, Kp A B → Kp B C → Kp A C) (hKb : ∀ (W : World) (l : Nat) (r r' : Loop), w.heap.size ≤ l → W.heap[l]? = some (.loop r) → Kp W (W.putObj l (.loop r')))
    (hb0 : Below w0.heap.size w0 w) (hps : ∀ x, (encs x).size = ps.size)
    (hG : ∀ (pre : List α) (x : α) (W : World) (l : Nat) (r r' : Loop), G pre x W → w.heap.size ≤ l → W.heap[l]? = some (.loop r) → G pre x (W.putObj l (.loop r')))
    (I : List α → World → Prop) (hI : OwnFrom w.heap.size I) (hI2 : ∀ s W W' k cs, I s W → W.grownBy W' (some k) → k = w.heap.size + 2 → W.heap[k]? = some (.cells cs T (0, 0)) → I s W') (h0 : I [] w) (a₁ : α → World → Act) (asg : α → World → World) (hag : ∀ (x : α) (W : World), W.grownBy (asg x W) none) (hGa : ∀ pre x W, G pre x W → G pre x (asg x W)) (hKa : ∀ (x : α) (W : World), w.heap.size ≤ W.heap.size → Kp W (asg x W))
    (hassign : ∀ (l : Nat) (x : α) (W : World) (K : Act → World → Prop), K (a₁ x W) (asg x W) →
      assign.wpIn (Fence.wide.inRound l) (n - 1 - 1) P (Exit.then K (fun _ _ _ => False)) { tmps := (ps.zip (encs x)).foldl (fun t (p, v) => t.setIfInBounds p v) a.tmps, defers := [] } W)
    (hbody : ∀ (l : Nat) (pre : List α) (x : α) (V W : World), I pre W → G pre x W → w.heap.size + 2 < W.heap.size → (∃ r, W = (asg x V).putObj l (.loop r)) → l < V.heap.size → body.wpIn (Fence.wide.inRound l) (n - 1 - 1) P (ownPostG w.heap.size Kp I (fun _ _ _ => False) (pre ++ [x]) W) (a₁ x V) W)
    (hdone : ∀ (D : Nat) (xs : List α) (W : World), w.heap.size ≤ D → S xs → I xs W → W.heap[D]? = some (.deferred (some [])) → Q .normal { a with defers := { target := .collected D, args := #[] } :: a.defers } W) :
    (Code.rangeFunc g ps assign body).wpIn Fence.wide n P Q a w := by
  refine wpIn_rangeFunc fun fn _ => ?_
  have t1 := Two.first w (recd fn a ps assign body w.heap.size .ready none)
  have b1 : Below w0.heap.size w0 ((w.alloc (.deferred (some []))).alloc (.loop (recd fn a ps assign body w.heap.size .ready none))) := (hb0.alloc hb0.size _).alloc (by have := hb0.size; simp; omega) _
  have i1 : I [] ((w.alloc (.deferred (some []))).alloc (.loop (recd fn a ps assign body w.heap.size .ready none))) := hI.alloc _ (hI.alloc _ h0)
  have z1 : ((w.alloc (.deferred (some []))).alloc (.loop (recd fn a ps assign body w.heap.size .ready none))).heap.size = w.heap.size + 2 := by simp
  obtain ⟨W1, hW1⟩ : ∃ W1, W1 = (w.alloc (.deferred (some []))).alloc (.loop (recd fn a ps assign body w.heap.size .ready none)) := ⟨_, rfl⟩
  rw [← hW1] at t1 b1 i1 z1
  refine ⟨w.heap.size + 1, [{ target := .collected w.heap.size, args := #[] }], W1, { target := .fn (.func gf) lb, args := #[.func (.yield (w.heap.size + 1)) #[] #[]] }, W1, gf, #[.func (.yield (w.heap.size + 1)) #[] #[]] ++ lb, W1,
    ?_, ?_, fun _ _ => trivial, ?_, fun _ => h1, ?_⟩
  · rw [hW1]; exact run_enterLoop_outer fn a.tmps ps assign body
  · simp only [resolve, hg]; simp [go_sem]
  · simp [invoke, go_sem, eg]
  · refine (hseq (w.heap.size + 1) (fun pre W => I pre W ∧ Two W w.heap.size (recd fn a ps assign body w.heap.size .ready none)) _ b1 ?_ ?_ ⟨i1, t1⟩).mono ?_
    · rintro s A B row ⟨hi, ht⟩ hgr hr
      cases row with
      | none => exact ⟨hI s A B none hi hgr (fun r e => by cases e), ht.abides hgr (fun r e => by cases e)⟩
      | some k =>
        rcases hr k rfl with ⟨hk, o, ho, hw⟩ | ⟨hk, cs, ho⟩
        · exact ⟨hI s A B _ hi hgr (fun r e => by cases e; exact ⟨by omega, o, ho, Obj.not_cells_of_walk hw⟩), ht.abides hgr (fun r e => by cases e; exact ⟨o, ho, hw⟩)⟩
        · refine ⟨hI2 s A B k cs hi hgr (by omega) ho, ⟨(hgr.block _ (heap_lt ht.calls) (fun e => ?_)).trans ht.calls, (hgr.block _ (heap_lt ht.rec_) (fun e => ?_)).trans ht.rec_⟩⟩
          · injection e with e; rw [← e, ht.calls] at ho; cases ho
          · injection e with e; rw [← e, ht.rec_] at ho; cases ho
    · rintro pre x X ⟨hi, ht⟩ hgx hzX
      have ha := ht.abides (hag x X) (fun r e => by cases e)
      have hia := hI pre X _ none hi (hag x X) (fun r e => by cases e)
      have hza := (hag x X).size
      refine ⟨fn, _, assign, body, run_yield ht.rec_ (hps x), roundIn_of_wpIn trivial (hassign _ x X _ ⟨_, run_beginRound ha.rec_ rfl, ?_⟩)⟩
      have hbu := ha.turn (recd fn a ps assign body w.heap.size .busy none)
      have hk0 : Kp X ((asg x X).putObj (w.heap.size + 1) (.loop (recd fn a ps assign body w.heap.size .busy none))) := hKt (hKa x X (by have := heap_lt ht.rec_; omega)) (hKb _ _ _ _ (by omega) ha.rec_)
      refine wpIn_mono (hbody _ pre x X _ (hI.putObj _ hia (by omega) ha.rec_ rfl) (hG pre x _ _ _ _ (hGa pre x X hgx) (by omega) ha.rec_) (by simp; omega) ⟨_, rfl⟩ (heap_lt ht.rec_)) (fun e b Y hp => ?_)
      cases e with
      | normal =>
        have ht2 := hbu.keeps hp.1
        exact ⟨_, _, run_endRound none ht2.rec_, rfl, ⟨hI.putObj _ hp.2.2 (by omega) ht2.rec_ rfl, ht2.turn _⟩, hKt (hKt hk0 hp.2.1) (hKb _ _ _ _ (by omega) ht2.rec_)⟩
      | ret => exact hp.2.elim
      | exit id => exact hp.2.elim
      | goto t => exact hp.2.elim
      | panic c => exact hp.elim
      | outgrown => exact hp.elim
    · rintro e Y ⟨⟨v, rfl⟩, xs, hs, hi, ht⟩
      exact ⟨none, _, run_endLoop ht.rec_ (by simp [recd]), hdone _ xs _ (Nat.le_refl _) hs (hI.putObj _ hi (by omega) ht.rec_ rfl) (ht.turn _).calls⟩
/-- The same where the round begins by a box for what came. -/
theorem range_box {α : Type} {n : Nat} {P : Program} {T : TypeId} {g : Operand} {ps : Array Tmp} {assign body : Code} {Q : Exit → Act → World → Prop} {a : Act} {w : World} (h1 : 1 ≤ n) (d : Tmp) (T' : TypeId)
    {gf : Nat} {lb : Array Value} (hg : a.eval g = .func (.func gf) #[] lb) (eg : ∀ args w, (callFunc gf args).run P w = .ok (.enter gf args) w)
    {encs : α → Array Value} {cells : α → Array Value} {G : List α → α → World → Prop} {Kp : World → World → Prop} {S : List α → Prop} {w0 : World} (hseq : SeqAll (n - 1) P T gf lb encs G Kp S w0)
    (hKt : ∀ {A B C : World}, Kp A B → Kp B C → Kp A C) (hKb : ∀ (W : World) (l : Nat) (r r' : Loop), w.heap.size ≤ l → W.heap[l]? = some (.loop r) → Kp W (W.putObj l (.loop r')))
    (hb0 : Below w0.heap.size w0 w) (hps : ∀ x, (encs x).size = ps.size)
    (hG : ∀ (pre : List α) (x : α) (W : World) (l : Nat) (r r' : Loop), G pre x W → w.heap.size ≤ l → W.heap[l]? = some (.loop r) → G pre x (W.putObj l (.loop r')))
    (I : List α → World → Prop) (hI : OwnFrom w.heap.size I) (hI2 : ∀ s W W' k cs, I s W → W.grownBy W' (some k) → k = w.heap.size + 2 → W.heap[k]? = some (.cells cs T (0, 0)) → I s W') (h0 : I [] w)
    (hGa : ∀ pre x W o, G pre x W → G pre x (W.alloc o)) (hKa : ∀ (W : World) o, w.heap.size ≤ W.heap.size → Kp W (W.alloc o))
    (hassign : ∀ (l : Nat) (x : α) (W : World) (K : Act → World → Prop), K ((({ tmps := (ps.zip (encs x)).foldl (fun t (p, v) => t.setIfInBounds p v) a.tmps, defers := [] } : Act).put (some d) (.pointer (some ⟨W.heap.size, 0, none⟩))).put none undef) (W.alloc (.cells (cells x) T')) →
      assign.wpIn (Fence.wide.inRound l) (n - 1 - 1) P (Exit.then K (fun _ _ _ => False)) { tmps := (ps.zip (encs x)).foldl (fun t (p, v) => t.setIfInBounds p v) a.tmps, defers := [] } W)
    (hbody : ∀ (l : Nat) (pre : List α) (x : α) (b : Nat) (W : World), I pre W → G pre x W → w.heap.size + 2 < W.heap.size → W.heap[b]? = some (.cells (cells x) T' (0, 0)) → body.wpIn (Fence.wide.inRound l) (n - 1 - 1) P (ownPostG w.heap.size Kp I (fun _ _ _ => False) (pre ++ [x]) W)
      ((({ tmps := (ps.zip (encs x)).foldl (fun t (p, v) => t.setIfInBounds p v) a.tmps, defers := [] } : Act).put (some d) (.pointer (some ⟨b, 0, none⟩))).put none undef) W)
    (hdone : ∀ (D : Nat) (xs : List α) (W : World), w.heap.size ≤ D → S xs → I xs W → W.heap[D]? = some (.deferred (some [])) → Q .normal { a with defers := { target := .collected D, args := #[] } :: a.defers } W) :
    (Code.rangeFunc g ps assign body).wpIn Fence.wide n P Q a w :=
  range_all h1 hg eg hseq hKt hKb hb0 hps hG I hI hI2 h0
    (fun x W => (({ tmps := (ps.zip (encs x)).foldl (fun t (p, v) => t.setIfInBounds p v) a.tmps, defers := [] } : Act).put (some d) (.pointer (some ⟨W.heap.size, 0, none⟩))).put none undef) (fun x W => W.alloc (.cells (cells x) T'))
    (fun x W => World.grownBy_alloc W _ none) (fun pre x W h => hGa pre x W _ h) (fun x W hz => hKa W _ hz) hassign
    (fun l pre x V W hi hg hz hW hl => hbody l pre x V.heap.size W hi hg hz (by
      obtain ⟨r, rfl⟩ := hW
      rw [World.putObj_heap_other (by omega)]
      exact World.alloc_heap_new V _)) hdone
/-- An operation of a list within a round that yields a value, or stores. -/
theorem listR_val {l n : Nat} {P : Program} {ops : Array Oper} {rest : List Oper} {o : Oper} {a : Act} {w : World} {Q : Exit → Act → World → Prop} {v : Value} (hg : o.guard = none) (hd : ∀ c, o.op ≠ .defer c) (hrun : (execOp a.eval o).run P w = .ok (.value v) w)
    (h : wpListIn (Fence.wide.inRound l) n P ops Q rest (a.put o.dst v) w) : wpListIn (Fence.wide.inRound l) n P ops Q (o :: rest) a w :=
  wpListIn_plain hg fun K hK => ⟨fun _ _ => trivial, by rw [Oper.semAt_plain _ _ _ hd, hrun]; exact hK _ _ h⟩
theorem listR_skip {l n : Nat} {P : Program} {ops : Array Oper} {rest : List Oper} {o : Oper} {a : Act} {w w' : World} {Q : Exit → Act → World → Prop} (hg : o.guard = none) (hd : ∀ c, o.op ≠ .defer c) (hrun : (execOp a.eval o).run P w = .ok .skip w')
    (h : wpListIn (Fence.wide.inRound l) n P ops Q rest (a.put o.dst undef) w') : wpListIn (Fence.wide.inRound l) n P ops Q (o :: rest) a w :=
  wpListIn_plain hg fun K hK => ⟨fun _ _ => trivial, by rw [Oper.semAt_plain _ _ _ hd, hrun]; exact hK _ _ h⟩
theorem listR_grow {l n : Nat} {P : Program} {ops : Array Oper} {rest : List Oper} {o : Oper} {a : Act} {w w' : World} {Q : Exit → Act → World → Prop} {v : Value} (hg : o.guard = none) (hd : ∀ c, o.op ≠ .defer c) (hrun : (execOp a.eval o).run P w = .ok (.value v) w')
    (h : wpListIn (Fence.wide.inRound l) n P ops Q rest (a.put o.dst v) w') : wpListIn (Fence.wide.inRound l) n P ops Q (o :: rest) a w :=
  wpListIn_plain hg fun K hK => ⟨fun _ _ => trivial, by rw [Oper.semAt_plain _ _ _ hd, hrun]; exact hK _ _ h⟩
end Go.Proofs.Ytcebobcakiljhaa

/-
  The iterator of cut4's fragments. Conditions are each theorem's own.
-/
namespace Go.Proofs.Ytcebobcakiljhaa
open Go.RowKit Go.Shelf
attribute [local go_sem] Oper.semAt_some

theorem at4_of {W : World} {g : Nat} {q : P4} {A : Option Addr} {c : Nat} {A' : Option Addr} {c' : Nat} (h : W.heap[g]? = some (.cells (v4a q A c A' c') 24 (0, 0))) : At4 W g q A c A' c' := fun j v hj => by
  rw [Nat.zero_add, cell_of_row _ _ _ _ _ _ h, ← Array.getElem?_toList]; exact hj
theorem wp_valU {o : Oper} {a : Act} {w : World} {K : Act → World → Prop} {Q : Exit → Act → World → Prop} {v : Value} (hrun : (execOp a.eval o).run Try.prog w = .ok (.value v) w) (h : K (a.put o.dst v) w) : o.wp Try.prog a w K Q := by
  unfold Oper.wp; rw [hrun]; exact h
theorem store_slU {o : Oper} {a : Act} {w : World} {K : Act → World → Prop} {Q : Exit → Act → World → Prop} {x y : Operand} {p : Addr} {v0 : Value} {A : Option Addr} {n c : Nat} (ho : o.op = .store 22 x y) (hx : a.eval x = .pointer (some p)) (hy : a.eval y = .slice A n c) (hc : w.cell? p = some v0) (hf : w.frozen? p = false)
    (h : K (a.put o.dst undef) (w.setCell p (.slice A n c))) : o.wp Try.prog a w K Q := by
  unfold Oper.wp execOp
  simp only [ho, hx, hy, Instr.storeAt, Instr.sureAddr, Sem.run_bind, Sem.run_pure, Result.andThen_ok]
  go_simp
  exact h
/-- An operation of a fenced list that yields a value, or stores. -/
theorem listI_val {n : Nat} {P : Program} {ops : Array Oper} {rest : List Oper} {o : Oper} {a : Act} {w : World} {Q : Exit → Act → World → Prop} {v : Value} (hg : o.guard = none) (hrun : (execOp a.eval o).run P w = .ok (.value v) w)
    (h : wpListIn Fence.wide n P ops Q rest (a.put o.dst v) w) : wpListIn Fence.wide n P ops Q (o :: rest) a w :=
  wpListIn_plain hg fun K hK => ⟨fun _ _ => trivial, by rw [show Fence.wide.round = none from rfl, Oper.semAt_none, hrun]; exact hK _ _ h⟩
theorem listI_skip {n : Nat} {P : Program} {ops : Array Oper} {rest : List Oper} {o : Oper} {a : Act} {w w' : World} {Q : Exit → Act → World → Prop} (hg : o.guard = none) (hrun : (execOp a.eval o).run P w = .ok .skip w')
    (h : wpListIn Fence.wide n P ops Q rest (a.put o.dst undef) w') : wpListIn Fence.wide n P ops Q (o :: rest) a w :=
  wpListIn_plain hg fun K hK => ⟨fun _ _ => trivial, by rw [show Fence.wide.round = none from rfl, Oper.semAt_none, hrun]; exact hK _ _ h⟩
theorem run_store4 {o : Oper} {a : Act} {w : World} {x y : Operand} {g : Nat} {t : TypeId} {cs old : Array Value} (ho : o.op = .store 24 x y) (hx : a.eval x = .pointer (some ⟨g, 0, none⟩)) (hy : a.eval y = .agg cs) (hg : w.heap[g]? = some (.cells old t (0, 0))) (hz : old.size = 11) (hl : cs.size = 11) (h1 : cs.all (·.oneCell') = true) :
    (execOp a.eval o).run Try.prog w = .ok .skip (w.setRow g cs) := by
  have hst := run_storeVar_row (P := Try.prog) w g t 24 old cs hg (by rw [hl]; kernel_rfl) (by rw [hz, hl]) h1
  unfold execOp
  simp only [ho, hx, hy, Instr.storeAt, Instr.sureAddr, Sem.run_bind, Sem.run_pure, Result.andThen_ok, hst]
/-- Each block but one lies as it lay. -/
def KeepR (r : Nat) (X Y : World) : Prop := Y.heap.size = X.heap.size ∧ Y.os = X.os ∧ Y.tape = X.tape ∧ Y.output = X.output ∧ ∀ k, k ≠ r → Y.heap[k]? = X.heap[k]?
theorem KeepR.set2 (X : World) (r i : Nat) {v : Value} : KeepR r X (X.setCell ⟨r, i, none⟩ v) := ⟨by simp, rfl, rfl, rfl, fun _ hk => Below.heap_setCell _ _ _ _ (by simpa using hk)⟩
theorem KeepR.set1 (X : World) (r i : Nat) {v : Value} : KeepR r X (X.drew.setCell ⟨r, i, none⟩ v) := ⟨by simp, rfl, rfl, rfl, fun _ hk => Below.heap_setCell X.drew _ _ _ (by simpa using hk)⟩
theorem KeepR.trans {r : Nat} {X Y Z : World} (h : KeepR r Y Z) (k : KeepR r X Y) : KeepR r X Z :=
  ⟨h.1.trans k.1, h.2.1.trans k.2.1, h.2.2.1.trans k.2.2.1, h.2.2.2.1.trans k.2.2.2.1, fun i hi => (h.2.2.2.2 i hi).trans (k.2.2.2.2 i hi)⟩
theorem c13partN (q : P4) (A : Option Addr) (c : Nat) (A' : Option Addr) (c' : Nat) (D : Option Addr) (d : Nat) (dat : List UInt8) (n : Nat) (mr : Bool) (w : World) (B : Nat) (hn : Hid (dat.length = n)) (hO : Arg w B A c q.opt) (hD : Arg w B D d dat) (hB0 : B ≤ w.heap.size) (ho : q.opt.length ≤ 1000000) (hl : n ≤ 1000000) :
    Calls Try.prog 54 #[v4v q A c A' c', .slice D n d, .bool mr] w fun e w' => ∃ P p P' p', e = .returned (v4v { q with mf := mr, dat := dat } P p P' p') ∧ Own4 w' w.heap.size ⟨{ q with mf := mr, dat := dat }, P, p, P', p'⟩ ∧ Below w.heap.size w w' := by
  have := c13part q A c A' c' D d dat mr w B hO hD hB0 ho (by rw [hn.out]; exact hl)
  rwa [hn.out] at this
/-- Options that were given, or that the call made. -/
def OptAt (W : World) (B base : Nat) (A : Option Addr) (c : Nat) (bs : List UInt8) : Prop := Arg W B A c bs ∨ W.ownsRow base 5 1 (.slice A bs.length c) bs.length (row bs)
theorem OptAt.arg {W : World} {B base : Nat} {A : Option Addr} {c : Nat} {bs : List UInt8} (h : OptAt W B base A c bs) (hB : B ≤ W.heap.size) : Arg W W.heap.size A c bs := by
  rcases h with h | h
  · exact h.more hB
  · exact arg_own h
def Kp4 (B : Nat) (X Y : World) : Prop := KeepS 24 26 11 X Y ∧ KeepP (· < B) X Y
theorem Kp4.refl (B : Nat) (X : World) : Kp4 B X X := ⟨KeepS.refl X, KeepP.refl _ X⟩
theorem Kp4.trans {B : Nat} {X Y Z : World} (h : Kp4 B X Y) (k : Kp4 B Y Z) : Kp4 B X Z := ⟨h.1.trans k.1, h.2.trans k.2⟩
theorem Kp4.of_below {B : Nat} {X Y : World} (h : Below X.heap.size X Y) (hB : B ≤ X.heap.size) : Kp4 B X Y := ⟨KeepS.of_below h, KeepP.of_below h (fun _ hk => Nat.lt_of_lt_of_le hk hB)⟩
theorem Kp4.arg {B : Nat} {X Y : World} {A : Option Addr} {c : Nat} {bs : List UInt8} (k : Kp4 B X Y) (h : Arg X B A c bs) : Arg Y B A c bs := ⟨h.rd.keep (fun _ hp => k.2.cell hp), h.cap, h.none_⟩
theorem Kp4.opt {B base : Nat} {X Y : World} {A : Option Addr} {c : Nat} {bs : List UInt8} (k : Kp4 B X Y) (h : OptAt X B base A c bs) : OptAt Y B base A c bs := by
  rcases h with h | h
  · exact .inl (k.arg h)
  · exact .inr (k.1.own h (nat_ne (by kernel_rfl)) (nat_ne (by kernel_rfl)))
/-- The same of a world that differs in one block of a packet, above what was given. -/
theorem KeepR.arg {r B : Nat} {X Y : World} {A : Option Addr} {c : Nat} {bs : List UInt8} (k : KeepR r X Y) (hr : B ≤ r) (h : Arg X B A c bs) : Arg Y B A c bs :=
  ⟨h.rd.keep (fun p hp => World.cell?_of_block (w := X) (k.2.2.2.2 p.block (by omega))), h.cap, h.none_⟩
theorem KeepR.own {r base e sz n t : Nat} {X Y : World} {v : Value} {xs : List Value} {cs : Array Value} (k : KeepR r X Y) (hr : X.heap[r]? = some (.cells cs t (0, 0))) (hte : t ≠ e) (h : X.ownsRow base e sz v n xs) : Y.ownsRow base e sz v n xs := by
  refine ⟨h.1, ?_⟩
  rcases h.2 with hn | ⟨g', cap, cur, hv, hb, hg', rest⟩
  · exact .inl hn
  · exact .inr ⟨g', cap, cur, hv, hb, (k.2.2.2.2 g' (fun e' => by subst e'; rw [hg'] at hr; cases hr; exact hte rfl)).trans hg', rest⟩
theorem KeepR.grown {r : Nat} {X Y : World} (k : KeepR r X Y) : X.grownBy Y (some r) := ⟨k.2.1, k.2.2.1, k.2.2.2.1, by rw [k.1]; exact Nat.le_refl _, fun i _ hi => k.2.2.2.2 i (fun e => hi (by rw [e]))⟩
/-- The first block that was laid since may be written. -/
theorem Kp4.set {B r : Nat} {X Y Z : World} (h : Kp4 B X Y) (_hrr : r ≤ r) (hBr : B ≤ r) (hr : X.heap.size ≤ r) (k : KeepR r Y Z) : Kp4 B X Z :=
  ⟨⟨by rw [k.1]; exact h.1.size, fun i cs ty fr hi h1 h2 => (k.2.2.2.2 i (fun e => by have := heap_lt hi; omega)).trans (h.1.block i cs ty fr hi h1 h2)⟩,
   ⟨by rw [k.1]; exact h.2.1, fun i hi => (k.2.2.2.2 i (fun e => by have : i < B := hi; omega)).trans (h.2.2 i hi)⟩⟩
def enc4 (x : X4) : Array Value := #[v4v x.q x.A x.c x.A' x.c']
/-- What is known of a fragment when it comes. -/
def G4 (L : List P4) (base : Nat) (pre : List X4) (x : X4) (W : World) : Prop := (∃ more, L = pre.map (·.q) ++ x.q :: more) ∧ Own4 W base x
/-- How many bytes of data the packet in a box has. -/
def dlen (w : World) (g : Nat) : Nat := match w.cell? ⟨g, 10, none⟩ with | some (.slice _ n _) => n | _ => 0
theorem dlen_row {w : World} {g : Nat} {q : P4} {A : Option Addr} {c : Nat} {A' : Option Addr} {c' : Nat} (h : w.heap[g]? = some (.cells (v4a q A c A' c') 24 (0, 0))) : dlen w g = q.dat.length := by
  unfold dlen; rw [(at4_of h).dat]
set_option maxRecDepth 100000 in
set_option maxHeartbeats 2000000 in
theorem frs1_in (m : Nat) (hm : 1 ≤ m) (l Bp Bm base B : Nat) (q : P4) (A : Option Addr) (c : Nat) (A' : Option Addr) (c' : Nat) (mtu : Int) (hcut : Cuttable mtu q) (hco : (copied q.opt).length ≤ 40 ∧ (copied q.opt).length % 4 = 0) (J : List X4 → World → Prop) (W : World)
    (hO : Arg W B A c q.opt) (hD : Arg W B A' c' q.dat) (hBb : B ≤ base) (hbW : base ≤ W.heap.size) (hp : W.heap[Bp]? = some (.cells (v4a q A c A' c') 24 (0, 0))) (hmb : Boxed W Bm 3 (.int .i64 mtu)) (hJA : StaysAt 24 W.heap.size J)
    (hY : ∀ pre x X, J pre X → G4 (rst4 mtu (copied q.opt) q.mf q) base pre x X → W.heap.size < X.heap.size → YieldAt Fence.wide (m - 1) Try.prog l (enc4 x) X fun e Y => e = .returned (.bool true) ∧ J (pre ++ [x]) Y ∧ Kp4 B X Y) (hJ : J [] W) :
    CallsIn Fence.wide m Try.prog 53 #[.func (.yield l) #[] #[], .pointer (some ⟨Bp, 0, none⟩), .pointer (some ⟨Bm, 0, none⟩)] W fun e W' => (∃ v, e = .returned v) ∧ ∃ xs : List X4, xs.map (·.q) = rst4 mtu (copied q.opt) q.mf q ∧ J xs W' := by
  have hTt : 24 ≠ 26 := nat_ne (by kernel_rfl)
  have hTu : 24 ≠ 5 := nat_ne (by kernel_rfl)
  have hTi : 3 ≠ 26 := nat_ne (by kernel_rfl)
  obtain ⟨o, ho⟩ : ∃ o, o = copied q.opt := ⟨_, rfl⟩
  obtain ⟨L, hL⟩ : ∃ L, L = rst4 mtu (copied q.opt) q.mf q := ⟨_, rfl⟩
  rw [← hL] at hY ⊢
  rw [← ho] at hL hco
  have HL0 := Lib.hid hL
  have HOO := Lib.hid ho
  have hAp := at4_of hp
  have HCU := Lib.hid hcut
  have hqo : q.opt.length ≤ 40 := hcut.opt.1
  have hmtu : 68 ≤ mtu ∧ mtu ≤ 65535 := ⟨hcut.lo, hcut.hi⟩
  clear hL ho hcut
  have hNew := W.alloc_heap_new (.cells (v4a q A c A' c') 24)
  refine callsIn_of_wp Try.func53 rfl trivial ?_ rfl
  simp only [Try.ntmps53, List.size_toArray, List.length_cons, List.length_nil, Nat.reduceAdd, Nat.reduceSub, Array.replicate_succ, Array.replicate_zero, List.push_toArray, List.append_toArray, List.nil_append, List.cons_append]
  gi_wp2_with (first
    | ((with_reducible show wpListIn _ _ _ _ _ (Oper.mk _ (Op.load 24 _) _ _ _ _ :: _) _ _); refine listI_val rfl (run_load_v4 rfl rfl hAp rfl) ?_)
    | ((with_reducible show wpListIn _ _ _ _ _ (Oper.mk _ (Op.store 24 _ _) _ _ _ _ :: _) _ _); refine listI_skip rfl (run_store4 (cs := v4a q A c A' c') rfl rfl rfl (World.alloc_heap_new W _) rfl rfl (v4a_one _ _ _ _ _)) ?_; rw [World.setRow_alloc_new]))
  have hAv := Kp4.of_below (B := B) ((Below.refl _ W).alloc (Nat.le_refl _) (.cells (v4a q A c A' c') 24)) (by omega)
  have hJ1 : J [] (W.alloc (.cells (v4a q A c A' c') 24)) := hJA [] W _ none hJ (World.grownBy_alloc W _ none) (fun _ e => by cases e)
  have hs1 : (W.alloc (.cells (v4a q A c A' c') 24)).heap.size = W.heap.size + 1 := by simp
  obtain ⟨r, hr⟩ : ∃ r, r = W.heap.size := ⟨_, rfl⟩
  rw [← hr] at hNew hs1 ⊢
  have hBpr : Bp < r := by rw [hr]; exact heap_lt hp
  have hBmr : Bm < r := by rw [hr]; exact Boxed.lt hmb
  have hbr : base ≤ r := by rw [hr]; exact hbW
  have hJA' : StaysAt 24 r J := by rw [hr]; exact hJA
  rw [← hr] at hY
  obtain ⟨W0, hW0⟩ : ∃ W0, W0 = W.alloc (.cells (v4a q A c A' c') 24) := ⟨_, rfl⟩
  rw [← hW0] at hNew hJ1 hs1 hAv ⊢
  have HR := Lib.hid hr
  have hrV : W.heap.size ≤ r := by rw [hr]; exact Nat.le_refl _
  clear hW0 hr hAp hJA hJ hbW
  go_frame
  gi_loopw [] (fun wr => ∃ (rs : P4) (Ao : Option Addr) (co : Nat) (Ad : Option Addr) (cd : Nat) (pre : List X4), Hid (L = pre.map (·.q) ++ rst4 mtu o q.mf rs) ∧ Hid (Cuttable mtu rs) ∧ wr.heap[r]? = some (.cells (v4a rs Ao co Ad cd) 24 (0, 0)) ∧
      OptAt wr B base Ao co rs.opt ∧ Arg wr B Ad cd rs.dat ∧ J pre wr ∧ Kp4 B W wr ∧ r < wr.heap.size)
    (fun wr => dlen wr r)
  case atStart => exact ⟨q, A, c, A', c', [], HL0, HCU, hNew, .inl (hAv.arg hO), hAv.arg hD, hJ1, hAv, by omega⟩
  case round =>
    obtain ⟨rs, Ao, co, Ad, cd, pre, HL, HC, hrow, hOp, hDt, hJs, hK, hrlt⟩ := hrel
    have hAt := at4_of hrow
    have hmw := hK.1.box hmb hTi (fun e => by omega)
    have km := hmw.cell
    have hmlt : Bm < wr.heap.size := by omega
    have ho1 : rs.opt.length ≤ 1000000 := by have := HC.out.opt.1; omega
    have hd1 : rs.dat.length ≤ 65535 := by obtain ⟨b1, _, b3, _⟩ := HC.out.off; omega
    have hd2 : rs.dat.length ≤ 1000000 := by omega
    have hcapD := hDt.cap
    by_cases hs : size4 rs > mtu
    · have d1 : decide (size4 rs > mtu) = true := by simpa using hs
      have d2 : decide (mtu < size4 rs) = true := by simpa using hs
      have hrb := room_bd HC.out
      have hrl := room_lt HC.out hs
      have HS := Lib.hid hs
      clear hs
      gi_wp2
      refine wpIn_wide.2 ?_
      refine wp_region_held_drew (S := fun w' => Below wr.heap.size wr w') (by kernel_rfl) (Below.refl _ wr).drew (fun hS => ?_)
      refine held_pure (i := 0) (oi := ⟨some 7, _, _, _, _, _⟩) rfl (by kernel_rfl) (by kernel_rfl) (by kernel_rfl) (fun _ _ _ h => h) (by rfl) (fun w hSw => run_load_v4 rfl rfl (hAt.below hSw hrlt) rfl) hS (fun hS => ?_)
      try go_frame
      refine held_pure (i := 2) (oi := ⟨some 9, _, _, _, _, _⟩) rfl (by kernel_rfl) (by kernel_rfl) (by kernel_rfl) (fun _ _ _ h => h) (by rfl) (fun w hSw => run_load_int rfl rfl ((hSw.cell (p := ⟨Bm, 0, none⟩) hmlt).trans km)) hS (fun hS => ?_)
      try go_frame
      refine wpAnyH_ready (rs := [1]) (by kernel_rfl) (by simp) (AllReadyH.cons (o := ⟨some 8, _, _, _, _, _⟩) rfl (fun K hK => ?_) AllReadyH.nil)
      rw [if_pos (by rfl)]
      go_simp
      refine (c4size rs Ao co Ad cd _ ho1 hd2).mono ?_
      rintro e w1 ⟨rfl, x1⟩
      show K _ _
      refine hK.out _ _ (below_step hS x1) (fun hS => ?_)
      clear hK K
      try go_frame
      refine held_pure (i := 3) (oi := ⟨some 10, _, _, _, _, _⟩) rfl (by kernel_rfl) (by kernel_rfl) (by kernel_rfl) (fun _ _ _ h => h) (by rfl) (v := ?_) (fun w hSw => ?_) hS (fun hS => ?_)
      rotate_left
      · go_simp; try with_reducible rfl
      try go_frame
      refine wpAnyH_done (by kernel_rfl) ?_ _
      gi_wp2
      have hAt2 := hAt.below hS hrlt
      have hrlt2 : r < w1.heap.size := Nat.lt_of_lt_of_le hrlt hS.size
      have km2 := (hS.cell (p := ⟨Bm, 0, none⟩) hmlt).trans km
      have hmlt2 : Bm < w1.heap.size := Nat.lt_of_lt_of_le hmlt hS.size
      obtain ⟨H, hH⟩ : ∃ H, H = head4 rs := ⟨_, rfl⟩
      have HH := Lib.hid hH.symm
      have hHb : 20 ≤ H ∧ H ≤ 60 := by have := HC.out.opt.1; have e : head4 rs = 20 + (rs.opt.length : Int) := rfl; omega
      obtain ⟨z, hz⟩ : ∃ z, z = (room mtu rs).toNat := ⟨_, rfl⟩
      have HZ := Lib.hid (show room mtu rs = (z : Int) by omega)
      obtain ⟨D0, hD0⟩ : ∃ D0, D0 = mtu - H := ⟨_, rfl⟩
      have hrz : (z : Int) = D0 - D0 % 8 := by rw [← HZ.out, hD0, hH]; rfl
      have HD0 := Lib.hid hD0.symm
      have hD0b : 8 ≤ D0 ∧ D0 ≤ 65535 := by omega
      have hzb : 8 ≤ z ∧ z ≤ 65535 ∧ z < rs.dat.length := by omega
      have hz6 : z ≤ 1000000 := by omega
      have hz7 : ¬ cd = z := by omega
      have hzl := hzb.2.2
      have e8 : D0.tmod 8 = D0 % 8 := Int.tmod_eq_emod_of_nonneg (by omega)
      have e9 : wrap64 (D0 - D0 % 8) = (z : Int) := by rw [hrz]; unfold wrap64; omega
      have e10 : D0 - D0 % 8 = (z : Int) := hrz.symm
      obtain ⟨DZ, hDZ⟩ : ∃ DZ, DZ = rs.dat.take z := ⟨_, rfl⟩
      have HDZ : Hid (DZ.length = z) := Lib.hid (by rw [hDZ, List.length_take]; omega)
      have HP1 : Hid (part1 mtu rs = { rs with mf := true, dat := DZ }) := Lib.hid (by rw [hDZ, hz]; rfl)
      obtain ⟨DR, hDR⟩ : ∃ DR, DR = rs.dat.drop z := ⟨_, rfl⟩
      have HDR : Hid (DR.length = rs.dat.length - z) := Lib.hid (by rw [hDR, List.length_drop])
      obtain ⟨O1, hO1⟩ : ∃ O1, O1 = rs.off + (z : Int) := ⟨_, rfl⟩
      have HR1 : Hid (rest1 mtu o rs = { rs with off := O1, opt := o, dat := DR }) := Lib.hid (by rw [hDR, hO1, hz, rest1]; congr 1; omega)
      have HO1 : Hid (IntKind.i64.wrap (rs.off + (z : Int)) = O1) := Lib.hid (by obtain ⟨b1, _, b3, _⟩ := HC.out.off; rw [hO1]; exact IntWalk.i64_in _ (by omega))
      have HRS := Lib.hid (rst4_more (o := o) (mf := q.mf) HC.out hco HS.out)
      have NXT : Hid (∃ more, L = pre.map (·.q) ++ { rs with mf := true, dat := DZ } :: more) := Lib.hid ⟨_, by rw [HL.out, HRS.out, HP1.out]⟩
      have hS1 := hS
      have HDD := Lib.hid hDZ
      have HDE := Lib.hid hDR
      clear hS hz hD0 hDZ hDR hO1 hH hrz hrb hrl d1 d2
      refine wpIn_wide.2 ?_
      refine wp_region_held_drew (S := fun w' => Below w1.heap.size w1 w') (by kernel_rfl) (Below.refl _ w1).drew (fun hS => ?_)
      refine held_pure (i := 0) (oi := ⟨some 11, _, _, _, _, _⟩) rfl (by kernel_rfl) (by kernel_rfl) (by kernel_rfl) (fun _ _ _ h => h) (by rfl) (fun w hSw => run_load_int rfl rfl ((hSw.cell (p := ⟨Bm, 0, none⟩) hmlt2).trans km2)) hS (fun hS => ?_)
      try go_frame
      refine held_pure (i := 1) (oi := ⟨some 12, _, _, _, _, _⟩) rfl (by kernel_rfl) (by kernel_rfl) (by kernel_rfl) (fun _ _ _ h => h) (by rfl) (fun w hSw => run_load_v4 rfl rfl (hAt2.below hSw hrlt2) rfl) hS (fun hS => ?_)
      try go_frame
      refine wpAnyH_ready (rs := [2]) (by kernel_rfl) (by simp) (AllReadyH.cons (o := ⟨some 13, _, _, _, _, _⟩) rfl (fun K hK => ?_) AllReadyH.nil)
      rw [if_pos (by rfl)]
      go_simp
      refine (c4head rs Ao co Ad cd _ ho1).mono ?_
      rintro e w2 ⟨rfl, x2⟩
      rw [HH.out]
      show K _ _
      refine hK.out _ _ (below_step hS x2) (fun hS => ?_)
      clear hK K
      try go_frame
      refine held_pure (i := 3) (oi := ⟨some 14, _, _, _, _, _⟩) rfl (by kernel_rfl) (by kernel_rfl) (by kernel_rfl) (fun _ _ _ h => h) (by rfl) (v := .int .i64 D0) (fun w hSw => by go_simp; rw [HD0.out]; exact IntWalk.i64_in _ (by omega)) hS (fun hS => ?_)
      try go_frame
      refine held_pure (i := 4) (oi := ⟨some 5, _, _, _, _, _⟩) rfl (by kernel_rfl) (by kernel_rfl) (by kernel_rfl) (fun _ _ _ h => h) (by rfl) (v := ?_) (fun w hSw => ?_) hS (fun hS => ?_)
      rotate_left
      · go_simp; try with_reducible rfl
      try go_frame
      refine wpAnyH_done (by kernel_rfl) ?_ _
      have hX : Below wr.heap.size wr w2 := hS1.trans (hS.mono hS1.size)
      clear hS hS1 hAt2 hrlt2 km2 hmlt2
      gi_wp2
      have hrow5 := (hX.block r hrlt).trans hrow
      have hrlt5 : r < w2.heap.size := Nat.lt_of_lt_of_le hrlt hX.size
      have hJ5 := hJA' pre wr w2 none hJs (grown_none hX) (fun _ e => by cases e)
      have hK5 := hK.trans (Kp4.of_below hX (by omega))
      have hOp5 := ((Kp4.of_below hX (by omega)).opt hOp).arg (by omega)
      have hDt5 := (Kp4.of_below hX (by omega)).arg hDt
      have hDZ5 : Arg w2 w2.heap.size Ad cd DZ := by rw [HDD.out]; exact (hDt5.cut_hi z (by omega)).more (by omega)
      have hbase5 : base ≤ w2.drew.heap.size := by show base ≤ w2.heap.size; omega
      have hrowM := hrow
      clear hAt km hmw hmlt hrow hJs
      refine regionI (S := fun V => KeepS 24 26 11 w2 V) (by kernel_rfl) (KeepS.of_below (Below.refl _ w2).drew) (fun hS => ?_)
      refine pureI (i := 0) (oi := ⟨some 19, _, _, _, _, _⟩) rfl (by kernel_rfl) (by kernel_rfl) (by kernel_rfl) (fun _ _ _ h => h) (by rfl) (v := ?_) (fun w hSw => ?_) hS (fun hS => ?_)
      rotate_left
      · go_simp; try with_reducible rfl
      try go_frame
      refine pureI (i := 1) (oi := ⟨some 20, _, _, _, _, _⟩) rfl (by kernel_rfl) (by kernel_rfl) (by kernel_rfl) (fun _ _ _ h => h) (by rfl) (fun w hSw => run_load_v4 rfl rfl (at4_of (hSw.heap hrow5 hTt (by simp [v4a]))) rfl) hS (fun hS => ?_)
      try go_frame
      refine pureI (i := 2) (oi := ⟨some 21, _, _, _, _, _⟩) rfl (by kernel_rfl) (by kernel_rfl) (by kernel_rfl) (fun _ _ _ h => h) (by rfl) (v := ?_) (fun w hSw => ?_) hS (fun hS => ?_)
      rotate_left
      · go_simp; try with_reducible rfl
      try go_frame
      refine pureI (i := 3) (oi := ⟨some 22, _, _, _, _, _⟩) rfl (by kernel_rfl) (by kernel_rfl) (by kernel_rfl) (fun _ _ _ h => h) (by rfl) (fun w hSw => run_load_sl rfl rfl (at4_of (hSw.heap hrow5 hTt (by simp [v4a]))).dat) hS (fun hS => ?_)
      try go_frame
      refine pureI (i := 4) (oi := ⟨some 23, _, _, _, _, _⟩) rfl (by kernel_rfl) (by kernel_rfl) (by kernel_rfl) (fun _ _ _ h => h) (by rfl) (v := ?_) (fun w hSw => ?_) hS (fun hS => ?_)
      rotate_left
      · go_simp; try with_reducible rfl
      try go_frame
      refine pureI (i := 5) (oi := ⟨some 24, _, _, _, _, _⟩) rfl (by kernel_rfl) (by kernel_rfl) (by kernel_rfl) (fun _ _ _ h => h) (by rfl) (fun w hSw => run_cut_h (h := (z : Int)) rfl rfl rfl (by omega) (by omega) (m := z) (by omega)) hS (fun hS => ?_)
      try go_frame
      refine oneI (i := 6) (oi := ⟨some 25, _, _, _, _, _⟩) (by kernel_rfl) rfl (by rfl) (fun K hK => ?_)
      refine callI (f := 54) (args := #[v4v rs Ao co Ad cd, .slice Ad z cd, .bool true]) (by go_simp; try rfl) ?_
      refine (c13partN rs Ao co Ad cd Ad cd DZ z true _ w2.heap.size HDZ (hOp5.below (Below.refl _ w2).drew) (hDZ5.below (Below.refl _ w2).drew) (Nat.le_refl _) ho1 hz6).mono ?_
      rintro e w6 ⟨P, p, P', p', rfl, own6, x6⟩
      refine ⟨_, rfl, hK _ _ (hS.trans (KeepS.of_below x6)) (fun hS => ?_)⟩
      clear hK K
      try go_frame
      refine oneI (i := 7) (oi := ⟨some 26, _, _, _, _, _⟩) (by kernel_rfl) rfl (by rfl) (fun K hK => ?_)
      refine yieldI (l := l) (args := enc4 ⟨{ rs with mf := true, dat := DZ }, P, p, P', p'⟩) (by go_simp; try rfl) (hY pre ⟨{ rs with mf := true, dat := DZ }, P, p, P', p'⟩ w6 (hJA' pre _ w6 none hJ5 (grown_none ((Below.refl _ w2).drew.trans x6)) (fun _ e => by cases e)) ⟨NXT.out, own6.base_ hbase5⟩ (by have := x6.size; exact Nat.lt_of_lt_of_le hrlt5 this)) ?_
      rintro e W3 ⟨rfl, hJ3, hk3⟩
      refine ⟨_, rfl, hK _ _ (hS.trans hk3.1) (fun hS => ?_)⟩
      clear hK K
      try go_frame
      refine pureI (i := 8) (oi := ⟨some 27, _, _, _, _, _⟩) rfl (by kernel_rfl) (by kernel_rfl) (by kernel_rfl) (fun _ _ _ h => h) (by rfl) (v := ?_) (fun w hSw => ?_) hS (fun hS => ?_)
      rotate_left
      · go_simp; try with_reducible rfl
      try go_frame
      refine doneI (by kernel_rfl) ?_ _
      gi_wp2
      have hrow3 := hS.heap hrow5 hTt (by simp [v4a])
      have hK36 : Kp4 B w2 W3 := ⟨hS, (KeepP.of_below ((Below.refl _ w2).drew.trans x6) (fun k hk => by show k < w2.heap.size; omega)).trans hk3.2⟩
      have hK3 := hK5.trans hK36
      have hOp3 := hK36.opt ((Kp4.of_below hX (by omega)).opt hOp)
      have hDt3 := hK36.arg hDt5
      have hrlt3 : r < W3.heap.size := Nat.lt_of_lt_of_le hrlt5 hS.size
      have k2 : W3.drew.cell? ⟨r, 2, none⟩ = some (.int .i64 rs.off) := (at4_of hrow3).off
      have f2 : W3.drew.frozen? ⟨r, 2, none⟩ = false := heap_frozen hrow3 2
      have k10 : W3.drew.cell? ⟨r, 10, none⟩ = some (.slice Ad rs.dat.length cd) := (at4_of hrow3).dat
      have f10 : W3.drew.frozen? ⟨r, 10, none⟩ = false := heap_frozen hrow3 10
      clear hS hK36 hX hJ5 hOp hDt hOp5 hDZ5 hrow5 own6 x6 hk3 hK hK5
      refine wpIn_wide.2 ?_
      refine wp_region_held_drew (S := fun _ => True) (by kernel_rfl) trivial (fun hS => ?_)
      refine held_pure (i := 0) (oi := ⟨some 28, _, _, _, _, _⟩) rfl (by kernel_rfl) (by kernel_rfl) (by kernel_rfl) (fun _ _ _ h => h) (by rfl) (v := ?_) (fun w hSw => ?_) hS (fun hS => ?_)
      rotate_left
      · go_simp; try with_reducible rfl
      try go_frame
      refine held_pure (i := 2) (oi := ⟨some 30, _, _, _, _, _⟩) rfl (by kernel_rfl) (by kernel_rfl) (by kernel_rfl) (fun _ _ _ h => h) (by rfl) (v := ?_) (fun w hSw => ?_) hS (fun hS => ?_)
      rotate_left
      · go_simp; try with_reducible rfl
      try go_frame
      refine held_pure (i := 4) (oi := ⟨some 32, _, _, _, _, _⟩) rfl (by kernel_rfl) (by kernel_rfl) (by kernel_rfl) (fun _ _ _ h => h) (by rfl) (v := ?_) (fun w hSw => ?_) hS (fun hS => ?_)
      rotate_left
      · go_simp; try with_reducible rfl
      try go_frame
      refine held_pure (i := 6) (oi := ⟨some 34, _, _, _, _, _⟩) rfl (by kernel_rfl) (by kernel_rfl) (by kernel_rfl) (fun _ _ _ h => h) (by rfl) (v := ?_) (fun w hSw => ?_) hS (fun hS => ?_)
      rotate_left
      · go_simp; try with_reducible rfl
      try go_frame
      refine wpAnyH_ready (rs := [1, 5]) (by kernel_rfl) (by simp) (AllReadyH.cons (o := ⟨some 29, _, _, _, _, _⟩) rfl (fun K hK => ?_) (AllReadyH.cons (o := ⟨some 33, _, _, _, _, _⟩) rfl (fun K hK => ?_) AllReadyH.nil))
      · rw [if_pos (by rfl)]
        refine wp_valU (v := .int .i64 rs.off) (run_load_int rfl rfl k2) ?_
        refine hK.out _ _ trivial (fun hS => ?_)
        clear hK K
        try go_frame
        refine held_pure (i := 3) (oi := ⟨some 31, _, _, _, _, _⟩) rfl (by kernel_rfl) (by kernel_rfl) (by kernel_rfl) (fun _ _ _ h => h) (by rfl) (v := .int .i64 O1) (fun w hSw => by go_simp; exact HO1.out) hS (fun hS => ?_)
        try go_frame
        refine wpAnyH_ready (rs := [5]) (by kernel_rfl) (by simp) (AllReadyH.cons (o := ⟨some 33, _, _, _, _, _⟩) rfl (fun K hK => ?_) AllReadyH.nil)
        rw [if_pos (by rfl)]
        refine wp_valU (v := .slice Ad rs.dat.length cd) (run_load_sl rfl rfl k10) ?_
        refine hK.out _ _ trivial (fun hS => ?_)
        clear hK K
        try go_frame
        refine held_pure (i := 7) (oi := ⟨some 35, _, _, _, _, _⟩) rfl (by kernel_rfl) (by kernel_rfl) (by kernel_rfl) (fun _ _ _ h => h) (by rfl) (fun w hSw => run_cut_l rfl rfl (l := z) rfl (by omega) (m := DR.length) (by have := HDR.out; omega)) hS (fun hS => ?_)
        try go_frame
        refine held_pure (i := 8) (oi := ⟨some 36, _, _, _, _, _⟩) rfl (by kernel_rfl) (by kernel_rfl) (by kernel_rfl) (fun _ _ _ h => h) (by rfl) (v := ?_) (fun w hSw => ?_) hS (fun hS => ?_)
        rotate_left
        · go_simp; try with_reducible rfl
        try go_frame
        refine wpAnyH_ready (rs := [9]) (by kernel_rfl) (by simp) (AllReadyH.cons (o := ⟨none, _, _, _, _, _⟩) rfl (fun K hK => ?_) AllReadyH.nil)
        rw [if_pos (by rfl)]
        refine store_int_wp rfl rfl rfl k2 f2 ?_
        have hrow9 : (W3.drew.setCell ⟨r, 2, none⟩ (.int .i64 O1)).heap[r]? = some (.cells (v4a { rs with off := O1 } Ao co Ad cd) 24 (0, 0)) := heap_setCell_same W3.drew r 2 _ _ (.int .i64 O1) hrow3
        have hk8 : KeepR r W3 (W3.drew.setCell ⟨r, 2, none⟩ (.int .i64 O1)) := KeepR.set1 _ _ _
        clear k2 f2 k10 f10
        generalize W3.drew.setCell ⟨r, 2, none⟩ (.int .i64 O1) = V9 at *
        have k10 : V9.cell? ⟨r, 10, none⟩ = some (.slice Ad rs.dat.length cd) := (at4_of hrow9).dat
        have f10 := heap_frozen hrow9 10
        refine hK.out _ _ trivial (fun hS => ?_)
        clear hK K
        try go_frame
        refine held_pure (i := 10) (oi := ⟨some 37, _, _, _, _, _⟩) rfl (by kernel_rfl) (by kernel_rfl) (by kernel_rfl) (fun _ _ _ h => h) (by rfl) (v := ?_) (fun w hSw => ?_) hS (fun hS => ?_)
        rotate_left
        · go_simp; try with_reducible rfl
        try go_frame
        refine wpAnyH_ready (rs := [11]) (by kernel_rfl) (by simp) (AllReadyH.cons (o := ⟨none, _, _, _, _, _⟩) rfl (fun K hK => ?_) AllReadyH.nil)
        rw [if_pos (by rfl)]
        refine store_slU rfl rfl rfl k10 f10 ?_
        refine hK.out _ _ trivial (fun hS => ?_)
        clear hK K
        try go_frame
        refine wpAnyH_done (by kernel_rfl) ?_ _
        have hrow7 : (V9.setCell ⟨r, 10, none⟩ (.slice (cutA Ad cd z) DR.length (cd - z))).heap[r]? = some (.cells (v4a { rs with off := O1, dat := DR } Ao co (cutA Ad cd z) (cd - z)) 24 (0, 0)) := heap_setCell_same V9 r 10 _ _ (.slice (cutA Ad cd z) DR.length (cd - z)) hrow9
        have hk9 : KeepR r W3 (V9.setCell ⟨r, 10, none⟩ (.slice (cutA Ad cd z) DR.length (cd - z))) := (KeepR.set2 _ _ _).trans hk8
        clear hrow9 k10 f10
        have hpV : (V9.setCell ⟨r, 10, none⟩ (.slice (cutA Ad cd z) DR.length (cd - z))).heap[Bp]? = some (.cells (v4a q A c A' c') 24 (0, 0)) := (hk9.2.2.2.2 Bp (by omega)).trans (hK3.1.heap hp hTt (by simp [v4a]))
        generalize V9.setCell ⟨r, 10, none⟩ (.slice (cutA Ad cd z) DR.length (cd - z)) = V at *
        have kp9 := (at4_of hpV).opt
        have hOV := hk9.arg (show B ≤ r by omega) (hK3.arg hO)
        have hDV := hk9.arg (show B ≤ r by omega) hDt3
        have hzV := hk9.1
        have hcp := c13copied A q.opt c B V hOV (by omega) (by omega)
        rw [← HOO.out] at hcp
        gi_wp2_with (refine ⟨trivial, ?_⟩; gi_at_call 13; refine (callsIn_wide.2 hcp).mono ?_; rintro e w7 ⟨v7, rfl, m7⟩; obtain ⟨P7, p7, rfl, g7, o7, x7⟩ := made_shape m7; have hrow8 := (x7.block r (by omega)).trans hrow7; have k9 : w7.cell? ⟨r, 9, none⟩ = some (.slice Ao rs.opt.length co) := (at4_of hrow8).opt; have f9 := heap_frozen hrow8 9)
        have hrow10 : (w7.setCell ⟨r, 9, none⟩ (.slice P7 o.length p7)).heap[r]? = some (.cells (v4a { rs with off := O1, opt := o, dat := DR } P7 p7 (cutA Ad cd z) (cd - z)) 24 (0, 0)) := heap_setCell_same w7 r 9 _ _ (.slice P7 o.length p7) hrow8
        have hk10 : KeepR r w7 (w7.setCell ⟨r, 9, none⟩ (.slice P7 o.length p7)) := KeepR.set2 _ _ _
        have hJV := hJA' _ W3 V (some r) hJ3 hk9.grown (fun _ e => by cases e; exact .inr ⟨rfl, _, hrow3⟩)
        have hJ7 := hJA' _ V w7 none hJV (grown_none x7) (fun _ e => by cases e)
        have hJ8 := hJA' _ w7 _ (some r) hJ7 hk10.grown (fun _ e => by cases e; exact .inr ⟨rfl, _, hrow8⟩)
        have hKV := hK3.set (Nat.le_refl _) (show B ≤ r by omega) hrV hk9
        have hK7 := hKV.trans (Kp4.of_below x7 (by omega))
        have hK8 := hK7.set (Nat.le_refl _) (show B ≤ r by omega) hrV hk10
        go_roundw
        case rel =>
          refine ⟨{ rs with off := O1, opt := o, dat := DR }, P7, p7, cutA Ad cd z, cd - z, pre ++ [⟨{ rs with mf := true, dat := DZ }, P, p, P', p'⟩], Lib.hid ?_, Lib.hid ?_, hrow10, .inr ?_, ?_, hJ8, hK8, ?_⟩
          · rw [HL.out, HRS.out, HP1.out, HR1.out, List.map_append, List.append_assoc]; rfl
          · rw [← HR1.out]; exact HC.out.rest HS.out hco
          · exact own_base (hk10.own hrow8 hTu o7) (by omega)
          · refine hk10.arg (by omega) ?_
            have hcu := (hDV.cut_lo z).below (x7.mono (show B ≤ V.heap.size by omega))
            rwa [← HDE.out] at hcu
          · have := hk10.1; have := x7.size; omega
        case measure =>
          rw [dlen_row hrow10, dlen_row hrowM]
          show DR.length < _
          have := HDR.out; omega
      · rw [if_pos (by rfl)]
        refine wp_valU (v := .slice Ad rs.dat.length cd) (run_load_sl rfl rfl k10) ?_
        refine hK.out _ _ trivial (fun hS => ?_)
        clear hK K
        try go_frame
        refine held_pure (i := 7) (oi := ⟨some 35, _, _, _, _, _⟩) rfl (by kernel_rfl) (by kernel_rfl) (by kernel_rfl) (fun _ _ _ h => h) (by rfl) (fun w hSw => run_cut_l rfl rfl (l := z) rfl (by omega) (m := DR.length) (by have := HDR.out; omega)) hS (fun hS => ?_)
        try go_frame
        refine wpAnyH_ready (rs := [1]) (by kernel_rfl) (by simp) (AllReadyH.cons (o := ⟨some 29, _, _, _, _, _⟩) rfl (fun K hK => ?_) AllReadyH.nil)
        rw [if_pos (by rfl)]
        refine wp_valU (v := .int .i64 rs.off) (run_load_int rfl rfl k2) ?_
        refine hK.out _ _ trivial (fun hS => ?_)
        clear hK K
        try go_frame
        refine held_pure (i := 3) (oi := ⟨some 31, _, _, _, _, _⟩) rfl (by kernel_rfl) (by kernel_rfl) (by kernel_rfl) (fun _ _ _ h => h) (by rfl) (v := .int .i64 O1) (fun w hSw => by go_simp; exact HO1.out) hS (fun hS => ?_)
        try go_frame
        refine held_pure (i := 8) (oi := ⟨some 36, _, _, _, _, _⟩) rfl (by kernel_rfl) (by kernel_rfl) (by kernel_rfl) (fun _ _ _ h => h) (by rfl) (v := ?_) (fun w hSw => ?_) hS (fun hS => ?_)
        rotate_left
        · go_simp; try with_reducible rfl
        try go_frame
        refine wpAnyH_ready (rs := [9]) (by kernel_rfl) (by simp) (AllReadyH.cons (o := ⟨none, _, _, _, _, _⟩) rfl (fun K hK => ?_) AllReadyH.nil)
        rw [if_pos (by rfl)]
        refine store_int_wp rfl rfl rfl k2 f2 ?_
        have hrow9 : (W3.drew.setCell ⟨r, 2, none⟩ (.int .i64 O1)).heap[r]? = some (.cells (v4a { rs with off := O1 } Ao co Ad cd) 24 (0, 0)) := heap_setCell_same W3.drew r 2 _ _ (.int .i64 O1) hrow3
        have hk8 : KeepR r W3 (W3.drew.setCell ⟨r, 2, none⟩ (.int .i64 O1)) := KeepR.set1 _ _ _
        clear k2 f2 k10 f10
        generalize W3.drew.setCell ⟨r, 2, none⟩ (.int .i64 O1) = V9 at *
        have k10 : V9.cell? ⟨r, 10, none⟩ = some (.slice Ad rs.dat.length cd) := (at4_of hrow9).dat
        have f10 := heap_frozen hrow9 10
        refine hK.out _ _ trivial (fun hS => ?_)
        clear hK K
        try go_frame
        refine held_pure (i := 10) (oi := ⟨some 37, _, _, _, _, _⟩) rfl (by kernel_rfl) (by kernel_rfl) (by kernel_rfl) (fun _ _ _ h => h) (by rfl) (v := ?_) (fun w hSw => ?_) hS (fun hS => ?_)
        rotate_left
        · go_simp; try with_reducible rfl
        try go_frame
        refine wpAnyH_ready (rs := [11]) (by kernel_rfl) (by simp) (AllReadyH.cons (o := ⟨none, _, _, _, _, _⟩) rfl (fun K hK => ?_) AllReadyH.nil)
        rw [if_pos (by rfl)]
        refine store_slU rfl rfl rfl k10 f10 ?_
        refine hK.out _ _ trivial (fun hS => ?_)
        clear hK K
        try go_frame
        refine wpAnyH_done (by kernel_rfl) ?_ _
        have hrow7 : (V9.setCell ⟨r, 10, none⟩ (.slice (cutA Ad cd z) DR.length (cd - z))).heap[r]? = some (.cells (v4a { rs with off := O1, dat := DR } Ao co (cutA Ad cd z) (cd - z)) 24 (0, 0)) := heap_setCell_same V9 r 10 _ _ (.slice (cutA Ad cd z) DR.length (cd - z)) hrow9
        have hk9 : KeepR r W3 (V9.setCell ⟨r, 10, none⟩ (.slice (cutA Ad cd z) DR.length (cd - z))) := (KeepR.set2 _ _ _).trans hk8
        clear hrow9 k10 f10
        have hpV : (V9.setCell ⟨r, 10, none⟩ (.slice (cutA Ad cd z) DR.length (cd - z))).heap[Bp]? = some (.cells (v4a q A c A' c') 24 (0, 0)) := (hk9.2.2.2.2 Bp (by omega)).trans (hK3.1.heap hp hTt (by simp [v4a]))
        generalize V9.setCell ⟨r, 10, none⟩ (.slice (cutA Ad cd z) DR.length (cd - z)) = V at *
        have kp9 := (at4_of hpV).opt
        have hOV := hk9.arg (show B ≤ r by omega) (hK3.arg hO)
        have hDV := hk9.arg (show B ≤ r by omega) hDt3
        have hzV := hk9.1
        have hcp := c13copied A q.opt c B V hOV (by omega) (by omega)
        rw [← HOO.out] at hcp
        gi_wp2_with (refine ⟨trivial, ?_⟩; gi_at_call 13; refine (callsIn_wide.2 hcp).mono ?_; rintro e w7 ⟨v7, rfl, m7⟩; obtain ⟨P7, p7, rfl, g7, o7, x7⟩ := made_shape m7; have hrow8 := (x7.block r (by omega)).trans hrow7; have k9 : w7.cell? ⟨r, 9, none⟩ = some (.slice Ao rs.opt.length co) := (at4_of hrow8).opt; have f9 := heap_frozen hrow8 9)
        have hrow10 : (w7.setCell ⟨r, 9, none⟩ (.slice P7 o.length p7)).heap[r]? = some (.cells (v4a { rs with off := O1, opt := o, dat := DR } P7 p7 (cutA Ad cd z) (cd - z)) 24 (0, 0)) := heap_setCell_same w7 r 9 _ _ (.slice P7 o.length p7) hrow8
        have hk10 : KeepR r w7 (w7.setCell ⟨r, 9, none⟩ (.slice P7 o.length p7)) := KeepR.set2 _ _ _
        have hJV := hJA' _ W3 V (some r) hJ3 hk9.grown (fun _ e => by cases e; exact .inr ⟨rfl, _, hrow3⟩)
        have hJ7 := hJA' _ V w7 none hJV (grown_none x7) (fun _ e => by cases e)
        have hJ8 := hJA' _ w7 _ (some r) hJ7 hk10.grown (fun _ e => by cases e; exact .inr ⟨rfl, _, hrow8⟩)
        have hKV := hK3.set (Nat.le_refl _) (show B ≤ r by omega) hrV hk9
        have hK7 := hKV.trans (Kp4.of_below x7 (by omega))
        have hK8 := hK7.set (Nat.le_refl _) (show B ≤ r by omega) hrV hk10
        go_roundw
        case rel =>
          refine ⟨{ rs with off := O1, opt := o, dat := DR }, P7, p7, cutA Ad cd z, cd - z, pre ++ [⟨{ rs with mf := true, dat := DZ }, P, p, P', p'⟩], Lib.hid ?_, Lib.hid ?_, hrow10, .inr ?_, ?_, hJ8, hK8, ?_⟩
          · rw [HL.out, HRS.out, HP1.out, HR1.out, List.map_append, List.append_assoc]; rfl
          · rw [← HR1.out]; exact HC.out.rest HS.out hco
          · exact own_base (hk10.own hrow8 hTu o7) (by omega)
          · refine hk10.arg (by omega) ?_
            have hcu := (hDV.cut_lo z).below (x7.mono (show B ≤ V.heap.size by omega))
            rwa [← HDE.out] at hcu
          · have := hk10.1; have := x7.size; omega
        case measure =>
          rw [dlen_row hrow10, dlen_row hrowM]
          show DR.length < _
          have := HDR.out; omega
    · have d1 : decide (size4 rs > mtu) = false := by simpa using hs
      have d2 : decide (mtu < size4 rs) = false := by simpa using hs
      have HE := Lib.hid (show L = pre.map (·.q) ++ [{ rs with mf := q.mf, dat := rs.dat }] by rw [HL.out, rst4_last hs])
      have NXT : Hid (∃ more, L = pre.map (·.q) ++ { rs with mf := q.mf, dat := rs.dat } :: more) := Lib.hid ⟨[], HE.out⟩
      clear hs
      gi_wp2
      refine wpIn_wide.2 ?_
      refine wp_region_held_drew (S := fun w' => Below wr.heap.size wr w') (by kernel_rfl) (Below.refl _ wr).drew (fun hS => ?_)
      refine held_pure (i := 0) (oi := ⟨some 7, _, _, _, _, _⟩) rfl (by kernel_rfl) (by kernel_rfl) (by kernel_rfl) (fun _ _ _ h => h) (by rfl) (fun w hSw => run_load_v4 rfl rfl (hAt.below hSw hrlt) rfl) hS (fun hS => ?_)
      try go_frame
      refine held_pure (i := 2) (oi := ⟨some 9, _, _, _, _, _⟩) rfl (by kernel_rfl) (by kernel_rfl) (by kernel_rfl) (fun _ _ _ h => h) (by rfl) (fun w hSw => run_load_int rfl rfl ((hSw.cell (p := ⟨Bm, 0, none⟩) hmlt).trans km)) hS (fun hS => ?_)
      try go_frame
      refine wpAnyH_ready (rs := [1]) (by kernel_rfl) (by simp) (AllReadyH.cons (o := ⟨some 8, _, _, _, _, _⟩) rfl (fun K hK => ?_) AllReadyH.nil)
      rw [if_pos (by rfl)]
      go_simp
      refine (c4size rs Ao co Ad cd _ ho1 hd2).mono ?_
      rintro e w1 ⟨rfl, x1⟩
      show K _ _
      refine hK.out _ _ (below_step hS x1) (fun hS => ?_)
      clear hK K
      try go_frame
      refine held_pure (i := 3) (oi := ⟨some 10, _, _, _, _, _⟩) rfl (by kernel_rfl) (by kernel_rfl) (by kernel_rfl) (fun _ _ _ h => h) (by rfl) (v := ?_) (fun w hSw => ?_) hS (fun hS => ?_)
      rotate_left
      · go_simp; try with_reducible rfl
      try go_frame
      refine wpAnyH_done (by kernel_rfl) ?_ _
      have hAt2 := hAt.below hS hrlt
      have hrlt2 : r < w1.heap.size := Nat.lt_of_lt_of_le hrlt hS.size
      have kd2 := hAt2.dat
      have kp8 := (at4_of ((hS.block Bp (by omega)).trans (hK.1.heap hp hTt (by simp [v4a])))).mf
      have hJ2 := hJA' pre wr w1 none hJs (grown_none hS) (fun _ e => by cases e)
      have hOp2 := ((Kp4.of_below hS (by omega)).opt hOp).arg (by omega)
      have hDt2 := ((Kp4.of_below hS (by omega)).arg hDt).more (show B ≤ w1.heap.size by omega)
      clear hS hAt km hmw hmlt hrow hJs hOp hDt hK
      gi_wp2_with (first
        | ((with_reducible show wpListIn _ _ _ _ _ (Oper.mk _ (Op.load 24 _) _ _ _ _ :: _) _ _); refine listI_val rfl (run_load_v4 rfl rfl hAt2 rfl) ?_)
        | (refine ⟨trivial, ?_⟩; gi_at_call 54; refine (callsIn_wide.2 (c13part rs Ao co Ad cd Ad cd rs.dat q.mf w1 w1.heap.size hOp2 hDt2 (Nat.le_refl _) ho1 hd2)).mono ?_; rintro e w6 ⟨P, p, P', p', rfl, own6, x6⟩; have hY2 := hY pre ⟨{ rs with mf := q.mf, dat := rs.dat }, P, p, P', p'⟩ w6 (hJA' pre _ w6 none hJ2 (grown_none x6) (fun _ e => by cases e)) ⟨NXT.out, own6.base_ (by omega)⟩ (Nat.lt_of_lt_of_le hrlt2 x6.size); obtain ⟨fn, tmps, assign, body, hy, hR⟩ := hY2; dsimp only [enc4] at hy))
      refine hR.mono ?_
      rintro e W3 ⟨rfl, hJ3, hk3⟩
      clear hy hR
      gi_wp2
      try rw [Exit.noGoto_normal]
      go_end0
      exact ⟨⟨_, rfl⟩, _, by rw [List.map_append, HE.out]; rfl, hJ3⟩
end Go.Proofs.Ytcebobcakiljhaa
