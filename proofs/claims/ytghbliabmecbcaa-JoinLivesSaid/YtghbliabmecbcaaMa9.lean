/-
  Contracts and lemmas on which the proofs of this seat stand (several texts in one). Conditions are each theorem's own.
-/
import Derived.Test.YtghbliabmecbcaaMa8
import Derived.Test.YtghbliabmecbcaaMa4
import Derived.Lib.SlBytesConst
import Derived.Test.YtghbliabmecbcaaMa2
import Derived.Deep.Slices
import Derived.Test.YtghbliabmecbcaaMa6
import Derived.Test.YtghbliabmecbcaaMa3
import Derived.Maps.OwnSet
import Derived.Maps.OwnOps
import Derived.Maps.Ext

/-
  Contracts of gaps, Gaps and Done of layer 15's code. Conditions are each theorem's own.
-/
namespace Go.Proofs.Ytghbliabmecbcaa
open Go.RowKit Go.Shelf
attribute [local go_sem] Oper.semAt_some
/-- What the iterator promises. -/
def SeqG (L : List Pc) (m B : Nat) (w : World) : Prop := SeqTold m Try.prog 106 #[.pointer (some ⟨B, 0, none⟩)] encG (GG L) (KeepS 3 3 0) (fun xs => xs = gapsS 0 L) (fun pre => ∃ more, gapsS 0 L = pre ++ more) w
theorem hcgapsf (A : Option Addr) (n c : Nat) (L : List XP) (w : World) (hn : n = L.length) (hn1 : n ≤ 100000) (ho : w.ownsRow 0 128 3 (.slice A n c) n (L.flatMap clP)) (hris : Ris (piE L)) :
    Calls Try.prog 80 #[.slice A n c] w fun e w' => e = .returned (.func (.func 106) #[] #[.pointer (some ⟨w.heap.size, 0, none⟩)]) ∧ Below w.heap.size w w' ∧ ∀ m, 1 ≤ m → SeqG (piE L) m w.heap.size w' := by
  have HO := Lib.hid ho
  have HR := Lib.hid hris
  have HN := Lib.hid hn
  clear ho hris hn
  go_enter Try.func80, Try.ntmps80
  go_wp2
  go_ret
  have hb := (Below.refl w.heap.size w).alloc (Nat.le_refl _) (.cells #[.slice A n c] 126)
  refine ⟨rfl, hb, fun m hm l J Jx W hW hJ _ hY hJ0 => ?_⟩
  have hbx : Boxed (w.alloc (.cells #[.slice A n c] 126)) w.heap.size 126 (.slice A n c) := World.alloc_heap_new w _
  refine (gaps1_in m hm l w.heap.size n c A L J Jx W hJ hY (Boxed.below hbx hW (by simp)) HN.out hn1 (own_below (own_below HO.out hb) hW) HR.out hJ0).mono ?_
  rintro e Y ⟨hv, hj | hj⟩
  · exact ⟨hv, .inl ⟨_, rfl, hj⟩⟩
  · exact ⟨hv, .inr hj⟩
theorem loadv_sl {w : World} {g : Nat} {A : Option Addr} {n c : Nat} (h : Boxed w g 32 (.slice A n c)) : (loadVar 32 ⟨g, 0, none⟩).run Try.prog w = .ok (.slice A n c) w := by
  have hagg : (isAgg 32).run Try.prog w = .ok false w := by
    unfold isAgg
    rw [Sem.run_bind, run_underlying Try.underlying32 w]; rfl
  have hc := h.cell
  simp [loadVar, Sem.run_bind, hagg, hc]
theorem cells2 {fn : Func} {p q : Tmp} {tmps : Array Value} {w : World} {g : Nat} {A : Option Addr} {n c : Nat} {z : Value} (h : fn.results = #[.cell p 32, .cell q 4])
    (hp : tmps.getD p undef = .pointer (some ⟨g, 0, none⟩)) (hq : tmps.getD q undef = .pointer (some ⟨g + 1, 0, none⟩))
    (h0 : Boxed w g 32 (.slice A n c)) (h1 : Boxed w (g + 1) 4 z) :
    (results fn tmps).run Try.prog w = .ok (.tuple #[.slice A n c, z]) w := by
  have hp' : tmps[p]?.getD undef = .pointer (some ⟨g, 0, none⟩) := by simpa using hp
  have hq' : tmps[q]?.getD undef = .pointer (some ⟨g + 1, 0, none⟩) := by simpa using hq
  simp [results, h, hp', hq', asAddr, loadv_sl h0, loadv_bool h1]
theorem made_nil {w w' : World} (h : Below w.heap.size w w') : Made w w' (.slice none 0 0) [] := Made.of_own (World.ownsRow_nil _ _ _ _) h
/-- Two results in blocks of their own. -/
structure Bx2 (W : World) (u : Nat) (A : Option Addr) (n c : Nat) (z : Bool) : Prop where
  one : Boxed W u 32 (.slice A n c)
  two : Boxed W (u + 1) 4 (.bool z)
theorem Bx2.first (w : World) : Bx2 ((w.alloc (.cells #[.slice none 0 0] 32)).alloc (.cells #[.bool false] 4)) w.heap.size none 0 0 false := by
  have s1 : (w.alloc (.cells #[.slice none 0 0] 32)).heap.size = w.heap.size + 1 := by simp
  refine ⟨(Boxed.new w 32 (.slice none 0 0)).alloc _, ?_⟩
  have := Boxed.new (w.alloc (.cells #[.slice none 0 0] 32)) 4 (.bool false)
  rwa [s1] at this
theorem Bx2.below {W V : World} {u n c B : Nat} {A : Option Addr} {z : Bool} (h : Bx2 W u A n c z) (hb : Below B W V) (hn : u + 1 < B) : Bx2 V u A n c z := ⟨Boxed.below h.one hb (by omega), Boxed.below h.two hb hn⟩
theorem Bx2.kept {W V : World} {u n c B : Nat} {A : Option Addr} {z : Bool} {r : Option Nat} (h : Bx2 W u A n c z) (hg : W.grownBy V r) (hr : ∀ k, r = some k → B ≤ k ∧ ∃ o : Obj, W.heap[k]? = some o ∧ o.isCells = false) : Bx2 V u A n c z :=
  ⟨box_keep h.one hg hr, box_keep h.two hg hr⟩
theorem Bx2.set {W : World} {u n c n' c' : Nat} {A A' : Option Addr} {z : Bool} (h : Bx2 W u A n c z) (z' : Bool) : Bx2 ((W.setCell ⟨u, 0, none⟩ (.slice A' n' c')).setCell ⟨u + 1, 0, none⟩ (.bool z')) u A' n' c' z' :=
  ⟨(Boxed.set _ h.one).other (by omega) _, Boxed.set _ (h.two.other (by omega) _)⟩
theorem hcdone_nil (w : World) : Calls Try.prog 44 #[.pointer none] w fun e w' => e = .returned (.tuple #[.slice none 0 0, .bool false]) ∧ Below w.heap.size w w' := by
  have hb := ((Below.refl w.heap.size w).alloc (Nat.le_refl _) (.cells #[.slice none 0 0] 32)).alloc (by simp) (.cells #[.bool false] 4)
  have hx := Bx2.first w
  go_enter Try.func44, Try.ntmps44
  go_wp2_with (go_at_call 71; refine (hcmade_nil _).mono ?_; rintro e w1 ⟨rfl, h1⟩; obtain rfl := h1.symm)
  exact bodyPost_ret (cells2 rfl rfl rfl hx.one hx.two) rfl ⟨rfl, hb⟩
set_option maxRecDepth 100000 in
theorem hcdone_open (g : Nat) (A : Option Addr) (c : Nat) (L : List XP) (w : World) (h : Hx w g A c L) (he : endedP (piE L) = false) :
    Calls Try.prog 44 #[.pointer (some ⟨g, 0, none⟩)] w fun e w' => e = .returned (.tuple #[.slice none 0 0, .bool false]) ∧ Below w.heap.size w w' := by
  have hb := ((Below.refl w.heap.size w).alloc (Nat.le_refl _) (.cells #[.slice none 0 0] 32)).alloc (by simp) (.cells #[.bool false] 4)
  have hx := Bx2.first w
  have hV := h.view.below hb
  have hm := hV.made
  have hen := hV.ended
  rw [he] at hen
  clear h hV he
  go_enter Try.func44, Try.ntmps44
  go_wp2_with (go_at_call 71; refine (hcmade1 g _ hm).mono ?_; rintro e w1 ⟨rfl, rfl⟩)
  exact bodyPost_ret (cells2 rfl rfl rfl hx.one hx.two) rfl ⟨rfl, hb⟩
theorem own_putD {w : World} {b e s n D : Nat} {v : Value} {xs : List Value} (h : w.ownsRow b e s v n xs) (hD : w.heap[D]? = some (.deferred (some []))) (o : Obj) : (w.putObj D o).ownsRow b e s v n xs := by
  refine h.kept (grownBy_putObj' w D o) ?_
  rcases h.2 with ⟨rfl, _⟩ | ⟨g, cap, cur, rfl, _, hg, _⟩
  · exact .inl rfl
  · refine .inr fun e1 => ?_
    have e2 : g = D := by simpa [Value.ownBlock] using e1
    rw [e2, hD] at hg
    cases hg
theorem own_baseL {w : World} {b b' e s n : Nat} {v : Value} {xs : List Value} (h : w.ownsRow b e s v n xs) (hb : b' ≤ b) : w.ownsRow b' e s v n xs := by
  refine ⟨h.1, ?_⟩
  rcases h.2 with hn | ⟨g, cap, cur, hv, hb', rest⟩
  · exact .inl hn
  · exact .inr ⟨g, cap, cur, hv, Nat.le_trans hb hb', rest⟩
set_option maxRecDepth 100000 in
set_option maxHeartbeats 4000000 in
theorem hcdone_end (g : Nat) (A : Option Addr) (c : Nat) (L : List XP) (w : World) (h : Hx w g A c L) (he : endedP (piE L) = true) :
    Calls Try.prog 44 #[.pointer (some ⟨g, 0, none⟩)] w fun e w' => ∃ v, e = .returned (.tuple #[v, .bool (decide (gapsS 0 (piE L) = []))]) ∧ Made w w' v (if gapsS 0 (piE L) = [] then catP (piE L) else []) := by
  generalize hCC : (if gapsS 0 (piE L) = [] then catP (piE L) else []) = CC
  generalize hBB : decide (gapsS 0 (piE L) = []) = BB
  have HCC := Lib.hid hCC
  have HBB := Lib.hid hBB
  clear hCC hBB
  obtain ⟨W, hW⟩ : ∃ W, W = (w.alloc (.cells #[.slice none 0 0] 32)).alloc (.cells #[.bool false] 4) := ⟨_, rfl⟩
  have hb : Below w.heap.size w W := by rw [hW]; exact ((Below.refl w.heap.size w).alloc (Nat.le_refl _) (.cells #[.slice none 0 0] 32)).alloc (by simp) (.cells #[.bool false] 4)
  have hx : Bx2 W w.heap.size none 0 0 false := by rw [hW]; exact Bx2.first w
  have hzW : W.heap.size = w.heap.size + 2 := by rw [hW]; simp
  have HX := Lib.hid (h.below hb)
  have hm := HX.out.view.made
  have hen := HX.out.view.ended
  rw [he] at hen
  have hps := HX.out.view.parts
  have hfa := HX.out.view.far
  obtain ⟨n, hn⟩ : ∃ n, n = L.length := ⟨_, rfl⟩
  have HN := Lib.hid hn
  have hn1 : n ≤ 100000 := by rw [hn]; exact h.n
  rw [← hn] at hps
  have HO : Hid (W.ownsRow 0 128 3 (.slice A n c) n (L.flatMap clP)) := Lib.hid (by rw [hn]; exact HX.out.own)
  have HZ := Lib.hid hzW
  have HX0 := Lib.hid h
  clear h he hn hzW
  refine (callsIn_wide (n := 4)).1 ?_
  refine callsIn_of_wp_marks Try.func44 rfl trivial ?_ rfl
  simp only [Try.ntmps44, List.size_toArray, List.length_cons, List.length_nil, Nat.reduceAdd, Nat.reduceSub, Array.replicate_succ, Array.replicate_zero, List.push_toArray, List.append_toArray, List.nil_append, List.cons_append]
  subst hW
  gi_wp2_with (first
    | (refine ⟨trivial, ?_⟩; gi_at_call 80; refine (callsIn_wide.2 (hcgapsf A n c L _ HN.out hn1 HO.out HX.out.ris)).mono ?_; rintro e w1 ⟨rfl, x1, hseq⟩)
    | (refine ⟨trivial, ?_⟩; gi_at_call 71; refine (callsIn_wide.2 (hcmade1 g _ hm)).mono ?_; rintro e w1 ⟨rfl, rfl⟩))
  rw [HZ.out] at hseq
  generalize (w.alloc (.cells #[.slice none 0 0] 32)).alloc (.cells #[.bool false] 4) = W at *
  have hz1 := x1.size
  have hx1 := hx.below x1 (by have := HZ.out; omega)
  have hB1 : Below w.heap.size w w1 := hb.trans (x1.mono hb.size)
  have hz2 : w.heap.size + 1 < w1.heap.size := by have := HZ.out; omega
  clear hx hm hen hps hfa hb HX HO
  refine range_told (by omega) (gf := 106) (lb := #[.pointer (some ⟨w.heap.size + 1 + 1, 0, none⟩)]) rfl (enters_of Try.func106 (by kernel_rfl) rfl)
    (hseq (4 - 1) (by omega)) KeepS.trans (fun V l r r' hl hr => KeepS.loop hr) (Below.refl _ _) (fun _ => rfl)
    (fun pre x V l r r' h _ hl => h)
    (fun pre X => pre = [] ∧ Bx2 X w.heap.size none 0 0 false ∧ Below w.heap.size w X)
    (fun cd pre X => cd = .ret ∧ pre ≠ [] ∧ Bx2 X w.heap.size none 0 0 false ∧ Below w.heap.size w X)
    (fun pre X Y r hs hg hr => ⟨hs.1, hs.2.1.kept hg hr, below_keep hs.2.2 hg hr (by omega) (Nat.le_refl _)⟩)
    (fun cd pre X Y r hs hg hr => ⟨hs.1, hs.2.1, hs.2.2.1.kept hg hr, below_keep hs.2.2.2 hg hr (by omega) (Nat.le_refl _)⟩)
    ⟨rfl, hx1, hB1⟩
    (fun x => { tmps := #[.pointer (some ⟨g, 0, none⟩), undef, .pointer (some ⟨w.heap.size, 0, none⟩), .pointer (some ⟨w.heap.size + 1, 0, none⟩), undef, undef, undef, .pointer (some ⟨g, 0, none⟩), .bool true, .bool false, .bool false, .pointer (some ⟨g, 0, none⟩), .pointer (some ⟨g, 0, none⟩), .pointer (some ⟨g, 4, none⟩), .bool true, .bool false, .bool false, .pointer (some ⟨g, 0, none⟩), .pointer (some ⟨g, 0, none⟩), .pointer (some ⟨g, 1, none⟩), .slice A n c, .func (.func 106) #[] #[.pointer (some ⟨w.heap.size + 1 + 1, 0, none⟩)], .int .i64 x.1, .int .i64 x.2, undef, undef, undef, undef, undef, undef, undef, undef, undef, undef, undef, undef, undef, undef, undef, undef, undef, undef, undef, undef], defers := [] }) ?assign ?body ?done ?stop
  case assign =>
    intro l x X K hK
    dsimp only [encG]
    gi_wp2
    exact hK
  case body =>
    rintro l pre x X ⟨rfl, hX2, hBX⟩ _
    have c1 := Boxed.cell hX2.one; have f1 := Boxed.frozen hX2.one
    have t2 := Boxed.other hX2.two (B' := w.heap.size) (by omega) (.slice none 0 0)
    have c2 := Boxed.cell t2; have f2 := Boxed.frozen t2
    gi_wp2
    exact ⟨((KeepsOthers.setCell _ _ _).from _).trans ((KeepsOthers.setCell _ _ _).from _), rfl, by simp, hX2.set false, (hBX.setCell (p := ⟨w.heap.size, 0, none⟩) (by simp) _).setCell (p := ⟨w.heap.size + 1, 0, none⟩) (by simp) _⟩
  case stop =>
    rintro D cd pre X hD ⟨more, hmore⟩ ⟨rfl, hpre, h3X, hBX⟩ hK
    have hne : ¬ gapsS 0 (piE L) = [] := fun e => by rw [e] at hmore; exact hpre (List.append_eq_nil_iff.1 hmore.symm).1
    have HNE := Lib.hid hne
    clear hne hmore hpre
    gi_wp2
    have hm1 : Marks w1.heap.size X.heap.size [{ target := .collected D, args := #[] }] X := (Marks.push (hi := D) (ds := []) trivial (Nat.le_refl _) hD hK).more (heap_lt hK)
    refine leaves_marks w1.heap.size (fun Y => Bx2 Y w.heap.size none 0 0 false ∧ Below w.heap.size w Y) (fun Y D hY h1 h2 => ⟨hY.1.kept (B := w1.heap.size) (grownBy_putObj' Y D _) (fun k e => by cases e; exact ⟨h1, _, h2, rfl⟩), hY.2.trans (belowK_b (w := w) (Nat.le_refl _) Y D _ _ (by omega) h2 rfl rfl)⟩)
      (fun Y hY => ⟨_, cells2 rfl rfl rfl hY.1.one hY.1.two, ?_⟩) _ _ X hm1 ⟨h3X, hBX⟩
    rw [← HCC.out, if_neg HNE.out, ← HBB.out, decide_eq_false HNE.out]
    exact ⟨_, rfl, made_nil hY.2⟩
  case done =>
    rintro D xs X hD hS ⟨hno, h3X, hBX⟩ hK
    have hnil : gapsS 0 (piE L) = [] := by rw [← hS, hno]
    have HNIL := Lib.hid hnil
    clear hnil hS hno
    have hH := HX0.out.below hBX
    have hps := hH.view.parts
    have hfa := hH.view.far
    obtain ⟨m, hm⟩ : ∃ m : Nat, farP (piE L) = (m : Int) := ⟨(farP (piE L)).toNat, by have := far_nn (piE L); omega⟩
    have hmb : m ≤ 65535 := by
      have : farP (piE L) ≤ 65535 := farP_le _ (by omega) (fun x hx => (HX0.out.ris.ok x hx).2)
      omega
    rw [hm] at hfa
    rw [← HN.out] at hps
    have HCB : Hid (∀ k, (catP ((piE L).take k)).length ≤ 65535) := Lib.hid (fun k => by
      have h1 := (bytes_gaps HX0.out.ris (up0 HX0.out.ris)).1
      rw [last0 HX0.out.ris] at h1
      have h2 := catP_length (piE L)
      have h3 : catP (piE L) = catP ((piE L).take k) ++ catP ((piE L).drop k) := by rw [catP, catP, catP, ← List.flatMap_append, List.take_append_drop]
      have h4 : (catP ((piE L).take k)).length ≤ (catP (piE L)).length := by rw [h3, List.length_append]; omega
      omega)
    have hm1 : Marks w1.heap.size X.heap.size [{ target := .collected D, args := #[] }] X := (Marks.push (hi := D) (ds := []) trivial (Nat.le_refl _) hD hK).more (heap_lt hK)
    clear hm
    gi_upto_region 5 with fail
    refine wpIn_wide.2 ?_
    obtain ⟨i0, hi, hz0, hz1', hz2'⟩ := info_parts info_u8
    have hmk : (Instr.makeSlice 32 (.int .i64 0) (.int .i64 (m : Int))).run Try.prog X = .ok (.slice (some ⟨X.heap.size, 0, none⟩) 0 m) (X.alloc (.cells (Go.madeCells (Value.int .u8 0).cells (m * 1)) 5)) := by
      have := run_makeSlice (P := Try.prog) X 32 5 i0 (.int .u8 0) Try.underlying32 hi hz0 .i64 .i64 0 (m : Int) (by omega) (by omega) (by rw [hz1']; simp; omega) (by rw [hz2']; omega) (by omega)
      rw [hz1'] at this
      simpa using this
    have hmsz : (Go.madeCells (Value.int .u8 0).cells (m * 1)).size = m * 1 := by simp [Go.madeCells]
    have own0 : (X.alloc (.cells (Go.madeCells (Value.int .u8 0).cells (m * 1)) 5)).ownsRow X.heap.size 5 1 (.slice (some ⟨X.heap.size, 0, none⟩) 0 m) 0 [] := World.ownsRow_made X _ m (Nat.le_refl _) (by unfold maxLen; omega) hmsz
    have bX0 : Below X.heap.size X (X.alloc (.cells (Go.madeCells (Value.int .u8 0).cells (m * 1)) 5)) := (Below.refl _ X).alloc (Nat.le_refl _) _
    clear hi hz0 hz1' hz2' hmsz
    generalize Go.madeCells (Value.int .u8 0).cells (m * 1) = MC at *
    go_wp2
    refine wpIn_wide.2 ?_
    have hgX : g < X.heap.size := heap_lt hH.obj
    have hps' := (bX0.cell (p := ⟨g, 1, none⟩) hgX).trans hps
    clear hps hfa hmk
    generalize X.alloc (.cells MC 5) = X0 at *
    go_wp2
    go_loopw [4, 34] (fun s4 i wr => ∃ (k : Nat) (P : Option Addr) (p : Nat) (C : List UInt8), k ≤ n ∧ i = .int .i64 (k : Int) ∧ s4 = .slice P C.length p ∧ C.length ≤ 65535 ∧ Hid (C = catP ((piE L).take k)) ∧ wr.ownsRow X.heap.size 5 1 (.slice P C.length p) C.length (row C) ∧ Below X.heap.size X wr)
      (fun _ i _ => n - (intOf i).toNat)
    case atStart => exact ⟨0, _, m, [], Nat.zero_le _, rfl, rfl, Nat.zero_le _, Lib.hid rfl, own0, bX0⟩
    case round =>
      obtain ⟨k, P, p, C, hk, rfl, rfl, hCl, HC, ownC, hbel⟩ := hrel
      by_cases hlt : k < n
      · obtain ⟨x, hx⟩ : ∃ x, L[k]? = some x := ⟨_, List.getElem?_eq_getElem (by rw [← HN.out]; exact hlt)⟩
        have hHr := hH.below hbel
        have hArg := Lib.hid (hHr.view.arg x (List.mem_of_getElem? hx))
        obtain ⟨b1, o1, e0, hb1, hrow⟩ := row_of hHr.view.rd hx
        subst e0
        have HC2 : Hid (C ++ x.p.b = catP ((piE L).take (k + 1))) := Lib.hid (by
          have hxp : (piE L)[k]? = some x.p := by rw [piE, List.getElem?_map, hx]; rfl
          have hkl := (List.getElem?_eq_some_iff.1 hxp).1
          rw [List.getElem?_eq_getElem hkl] at hxp
          rw [HC.out, List.take_succ_eq_append_getElem hkl, Option.some.inj hxp, catP, catP, List.flatMap_append]
          simp)
        have hcl2 : C.length + x.p.b.length ≤ 65535 := by
          have := HCB.out (k + 1)
          rw [← HC2.out, List.length_append] at this
          exact this
        obtain ⟨V, hV⟩ : ∃ V, V = wr.alloc (.cells (clP x).toArray 128) := ⟨_, rfl⟩
        have HV := Lib.hid hV
        have bV : Below wr.heap.size wr V := by rw [hV]; exact (Below.refl _ wr).alloc (Nat.le_refl _) _
        have hbV : V.heap[wr.heap.size]? = some (.cells (clP x).toArray 128 (0, 0)) := by rw [hV]; exact World.alloc_heap_new wr _
        have kx2 : V.cell? ⟨wr.heap.size, 2, none⟩ = some (.slice x.A x.p.b.length x.c) := cells_at (i := 2) hbV rfl
        have ownV := own_below ownC bV
        have hzV := bV.size
        have hzr := hbel.size
        clear hV hx hHr
        go_wp2_with (first
          | (at_builtin; refine append_rd rfl _ _ rfl X.heap.size (.slice P C.length p) C.length (row C) rfl ownV wr.heap.size x.A x.c x.p.b rfl hArg.out.none_ (hArg.out.rd.below bV) (by omega) (by omega) ?_; intro v7 w7 own7 grow7; have b7 := (hbel.trans (bV.mono hzr)).grown grow7 (by omega) (fun k hk => own_block_ge ownV k hk); obtain ⟨P7, p7, rfl, o7⟩ := own_made (bs := C ++ x.p.b) own7 (List.length_append).symm (row_append _ _).symm; have O7 := Lib.hid o7; clear own7 o7)
          | ((with_reducible show wpList _ _ _ (Oper.mk _ (Op.load 128 _) _ _ _ _ :: _) _ _); refine wpList_val rfl (run_load_hp rfl rfl hrow rfl) ?_)
          | ((with_reducible show wpList _ _ _ (Oper.mk _ (Op.store 128 _ _) _ _ _ _ :: _) _ _); refine hp_store_new (cs := (clP x).toArray) rfl rfl rfl rfl (clP_one x) ?_; rw [← HV.out]))
        go_roundw
        case rel => exact ⟨k + 1, P7, p7, C ++ x.p.b, by omega, by simp, by rw [List.length_append], by rw [List.length_append]; exact hcl2, HC2, O7.out, b7⟩
        case measure => simp [intOf]; omega
      · obtain rfl : n = k := by omega
        have hzz : w.heap.size + 1 < X.heap.size := Nat.lt_of_lt_of_le hz2 (Nat.le_of_lt (Nat.lt_of_le_of_lt hD (heap_lt hK)))
        have hxr := h3X.below hbel hzz
        have c1 := Boxed.cell hxr.one; have f1 := Boxed.frozen hxr.one
        have t2 := Boxed.other hxr.two (B' := w.heap.size) (by omega) (.slice P C.length p)
        have c2 := Boxed.cell t2; have f2 := Boxed.frozen t2
        have hxs := hxr.set (A' := P) (n' := C.length) (c' := p) true
        have bwr := hBX.trans (hbel.mono hBX.size)
        have bws := (bwr.setCell (p := ⟨w.heap.size, 0, none⟩) (by simp) (.slice P C.length p)).setCell (p := ⟨w.heap.size + 1, 0, none⟩) (by simp) (.bool true)
        have owns := own_setCell (own_setCell ownC (p := ⟨w.heap.size, 0, none⟩) (u := .slice P C.length p) (by show w.heap.size < _; omega)) (p := ⟨w.heap.size + 1, 0, none⟩) (u := .bool true) (by show w.heap.size + 1 < _; omega)
        have hmr : Marks w1.heap.size X.heap.size [{ target := .collected D, args := #[] }] ((wr.setCell ⟨w.heap.size, 0, none⟩ (.slice P C.length p)).setCell ⟨w.heap.size + 1, 0, none⟩ (.bool true)) :=
          hm1.keep (fun k h1 h2 => (Below.heap_setCell _ _ _ _ (by simp; omega)).trans ((Below.heap_setCell _ _ _ _ (by simp; omega)).trans (hbel.block k h2)))
        have HC' : Hid (C = catP (piE L)) := Lib.hid (by rw [HC.out, List.take_of_length_le (by rw [piE, List.length_map, ← HN.out]; exact Nat.le_refl _)])
        have hwX : w.heap.size ≤ X.heap.size := by omega
        go_wp2
        refine leaves_marks w1.heap.size (fun Y => Bx2 Y w.heap.size P C.length p true ∧ Y.ownsRow X.heap.size 5 1 (.slice P C.length p) C.length (row C) ∧ Below w.heap.size w Y)
          (fun Y D hY h1 h2 => ⟨hY.1.kept (B := w1.heap.size) (grownBy_putObj' Y D _) (fun k e => by cases e; exact ⟨h1, _, h2, rfl⟩), own_putD hY.2.1 h2 _, hY.2.2.trans (belowK_b (w := w) (Nat.le_refl _) Y D _ _ (by omega) h2 rfl rfl)⟩)
          (fun Y hY => ⟨_, cells2 rfl rfl rfl hY.1.one hY.1.two, ?_⟩) _ _ _ hmr ⟨hxs, owns, bws⟩
        rw [← HCC.out, if_pos HNIL.out, ← HBB.out, decide_eq_true HNIL.out, ← HC'.out]
        exact ⟨_, rfl, Made.of_own (own_baseL hY.2.1 hwX) hY.2.2⟩
end Go.Proofs.Ytghbliabmecbcaa

/-
  awake of layer 15. Conditions are each theorem's own.
-/
namespace Go.Proofs.Ytghbliabmecbcaa
open Go.RowKit Go.Shelf
theorem conv_bb (w : World) (C : Array Value) (n c : Nat) : (convert 32 32 (.slice (some ⟨w.heap.size, 0, none⟩) n c)).run Try.prog (w.alloc (.cells C 5)) = .ok (.slice (some ⟨w.heap.size, 0, none⟩) n c) (w.alloc (.cells C 5 (C.size, C.size + 1))) :=
  Lib.run_convert_bytes_const w 32 5 C n c Try.underlying32 Try.underlying5
theorem lit_arg (w : World) (cs : Array Value) (fr : Nat × Nat) (bs : List UInt8) (h : cs = (row bs).toArray) : Arg (w.alloc (.cells cs 5 fr)) (w.alloc (.cells cs 5 fr)).heap.size (some ⟨w.heap.size, 0, none⟩) bs.length bs := by
  subst h
  refine ⟨fun _ => ⟨w.heap.size, 0, rfl, by simp, fun j hj => ?_⟩, Nat.le_refl _, fun e => by cases e⟩
  rw [Nat.zero_add]
  exact cells_at (World.alloc_heap_new w _) (by rw [List.getElem?_toArray]; exact row_get bs hj)
theorem Hx.alloc {w : World} {g : Nat} {A : Option Addr} {c : Nat} {L : List XP} (h : Hx w g A c L) (o : Obj) : Hx (w.alloc o) g A c L := h.below ((Below.refl _ w).alloc (Nat.le_refl _) o)
/-- What Holes own lies from block B0 on. -/
def Own0 (B0 g : Nat) (v : Value) : Prop := B0 ≤ g ∧ ∀ k, v.ownBlock = some k → B0 ≤ k
theorem Own0.kept {B0 g : Nat} {v : Value} {w0 w w' : World} (h : Own0 B0 g v) (hb : Below B0 w0 w) (hB : B0 ≤ w.heap.size) (k : Kept (fun k => k = g ∨ v.ownBlock = some k) w w') : Below B0 w0 w' :=
  hb.trans (k.below hB (fun i hi => by rcases hi with rfl | hi; exact h.1; exact h.2 i hi))
theorem Own0.next {B0 g : Nat} {v v' : Value} {w : World} (h : Own0 B0 g v) (hB : B0 ≤ w.heap.size) (ho : ∀ k, v'.ownBlock = some k → v.ownBlock = some k ∨ w.heap.size ≤ k) : Own0 B0 g v' :=
  ⟨h.1, fun k hk => by rcases ho k hk with h1 | h1; exact h.2 k h1; omega⟩
theorem hcdone (g : Nat) (A : Option Addr) (c : Nat) (L : List XP) (w : World) (h : Hx w g A c L) :
    Calls Try.prog 44 #[.pointer (some ⟨g, 0, none⟩)] w fun e w' => ∃ v, e = .returned (.tuple #[v, .bool (endedP (piE L) && decide (gapsS 0 (piE L) = []))]) ∧ Made w w' v (if endedP (piE L) && decide (gapsS 0 (piE L) = []) then catP (piE L) else []) := by
  cases he : endedP (piE L) with
  | true =>
    refine (hcdone_end g A c L w h he).mono ?_
    rintro e w' ⟨v, rfl, hm⟩
    refine ⟨v, by rw [Bool.true_and], ?_⟩
    simpa using hm
  | false =>
    refine (hcdone_open g A c L w h he).mono ?_
    rintro e w' ⟨rfl, hb⟩
    exact ⟨_, rfl, made_nil hb⟩
end Go.Proofs.Ytghbliabmecbcaa

/-
  What no call made, of layer 15; Clone of parts, Gaps. Conditions are each theorem's own.
-/
namespace Go.Proofs.Ytghbliabmecbcaa
open Go.RowKit Go.Shelf
theorem cell1b {fn : Func} {p : Tmp} {tmps : Array Value} {w : World} {g : Nat} {z : Value} (h : fn.results = #[.cell p 4]) (hp : tmps.getD p undef = .pointer (some ⟨g, 0, none⟩)) (h0 : Boxed w g 4 z) :
    (results fn tmps).run Try.prog w = .ok z w := by
  have hp' : tmps[p]?.getD undef = .pointer (some ⟨g, 0, none⟩) := by simpa using hp
  simp [results, h, hp', asAddr, loadv_bool h0]
theorem hcadd_nil (a : Int) (m : Bool) (v : Value) (w : World) : Calls Try.prog 42 #[.pointer none, .int .i64 a, .bool m, v] w fun e w' => e = .returned (.int .i64 2) ∧ w = w' := by
  go_enter Try.func42, Try.ntmps42
  go_wp2_with (go_at_call 71; refine (hcmade_nil _).mono ?_; rintro e w1 ⟨rfl, h1⟩; obtain rfl := h1.symm)
  go_ret
  exact ⟨rfl, rfl⟩
theorem hcbytes_nil (w : World) : Calls Try.prog 67 #[.pointer none] w fun e w' => e = .returned (.int .i64 0) ∧ w = w' := by
  go_enter Try.func67, Try.ntmps67
  go_wp2_with (go_at_call 71; refine (hcmade_nil _).mono ?_; rintro e w1 ⟨rfl, h1⟩; obtain rfl := h1.symm)
  go_ret
  exact ⟨rfl, rfl⟩
theorem hcroom_nil (a : Int) (v : Value) (w : World) : Calls Try.prog 41 #[.pointer none, .int .i64 a, v] w fun e w' => e = .returned (.int .i64 0) ∧ w = w' := by
  go_enter Try.func41, Try.ntmps41
  go_wp2_with (go_at_call 71; refine (hcmade_nil _).mono ?_; rintro e w1 ⟨rfl, h1⟩; obtain rfl := h1.symm)
  go_ret
  exact ⟨rfl, rfl⟩
set_option maxRecDepth 100000 in
/-- append onto a row of parts of the call's own, of a source that reads as parts. -/
theorem append_hps {w : World} {ops : Array Oper} {rest : List Oper} {o : Oper} {a : Act} {Q : Exit → Act → World → Prop} (hgd : o.guard = none) (s x : Operand)
    (ho : o.op = .call { callee := .builtin .append, args := #[s, x], argTypes := #[126, 126] })
    (base : Nat) (v : Value) (n : Nat) (xs : List Value) (hs : a.eval s = v) (hown : w.ownsRow base 128 3 v n xs)
    (B : Nat) (ad : Addr) (m c : Nat) (l : List XP) (hx : a.eval x = .slice (some ad) m c) (hm : m = l.length) (hr : RdS clP 3 w B (some ad) l)
    (hlen : n + m ≤ 1000000) (hbase : base ≤ w.heap.size)
    (h : ∀ v' w', w'.ownsRow base 128 3 v' (n + m) (xs ++ l.flatMap clP) → w.grownBy w' v.ownBlock → wpList Try.prog ops Q rest (a.put o.dst v') w') : wpList Try.prog ops Q (o :: rest) a w := by
  obtain ⟨i0, hi, hz0, hz1, hz2⟩ := info_parts info_hp
  subst hm
  refine wpList_append_own w hgd s x 126 ho base 128 i0 (.agg #[.int .i64 0, .bool false, .slice none 0 0]) 3 40 Try.underlying126 hi hz0 hz1 hz2 rfl (by decide) v n xs hs hown ad l.length c (l.flatMap clP) hx
    (flat3 l) (fun j u hj => ?_) (fun u hu => ?_) (by unfold maxLen; omega) (by omega) hbase (fun v' w' h1 h2 _ => h v' w' h1 h2)
  · have hj3 : j < l.length * 3 := by have := (List.getElem?_eq_some_iff.1 hj).1; rwa [flat3] at this
    obtain ⟨b, off, e, _, hc⟩ := hr (by omega)
    injection e with e
    subst e
    have hk : j / 3 < l.length := by omega
    obtain ⟨y, hy⟩ : ∃ y, l[j / 3]? = some y := ⟨_, List.getElem?_eq_getElem hk⟩
    have hlt : j % 3 < (clP y).length := by show j % 3 < 3; omega
    have hv : (clP y)[j % 3]? = some (clP y)[j % 3] := List.getElem?_eq_getElem hlt
    have h1 := flat_at l (fun _ _ => rfl) (sz := 3) (j / 3) y hy (j % 3) _ hv
    rw [show j / 3 * 3 + j % 3 = j by omega, hj] at h1
    have h2 := hc (j / 3) y hy (j % 3) _ hv
    rw [add_off, show off + j = off + j / 3 * 3 + j % 3 by omega, h2]
    exact h1.symm
  · obtain ⟨y, _, hy⟩ := List.mem_flatMap.1 hu
    exact clP_ones y u hy
end Go.Proofs.Ytghbliabmecbcaa

/-
  A slice of parts that came in, opened; far of layer 15. Conditions are each theorem's own.
-/
namespace Go.Proofs.Ytghbliabmecbcaa
open Go.RowKit Go.ChangeShapes Go.WideShapes
theorem cells_at9 {w : World} {base n : Nat} {b off : Nat} {cs : List Value} (h : w.cells? base ⟨b, off, none⟩ n = some cs) : w.rangeAt b off cs := fun j u hj => by
  obtain ⟨_, hl, hc⟩ := World.cells?_some h
  have hlt : j < n := by rw [← hl]; exact (List.getElem?_eq_some_iff.1 hj).1
  have h1 := hc j hlt
  rw [add_off, hj] at h1
  exact h1
section
variable {H : Type} {enc : TypeId × Value → H} {w : World} {base : Nat} {v : Value} {d : DataW H} {p : List MemPlace}
end
open Go.Shelf
/-- Whether parts are too many, or too long. -/
def farN : Nat → Int → List Pc → Bool
  | _, n, [] => decide (n > 8000)
  | i, n, x :: l => if (decide (60 ≤ i) || decide (x.len > 2000)) || (decide (x.off > 4000) && decide (x.off ≤ 65535)) then true else farN (i + 1) (n + x.len) l
/-- Parts that are not too many, nor too long. -/
theorem farN_no : ∀ {l : List Pc} {i : Nat} {n : Int}, farN i n l = false → l.length + i ≤ 60 + (if l = [] then i else 0) ∧ (∀ x ∈ l, x.len ≤ 2000 ∧ ¬ (x.off > 4000 ∧ x.off ≤ 65535))
  | [], i, n, _ => ⟨by simp, fun x h => (by cases h)⟩
  | x :: l, i, n, h => by
    rw [farN] at h
    split at h
    · cases h
    · rename_i hc
      simp only [Bool.or_eq_true, Bool.and_eq_true, decide_eq_true_eq, not_or] at hc
      obtain ⟨⟨h1, h2⟩, h3⟩ := hc
      obtain ⟨i1, i2⟩ := farN_no h
      refine ⟨?_, fun y hy => ?_⟩
      · rw [if_neg (by simp)]
        rw [List.length_cons]
        split at i1
        · rename_i hl; subst hl; simp; omega
        · omega
      · rcases List.mem_cons.1 hy with rfl | hy
        · exact ⟨by omega, h3⟩
        · exact i2 y hy
end Go.Proofs.Ytghbliabmecbcaa

/-
  Contract of the document's Done of layer 15. Conditions are each theorem's own.
-/
namespace Go.Proofs.Ytghbliabmecbcaa
open Go.RowKit Go.Shelf

theorem run_load_u8 {o : Oper} {a : Act} {w : World} {x : Operand} {p : Addr} {n : Int} (ho : o.op = .load 5 x) (hx : a.eval x = .pointer (some p)) (hc : w.cell? p = some (.int .u8 n)) :
    (execOp a.eval o).run Try.prog w = .ok (.value (.int .u8 n)) w := by
  unfold execOp
  simp only [ho, hx, Instr.loadAt, Instr.sureAddr, Sem.run_bind, Sem.run_pure, Result.andThen_ok]
  go_simp
theorem layB_step {out b : List UInt8} {f k : Nat} (h : f + b.length ≤ out.length) (hk : k < b.length) : layB out f (b.take (k + 1)) = (layB out f (b.take k)).set (f + k) b[k] := by
  have l1 : (b.take (k + 1)).length = k + 1 := by rw [List.length_take]; omega
  have l0 : (b.take k).length = k := by rw [List.length_take]; omega
  refine List.ext_getElem? fun j => ?_
  rw [layB_get (by omega), List.getElem?_set, layB_get (by omega), layB_length (by omega), l1, l0]
  by_cases h1 : f + k = j
  · subst h1
    rw [if_pos ⟨by omega, by omega⟩, if_pos rfl, if_pos (by omega), List.getElem?_take, if_pos (by omega), show f + k - f = k by omega, List.getElem?_eq_getElem hk]
  · rw [if_neg h1]
    by_cases h2 : f ≤ j ∧ j < f + k
    · rw [if_pos ⟨h2.1, by omega⟩, if_pos h2, List.getElem?_take, List.getElem?_take, if_pos (by omega), if_pos (by omega)]
    · rw [if_neg (by omega), if_neg h2]
theorem layB_nil {out : List UInt8} {f : Nat} : layB out f [] = out := by simp [layB]
set_option maxRecDepth 100000 in
set_option maxHeartbeats 4000000 in
theorem r15done (A : Option Addr) (c : Nat) (l : List XP) (B g o : Nat) (w : World) (h : Ho w B g o A c l) (hB : B ≤ w.heap.size) (hwf : wfP (piE l)) :
    Calls Try.prog 49 #[.pointer (some ⟨g, o, none⟩)] w fun e w' => ∃ v, e = .returned (.tuple #[v, .bool (doneB (piE l))]) ∧ Made w w' v (doneP (piE l)) := by
  have hH := Lib.hid h
  have HWF := Lib.hid hwf
  obtain ⟨L, hL⟩ : ∃ L, L = piE l := ⟨_, rfl⟩
  have HL := Lib.hid hL
  obtain ⟨E, hE0⟩ : ∃ E, E = endP (piE l) := ⟨_, rfl⟩
  obtain ⟨Y, hY0⟩ : ∃ Y, Y = bytesP (piE l) := ⟨_, rfl⟩
  have hE := Lib.hid hE0.symm
  have hY := Lib.hid hY0.symm
  rw [← hL]
  have HDB : Hid (doneB L = (decide (0 ≤ E) && decide (Y = E))) := Lib.hid (by rw [doneB, hL, ← hE0, ← hY0])
  clear h hwf hE0 hY0 hL
  go_enter Try.func49, Try.ntmps49
  by_cases h1 : E < 0
  · have d1 : decide (E < 0) = true := decide_eq_true h1
    have hD : doneB L = false := by rw [HDB.out, decide_eq_false (by omega)]; rfl
    go_wp2_with (go_at_call 83; refine (r15end A c l B g o w hH.out hB).mono ?_; rintro e w1 ⟨rfl, x1⟩; rw [hE.out])
    exact bodyPost_ret (results_tmp2 rfl _ _ _) rfl ⟨_, by rw [hD]; rfl, by rw [doneP, if_neg (by rw [hD]; decide)]; exact Made.nil _ _ x1⟩
  · have d1 : decide (E < 0) = false := decide_eq_false h1
    by_cases h2 : Y = E
    · have d2 : (Y != E) = false := by rw [h2]; simp
      have hD : Hid (doneB L = true) := Lib.hid (by rw [HDB.out, decide_eq_true h2, decide_eq_true (by omega)]; rfl)
      obtain ⟨m, rfl⟩ : ∃ m : Nat, E = (m : Int) := ⟨E.toNat, by omega⟩
      have hmb : m ≤ 65535 := by
        rcases endP_cases (piE l) with h0 | ⟨y, hy, _, h4⟩
        · rw [hE.out] at h0; omega
        · obtain ⟨z, hz, rfl⟩ := List.mem_map.1 hy
          have := (hH.out.ok z hz).2
          rw [hE.out] at h4; omega
      have HDP : Hid (doneP L = fillP L (List.replicate m 0)) := Lib.hid (by rw [doneP, if_pos hD.out, HL.out, hE.out]; rfl)
      have HST : Hid (∀ x ∈ L, x.stop ≤ (m : Int)) := Lib.hid (fun x hx => by
        have h4 := HWF.out (by rw [hE.out]; omega) x (by rw [← HL.out]; exact hx)
        rwa [hE.out] at h4)
      have hmk : ∀ W : World, (Instr.makeSlice 32 (.int .i64 (m : Int)) (.int .i64 (m : Int))).run Try.prog W = .ok (.slice (some ⟨W.heap.size, 0, none⟩) m m) (W.alloc (.cells (row (List.replicate m 0)).toArray 5)) := fun W => by
        have e : (row (List.replicate m (0 : UInt8))) = List.replicate m (.int .u8 0) := by simp [row]
        rw [e, ← made_rep]; exact run_make_row' 32 5 (.int .u8 0) 1 Try.underlying32 info_u8 rfl .i64 .i64 m (by omega) (by omega) W
      clear h1 h2
      go_upto_region 5 with (first | (go_at_call 50; refine (r15bytes A c l B g o w1 (hH.out.below (x1.mono hB)) (Nat.le_trans hB x1.size)).mono ?_; rintro e w2 ⟨rfl, x2⟩; rw [hY.out]) | (go_at_call 83; refine (r15end A c l B g o w hH.out hB).mono ?_; rintro e w1 ⟨rfl, x1⟩; rw [hE.out]))
      have hB2 := x1.trans (x2.mono x1.size)
      have hA1 : Below w2.heap.size w2 (w2.alloc (.cells (row (List.replicate m 0)).toArray 5)) := (Below.refl _ _).alloc (Nat.le_refl _) _
      have hB3 := hB2.trans (hA1.mono hB2.size)
      have hgb := World.alloc_heap_new w2 (.cells (row (List.replicate m (0 : UInt8))).toArray 5)
      obtain ⟨gb, hgbe⟩ : ∃ b, b = w2.heap.size := ⟨_, rfl⟩
      have hwgb : w.heap.size ≤ gb := by rw [hgbe]; exact hB2.size
      rw [← hgbe] at hgb ⊢
      generalize w2.alloc (.cells (row (List.replicate m 0)).toArray 5) = W at *
      clear hA1 hgbe x1 x2 hB2 hmk
      obtain ⟨n, hn⟩ : ∃ n, n = l.length := ⟨_, rfl⟩
      have HN := Lib.hid hn
      have k00 := hH.out.cell
      have hgz : g < w.heap.size := cell_block k00
      have hn1 : n ≤ 100000 := by rw [hn]; exact hH.out.n
      have hn2 : n ≤ c := by rw [hn]; exact hH.out.cap
      rw [← hn] at k00
      clear hn
      go_wp2
      go_loopw [6] (fun iv wr => ∃ (i : Nat) (cur : List UInt8), i ≤ n ∧ iv = .int .i64 (i : Int) ∧ cur.length = m ∧ Hid (doneP L = fillP (L.drop i) cur) ∧ wr.heap[gb]? = some (.cells (row cur).toArray 5 (0, 0)) ∧ Below w.heap.size w wr)
        (fun iv _ => n - (intOf iv).toNat)
      case atStart => exact ⟨0, List.replicate m 0, Nat.zero_le _, rfl, List.length_replicate, Lib.hid (by rw [HDP.out, List.drop_zero]), hgb, hB3⟩
      case round =>
        obtain ⟨i, cur, hi, rfl, hcur, HF, hcg, hbel⟩ := hrel
        have kc := (hbel.cell (p := ⟨g, o, none⟩) hgz).trans k00
        by_cases hlt : i < n
        · obtain ⟨x, hx⟩ : ∃ x, l[i]? = some x := ⟨_, List.getElem?_eq_getElem (by rw [← HN.out]; exact hlt)⟩
          have hxm := List.mem_of_getElem? hx
          have ok1 := (hH.out.ok x hxm).1
          have HXD : Hid (L.drop i = x.p :: L.drop (i + 1)) := Lib.hid (by
            have hl : i < L.length := by rw [HL.out, piE, List.length_map, ← HN.out]; exact hlt
            rw [List.drop_eq_getElem_cons hl]
            congr 1
            have h1 : L[i]? = some x.p := by rw [HL.out, piE, List.getElem?_map, hx]; rfl
            rw [List.getElem?_eq_getElem hl] at h1
            exact Option.some.inj h1)
          have hst := HST.out x.p (by rw [HL.out]; exact List.mem_map.2 ⟨x, hxm, rfl⟩)
          obtain ⟨f, hf⟩ : ∃ f : Nat, x.p.off = (f : Int) := ⟨x.p.off.toNat, by omega⟩
          have hfit : f + x.p.b.length ≤ m := by
            have h4 : x.p.stop = x.p.off + (x.p.b.length : Int) := rfl
            omega
          obtain ⟨b1, o1, e1, hb1', hr1⟩ := hH.out.rd (by rw [← HN.out]; omega)
          obtain rfl := e1
          have hr := hr1 i x hx
          have kx00 : w.cell? ⟨b1, o1 + i * 3, none⟩ = some (.int .i64 (f : Int)) := by rw [← hf]; simpa using hr 0 _ rfl
          have kx02 : w.cell? ⟨b1, o1 + i * 3 + 2, none⟩ = some (.slice x.A x.p.b.length x.c) := hr 2 _ rfl
          have HXA := Lib.hid (hH.out.arg x hxm)
          have hb1w : b1 < w.heap.size := by omega
          have HFX : Hid (doneP L = fillP (L.drop (i + 1)) (layB cur f x.p.b)) := Lib.hid (by
            rw [HF.out, HXD.out, fillP, hf]; rfl)
          obtain ⟨N, hN⟩ : ∃ N, N = x.p.b.length := ⟨_, rfl⟩
          have HNB := Lib.hid hN
          have hxc := HXA.out.cap
          rw [← hN] at kx02 hfit hxc
          clear hr1 hr hx hxm hst hf ok1 HF HXD hN
          rename World => Wo
          go_wp2
          clear kc
          go_loopw [7] (fun kv wr => ∃ k : Nat, k ≤ N ∧ kv = .int .i64 (k : Int) ∧ wr.heap[gb]? = some (.cells (row (layB cur f (x.p.b.take k))).toArray 5 (0, 0)) ∧ Below w.heap.size w wr)
            (fun kv _ => N - (intOf kv).toNat)
          case atStart => exact ⟨0, Nat.zero_le _, rfl, by rw [List.take_zero, layB_nil]; exact hcg, hbel⟩
          case round =>
            clear hcg hbel
            obtain ⟨k, hk, rfl, hcg, hbel⟩ := hrel
            have k0 := (hbel.cell (p := ⟨g, o, none⟩) hgz).trans k00
            have kx0 := (hbel.cell (p := ⟨b1, o1 + i * 3, none⟩) hb1w).trans kx00
            have kx2 := (hbel.cell (p := ⟨b1, o1 + i * 3 + 2, none⟩) hb1w).trans kx02
            have hzr := hbel.size
            by_cases hkl : k < N
            · have hkb : k < x.p.b.length := by rw [← HNB.out]; exact hkl
              obtain ⟨b2, o2, e2, hb2', hr2⟩ := HXA.out.rd (by omega)
              have kb0 := hr2 k hkb
              have hb2w : b2 < w.heap.size := by omega
              have kb := (hbel.cell (p := ⟨b2, o2 + k, none⟩) hb2w).trans kb0
              rw [e2] at kx02 kx2
              have hgw : g < wr.heap.size := by omega
              have hb1 : b1 < wr.heap.size := by omega
              have hb2 : b2 < wr.heap.size := by omega
              have hcl : (layB cur f (x.p.b.take k)).length = m := by
                rw [layB_length (by rw [List.length_take]; omega)]; exact hcur
              have hgbz := heap_lt hcg
              have kgb : wr.drew.cell? ⟨gb, f + k, none⟩ = some (.int .u8 (byt (layB cur f (x.p.b.take k)) (f + k))) := by
                rw [show wr.drew.cell? ⟨gb, f + k, none⟩ = wr.cell? ⟨gb, f + k, none⟩ from rfl, cell_of_row _ _ _ _ _ _ hcg, List.getElem?_toArray]
                exact row_get _ (by rw [hcl]; omega)
              have fgb : wr.drew.frozen? ⟨gb, f + k, none⟩ = false := heap_frozen hcg (f + k)
              have HW : Hid (IntKind.i64.wrap ((f : Int) + (k : Int)) = ((f + k : Nat) : Int)) := Lib.hid (by rw [IntWalk.i64_in _ (by omega)]; omega)
              have hnew : (wr.drew.setCell ⟨gb, f + k, none⟩ (.int .u8 (byt x.p.b k))).heap[gb]? = some (.cells (row (layB cur f (x.p.b.take (k + 1)))).toArray 5 (0, 0)) := by
                have h1 := heap_setCell_same wr.drew gb (f + k) _ _ (.int .u8 (byt x.p.b k)) hcg
                rw [h1, List.setIfInBounds_toArray, layB_step (by rw [← HNB.out, hcur]; exact hfit) hkb]
                have h2 : byt x.p.b k = ((x.p.b[k]).toNat : Int) := by unfold byt; rw [List.getElem?_eq_getElem hkb]; rfl
                rw [h2, row_setb]
              clear hr2 e2 hkb
              go_upto_region 11 with fail
              refine wp_region_held_drew (S := fun w' => Below w.heap.size w w') (by kernel_rfl) hbel.drew (fun hS => ?_)
              refine held_pure (i := 0) (oi := ⟨some 42, _, _, _, _, _⟩) rfl (by kernel_rfl) (by kernel_rfl) (by kernel_rfl) (fun _ _ _ h => h) (by rfl) (v := ?_) (fun w hSw => ?_) hS (fun hS => ?_)
              rotate_left
              · go_simp; try with_reducible rfl
              try go_frame
              refine held_pure (i := 1) (oi := ⟨some 43, _, _, _, _, _⟩) rfl (by kernel_rfl) (by kernel_rfl) (by kernel_rfl) (fun _ _ _ h => h) (by rfl) (v := ?_) (fun w hSw => ?_) hS (fun hS => ?_)
              rotate_left
              · go_simp; try with_reducible rfl
              try go_frame
              refine held_pure (i := 2) (oi := ⟨some 44, _, _, _, _, _⟩) rfl (by kernel_rfl) (by kernel_rfl) (by kernel_rfl) (fun _ _ _ h => h) (by rfl) (v := ?_) (fun w hSw => ?_) hS (fun hS => ?_)
              rotate_left
              · go_simp; try with_reducible rfl
              try go_frame
              refine held_pure (i := 3) (oi := ⟨some 45, _, _, _, _, _⟩) rfl (by kernel_rfl) (by kernel_rfl) (by kernel_rfl) (fun _ _ _ h => h) (by rfl) (v := ?_) (fun w hSw => ?_) hS (fun hS => ?_)
              rotate_left
              · go_simp; try with_reducible rfl
              try go_frame
              refine held_pure (i := 4) (oi := ⟨some 46, _, _, _, _, _⟩) rfl (by kernel_rfl) (by kernel_rfl) (by kernel_rfl) (fun _ _ _ h => h) (by rfl) (fun w hSw => run_load_ps rfl rfl ((hSw.cell (p := ⟨g, o, none⟩) hgz).trans k00)) hS (fun hS => ?_)
              try go_frame
              refine held_pure (i := 5) (oi := ⟨some 47, _, _, _, _, _⟩) rfl (by kernel_rfl) (by kernel_rfl) (by kernel_rfl) (fun _ _ _ h => h) (by rfl) (v := ?_) (fun w hSw => ?_) hS (fun hS => ?_)
              rotate_left
              · go_simp; try with_reducible rfl
              try go_frame
              refine held_pure (i := 6) (oi := ⟨some 48, _, _, _, _, _⟩) rfl (by kernel_rfl) (by kernel_rfl) (by kernel_rfl) (fun _ _ _ h => h) (by rfl) (v := Value.pointer (some ⟨b1, o1 + i * 3, none⟩)) (fun w hSw => by go_simp; try (exact fun h => absurd h (by omega))) hS (fun hS => ?_)
              try go_frame
              refine held_pure (i := 7) (oi := ⟨some 49, _, _, _, _, _⟩) rfl (by kernel_rfl) (by kernel_rfl) (by kernel_rfl) (fun _ _ _ h => h) (by rfl) (v := ?_) (fun w hSw => ?_) hS (fun hS => ?_)
              rotate_left
              · go_simp; try with_reducible rfl
              try go_frame
              refine held_pure (i := 8) (oi := ⟨some 50, _, _, _, _, _⟩) rfl (by kernel_rfl) (by kernel_rfl) (by kernel_rfl) (fun _ _ _ h => h) (by rfl) (fun w hSw => run_load_int rfl rfl ((hSw.cell (p := ⟨b1, o1 + i * 3, none⟩) hb1w).trans kx00)) hS (fun hS => ?_)
              try go_frame
              refine held_pure (i := 9) (oi := ⟨some 51, _, _, _, _, _⟩) rfl (by kernel_rfl) (by kernel_rfl) (by kernel_rfl) (fun _ _ _ h => h) (by rfl) (v := ?_) (fun w hSw => ?_) hS (fun hS => ?_)
              rotate_left
              · go_simp; try with_reducible rfl
              try go_frame
              refine held_pure (i := 10) (oi := ⟨some 52, _, _, _, _, _⟩) rfl (by kernel_rfl) (by kernel_rfl) (by kernel_rfl) (fun _ _ _ h => h) (by rfl) (v := .int .i64 ((f + k : Nat) : Int)) (fun w hSw => by go_simp; exact HW.out) hS (fun hS => ?_)
              try go_frame
              refine held_pure (i := 11) (oi := ⟨some 53, _, _, _, _, _⟩) rfl (by kernel_rfl) (by kernel_rfl) (by kernel_rfl) (fun _ _ _ h => h) (by rfl) (v := ?_) (fun w hSw => ?_) hS (fun hS => ?_)
              rotate_left
              · go_simp; try with_reducible rfl
              try go_frame
              refine held_pure (i := 12) (oi := ⟨some 54, _, _, _, _, _⟩) rfl (by kernel_rfl) (by kernel_rfl) (by kernel_rfl) (fun _ _ _ h => h) (by rfl) (v := ?_) (fun w hSw => ?_) hS (fun hS => ?_)
              rotate_left
              · go_simp; try with_reducible rfl
              try go_frame
              refine held_pure (i := 13) (oi := ⟨some 55, _, _, _, _, _⟩) rfl (by kernel_rfl) (by kernel_rfl) (by kernel_rfl) (fun _ _ _ h => h) (by rfl) (v := ?_) (fun w hSw => ?_) hS (fun hS => ?_)
              rotate_left
              · go_simp; try with_reducible rfl
              try go_frame
              refine held_pure (i := 14) (oi := ⟨some 56, _, _, _, _, _⟩) rfl (by kernel_rfl) (by kernel_rfl) (by kernel_rfl) (fun _ _ _ h => h) (by rfl) (fun w hSw => run_load_ps rfl rfl ((hSw.cell (p := ⟨g, o, none⟩) hgz).trans k00)) hS (fun hS => ?_)
              try go_frame
              refine held_pure (i := 15) (oi := ⟨some 57, _, _, _, _, _⟩) rfl (by kernel_rfl) (by kernel_rfl) (by kernel_rfl) (fun _ _ _ h => h) (by rfl) (v := ?_) (fun w hSw => ?_) hS (fun hS => ?_)
              rotate_left
              · go_simp; try with_reducible rfl
              try go_frame
              refine held_pure (i := 16) (oi := ⟨some 58, _, _, _, _, _⟩) rfl (by kernel_rfl) (by kernel_rfl) (by kernel_rfl) (fun _ _ _ h => h) (by rfl) (v := Value.pointer (some ⟨b1, o1 + i * 3, none⟩)) (fun w hSw => by go_simp; try (exact fun h => absurd h (by omega))) hS (fun hS => ?_)
              try go_frame
              refine held_pure (i := 17) (oi := ⟨some 59, _, _, _, _, _⟩) rfl (by kernel_rfl) (by kernel_rfl) (by kernel_rfl) (fun _ _ _ h => h) (by rfl) (v := Value.pointer (some ⟨b1, o1 + i * 3 + 2, none⟩)) (fun w hSw => by go_simp) hS (fun hS => ?_)
              try go_frame
              refine held_pure (i := 18) (oi := ⟨some 60, _, _, _, _, _⟩) rfl (by kernel_rfl) (by kernel_rfl) (by kernel_rfl) (fun _ _ _ h => h) (by rfl) (fun w hSw => run_load_sl rfl rfl ((hSw.cell (p := ⟨b1, o1 + i * 3 + 2, none⟩) hb1w).trans kx02)) hS (fun hS => ?_)
              try go_frame
              refine held_pure (i := 19) (oi := ⟨some 61, _, _, _, _, _⟩) rfl (by kernel_rfl) (by kernel_rfl) (by kernel_rfl) (fun _ _ _ h => h) (by rfl) (v := ?_) (fun w hSw => ?_) hS (fun hS => ?_)
              rotate_left
              · go_simp; try with_reducible rfl
              try go_frame
              refine held_pure (i := 20) (oi := ⟨some 62, _, _, _, _, _⟩) rfl (by kernel_rfl) (by kernel_rfl) (by kernel_rfl) (fun _ _ _ h => h) (by rfl) (v := Value.pointer (some ⟨b2, o2 + k, none⟩)) (fun w hSw => by go_simp; try (exact fun h => absurd h (by omega))) hS (fun hS => ?_)
              try go_frame
              refine held_pure (i := 21) (oi := ⟨some 63, _, _, _, _, _⟩) rfl (by kernel_rfl) (by kernel_rfl) (by kernel_rfl) (fun _ _ _ h => h) (by rfl) (fun w hSw => run_load_u8 rfl rfl ((hSw.cell (p := ⟨b2, o2 + k, none⟩) hb2w).trans kb0)) hS (fun hS => ?_)
              try go_frame
              refine held_pure (i := 22) (oi := ⟨some 64, _, _, _, _, _⟩) rfl (by kernel_rfl) (by kernel_rfl) (by kernel_rfl) (fun _ _ _ h => h) (by rfl) (v := Value.pointer (some ⟨gb, f + k, none⟩)) (fun w hSw => by go_simp; rw [if_pos ⟨by omega, by omega⟩]; first | rfl | (have h9 : ((f : Int) + (k : Int)).toNat = f + k := by omega); (try rw [h9]); first | rfl | simp) hS (fun hS => ?_)
              try go_frame
              refine wpAnyH_ready (rs := [23]) (by kernel_rfl) (by simp) (AllReadyH.cons (o := ⟨none, _, _, _, _, _⟩) rfl (fun K hK => ?_) AllReadyH.nil)
              rw [if_pos (by rfl)]
              refine store_u8_wp (n := byt x.p.b k) rfl rfl rfl kgb fgb ?_
              refine hK.out _ _ (hS.setCell (p := ⟨gb, f + k, none⟩) hwgb _) (fun hS => ?_)
              clear hK K
              try go_frame
              refine wpAnyH_done (by kernel_rfl) ?_ _
              go_wp2_with fail
              go_roundw
              case rel => exact ⟨k + 1, by omega, by simp, hnew, hS⟩
              case measure => simp [intOf]; omega
            · obtain rfl : N = k := by omega
              go_wp2
              go_roundw
              case rel =>
                rw [HNB.out, List.take_length] at hcg
                exact ⟨i + 1, layB cur f x.p.b, by omega, by simp, by rw [layB_length (by rw [← HNB.out]; omega)]; exact hcur, HFX, hcg, hbel⟩
              case measure => simp [intOf]; omega
        · obtain rfl : n = i := by omega
          go_wp2
          have hfin : doneP L = cur := by rw [HF.out, List.drop_eq_nil_of_le (by rw [HL.out, piE, List.length_map, ← HN.out]; exact Nat.le_refl _)]; rfl
          refine bodyPost_ret (results_tmp2 rfl _ _ _) rfl ⟨_, by rw [hD.out]; rfl, ?_⟩
          rw [hfin]
          refine Made.of_own ?_ hbel
          have := own_of_block (bs := cur) hwgb hcg (by omega)
          rw [hcur] at this ⊢
          exact this
    · have d2 : (Y != E) = true := by simpa using h2
      have hD : doneB L = false := by rw [HDB.out, decide_eq_false h2, Bool.and_false]
      clear h1 h2
      go_wp2_with (first | (go_at_call 50; refine (r15bytes A c l B g o w1 (hH.out.below (x1.mono hB)) (Nat.le_trans hB x1.size)).mono ?_; rintro e w2 ⟨rfl, x2⟩; rw [hY.out]) | (go_at_call 83; refine (r15end A c l B g o w hH.out hB).mono ?_; rintro e w1 ⟨rfl, x1⟩; rw [hE.out]))
      exact bodyPost_ret (results_tmp2 rfl _ _ _) rfl ⟨_, by rw [hD]; rfl, by rw [doneP, if_neg (by rw [hD]; decide)]; exact Made.nil _ _ (x1.trans (x2.mono x1.size))⟩
end Go.Proofs.Ytghbliabmecbcaa

/-
  Contract of the document's Gaps of layer 15. Conditions are each theorem's own.
-/
namespace Go.Proofs.Ytghbliabmecbcaa
open Go.RowKit Go.Shelf

/-- A store into a row of one's own. -/
theorem own_seti {w : World} {base g n c i t : Nat} {xs : List Value} {u : Value} (h : w.ownsRow base t 1 (.slice (some ⟨g, 0, none⟩) n c) n xs) :
    (w.setCell ⟨g, i, none⟩ u).ownsRow base t 1 (.slice (some ⟨g, 0, none⟩) n c) n (xs.set i u) := by
  rcases h.2 with ⟨h0, _⟩ | ⟨k, cap, cur, hv, hb, hh, hle, hm, hs, ht⟩
  · cases h0
  · cases hv
    refine ⟨by rw [List.length_set]; exact h.1, .inr ⟨g, c, cur.setIfInBounds i u, rfl, hb, heap_set hh i _, hle, hm, by simp [hs], ?_⟩⟩
    rw [Array.toList_setIfInBounds, List.take_set, ht]
theorem own_ice {w : World} {base g n c i t : Nat} {xs : List Value} (h : w.ownsRow base t 1 (.slice (some ⟨g, 0, none⟩) n c) n xs) : w.frozen? ⟨g, i, none⟩ = false ∧ base ≤ g := by
  rcases h.2 with ⟨h0, _⟩ | ⟨k, cap, cur, hv, hb, hh, _⟩
  · cases h0
  · cases hv; exact ⟨heap_frozen hh i, hb⟩
theorem pv_set_last (pre : List Nat) (e k : Nat) : (pv (pre ++ [e])).set pre.length (.int .i64 (k : Int)) = pv (pre ++ [k]) := by
  simp [pv]
theorem pv_get_last (pre : List Nat) (e : Nat) : (pre ++ [e]).getD pre.length 0 = e := by simp
/-- append of two numbers onto a row of the call's own. -/
theorem append_int2 {w : World} {ops : Array Oper} {rest : List Oper} {o : Oper} {a : Act} {Q : Exit → Act → World → Prop} (hgd : o.guard = none) (s x : Operand)
    (ho : o.op = .call { callee := .builtin .append, args := #[s, x], argTypes := #[53, 53] })
    (base : Nat) (v : Value) (n : Nat) (ls : List Nat) (hs : a.eval s = v) (hown : w.ownsRow base 3 1 v n (pv ls))
    (g : Nat) (y z : Nat) (hx : a.eval x = .slice (some ⟨g, 0, none⟩) 2 2) (hy : w.heap[g]? = some (.cells #[.int .i64 (y : Int), .int .i64 (z : Int)] 3 (0, 0)))
    (hlen : n ≤ 1000001) (hbase : base ≤ w.heap.size)
    (h : ∀ v' w', w'.ownsRow base 3 1 v' (n + 2) (pv (ls ++ [y, z])) → w.grownBy w' v.ownBlock → wpList Try.prog ops Q rest (a.put o.dst v') w') : wpList Try.prog ops Q (o :: rest) a w := by
  obtain ⟨i0, hi, hz0, hz1, hz2⟩ := info_parts info_int
  refine wpList_append_own w hgd s x 53 ho base 3 i0 (.int .i64 0) 1 8 Try.underlying53 hi hz0 hz1 hz2 rfl (by decide) v n (pv ls) hs hown ⟨g, 0, none⟩ 2 2 [.int .i64 (y : Int), .int .i64 (z : Int)] hx
      rfl (fun j u hu => ?_) (by intro u hu; simp only [List.mem_cons, List.not_mem_nil, or_false] at hu; rcases hu with rfl | rfl <;> rfl) (by unfold maxLen; omega) (by omega) hbase (fun v' w' h1 h2 _ => h v' w' (by simpa [pv] using h1) h2)
  rw [add_off, Nat.zero_add, cell_of_row _ _ _ _ _ _ hy]
  simpa using hu
end Go.Proofs.Ytghbliabmecbcaa

/-
  The document's parts in a block of their own beside the code's: what each call keeps of the other. Conditions are each theorem's own.
-/
namespace Go.Proofs.Ytghbliabmecbcaa
open Go.RowKit Go.Shelf

/-- At block g lies what the document's answers of layer 15 keep, and own. -/
structure Rx (w : World) (g : Nat) (A : Option Addr) (c : Nat) (l : List XP) : Prop where
  obj : w.heap[g]? = some (.cells #[.slice A l.length c] 80 (0, 0))
  own : w.ownsRow 0 142 3 (.slice A l.length c) l.length (l.flatMap clP)
  byt : ∀ y ∈ l, w.ownsRow 0 5 1 (.slice y.A y.p.b.length y.c) y.p.b.length (row y.p.b)
  ok : ∀ y ∈ l, okP y.p
  n : l.length ≤ 100000
theorem Rx.ho {w : World} {g : Nat} {A : Option Addr} {c : Nat} {l : List XP} (h : Rx w g A c l) : Ho w w.heap.size g 0 A c l := by
  obtain ⟨A', c', e, hr, hc⟩ := own_rds h.own rfl rfl (fun _ _ => rfl)
  injection e with e1 e2 e3
  subst e1; subst e3
  refine ⟨cells_at h.obj rfl, heap_lt h.obj, hc, hr, fun x hx => arg_own (h.byt x hx), h.ok, h.n, fun e => ?_⟩
  subst e
  rcases h.own.2 with ⟨e, _⟩ | ⟨g', cap, cur, e, _⟩
  · injection e with _ _ e3
  · injection e with e1; cases e1
theorem Rx.below {w w' : World} {g : Nat} {A : Option Addr} {c : Nat} {l : List XP} (h : Rx w g A c l) (hb : Below w.heap.size w w') : Rx w' g A c l :=
  ⟨(hb.block g (heap_lt h.obj)).trans h.obj, own_below h.own hb, fun y hy => own_below (h.byt y hy) hb, h.ok, h.n⟩
/-- Blocks of these types alone. -/
def OfT (w : World) (S : Nat → Prop) (T : TypeId → Prop) : Prop := ∀ k, S k → ∃ cs ty, w.heap[k]? = some (.cells cs ty (0, 0)) ∧ T ty
theorem OfT.not {w : World} {S : Nat → Prop} {T : TypeId → Prop} (h : OfT w S T) {g : Nat} (hs : S g) {cs : Array Value} {ty : TypeId} {fr : Nat × Nat} (hg : w.heap[g]? = some (.cells cs ty fr)) : T ty := by
  obtain ⟨cs', ty', h1, h2⟩ := h g hs
  have h3 := h1.symm.trans hg
  simp only [Option.some.injEq, Obj.cells.injEq] at h3
  rw [← h3.2.1]; exact h2
theorem own_keptO {S : Nat → Prop} {T : TypeId → Prop} {w w' : World} {b e s n : Nat} {v : Value} {xs : List Value} (h : w.ownsRow b e s v n xs) (k : Kept S w w') (hS : OfT w S T) (hT : ¬ T e) : w'.ownsRow b e s v n xs :=
  own_keptT h k (fun _ hs _ _ hg => hT (hS.not hs hg))
theorem Rx.kept {S : Nat → Prop} {T : TypeId → Prop} {w w' : World} {g : Nat} {A : Option Addr} {c : Nat} {l : List XP} (h : Rx w g A c l) (k : Kept S w w') (hS : OfT w S T) (h1 : ¬ T 80) (h2 : ¬ T 142) (h3 : ¬ T 5) : Rx w' g A c l :=
  ⟨(k.block g (heap_lt h.obj) (fun s => h1 (hS.not s h.obj))).trans h.obj, own_keptO h.own k hS h2, fun y hy => own_keptO (h.byt y hy) k hS h3, h.ok, h.n⟩
theorem Hx.kept {S : Nat → Prop} {T : TypeId → Prop} {w w' : World} {g : Nat} {A : Option Addr} {c : Nat} {L : List XP} (h : Hx w g A c L) (k : Kept S w w') (hS : OfT w S T) (h1 : ¬ T 133) (h2 : ¬ T 128) (h3 : ¬ T 5) : Hx w' g A c L :=
  ⟨(k.block g (heap_lt h.obj) (fun s => h1 (hS.not s h.obj))).trans h.obj, own_keptO h.own k hS h2, h.nil_, fun y hy => own_keptO (h.byt y hy) k hS h3, h.ris, h.n⟩
def TH (t : TypeId) : Prop := t = 133 ∨ t = 128
def TR (t : TypeId) : Prop := t = 80
theorem Hx.ofT {w : World} {g : Nat} {A : Option Addr} {c : Nat} {L : List XP} (h : Hx w g A c L) : OfT w (fun k => k = g ∨ (Value.slice A L.length c).ownBlock = some k) TH := fun k hk => by
  rcases hk with rfl | hk
  · exact ⟨_, _, h.obj, .inl rfl⟩
  · rcases h.own.2 with ⟨e, _⟩ | ⟨g', cap, cur, e, _, hg, _⟩
    · rw [e] at hk; cases hk
    · rw [e] at hk
      have : g' = k := by simpa [Value.ownBlock] using hk
      exact ⟨cur, _, this ▸ hg, .inr rfl⟩
theorem Rx.ofT {w : World} {g : Nat} {A : Option Addr} {c : Nat} {l : List XP} (h : Rx w g A c l) : OfT w (fun k => k = g) TR := fun k hk => by subst hk; exact ⟨_, _, h.obj, rfl⟩
theorem flatG_len : ∀ S : List (Int × Int), (flatG S).length = 2 * S.length
  | [] => rfl
  | x :: S => by
    have := flatG_len S
    simp only [flatG, List.flatMap_cons, List.length_append, List.length_cons, List.length_nil] at this ⊢
    omega
theorem flatG_get : ∀ (pre : List (Int × Int)) (x : Int × Int) (more : List (Int × Int)), (flatG (pre ++ x :: more))[2 * pre.length]? = some x.1.toNat ∧ (flatG (pre ++ x :: more))[2 * pre.length + 1]? = some x.2.toNat
  | [], x, more => by simp [flatG]
  | y :: pre, x, more => by
    have := flatG_get pre x more
    simp only [flatG] at this ⊢
    rw [List.cons_append, List.flatMap_cons, List.length_cons, show 2 * (pre.length + 1) = 2 * pre.length + 1 + 1 by omega]
    simp only [List.cons_append, List.nil_append, List.getElem?_cons_succ]
    exact this
theorem rxroom (g : Nat) (A : Option Addr) (c : Nat) (l : List XP) (a : Int) (A' : Option Addr) (b : List UInt8) (c' : Nat) (w : World) (h : Rx w g A c l) (hA' : Rd w w.heap.size A' b) :
    Calls Try.prog 46 #[.pointer (some ⟨g, 0, none⟩), .int .i64 a, .slice A' b.length c'] w fun e w' => e = .returned (.int .i64 (roomP (piE l) a b)) ∧ Below w.heap.size w w' :=
  r15room A c l w.heap.size g 0 a A' b c' w h.ho (Nat.le_refl _) hA'
theorem rxbytes (g : Nat) (A : Option Addr) (c : Nat) (l : List XP) (w : World) (h : Rx w g A c l) :
    Calls Try.prog 50 #[.pointer (some ⟨g, 0, none⟩)] w fun e w' => e = .returned (.int .i64 (bytesP (piE l))) ∧ Below w.heap.size w w' :=
  r15bytes A c l w.heap.size g 0 w h.ho (Nat.le_refl _)
theorem rxadd (g : Nat) (A : Option Addr) (c : Nat) (l : List XP) (a : Int) (m : Bool) (A' : Option Addr) (b : List UInt8) (c' : Nat) (w : World) (h : Rx w g A c l) (hA' : Arg w w.heap.size A' c' b) (hbl : b.length ≤ 1000000)
    (ha : -9223372036854775808 ≤ a ∧ a ≤ 9223372036854775807) (hn : l.length + 1 ≤ 100000) :
    Calls Try.prog 48 #[.pointer (some ⟨g, 0, none⟩), .int .i64 a, .bool m, .slice A' b.length c'] w fun e w' => e = .returned (.int .i64 (addE (piE l) ⟨a, m, b⟩)) ∧
      ∃ A2 c2 l2, Rx w' g A2 c2 l2 ∧ piE l2 = addL (piE l) ⟨a, m, b⟩ ∧ Kept (fun k => k = g) w w' ∧ l2.length ≤ l.length + 1 := by
  refine (r15add A c l w.heap.size g 0 _ _ a m A' b c' w h.ho (Nat.le_refl _) h.obj hA' hbl ha).mono ?_
  rintro e w' ⟨rfl, ⟨hb, hl⟩ | ⟨hl, w1, P, p, A3, c3, hb, rfl, o1, o2⟩⟩
  · exact ⟨rfl, A, c, l, h.below hb, hl.symm, Kept.of_below hb, Nat.le_succ _⟩
  · have hg1 := (hb.block g (heap_lt h.obj)).trans h.obj
    have hlen : (l ++ [XP.mk ⟨a, m, b⟩ A3 c3]).length = l.length + 1 := by simp
    have hok : okP ⟨a, m, b⟩ := by
      rcases addL_cases (piE l) ⟨a, m, b⟩ with e | ⟨_, _, h1, h2, _, _⟩
      · rw [e] at hl
        have := congrArg List.length hl
        simp at this
      · have h3 : ¬ a < 0 := fun h => h1 (.inl h)
        have h4 : ¬ a > 65535 - (b.length : Int) := h2
        have h5 : (Pc.mk a m b).stop = a + (b.length : Int) := rfl
        exact ⟨by show 0 ≤ a; omega, by rw [h5]; omega⟩
    refine ⟨rfl, P, p, l ++ [XP.mk ⟨a, m, b⟩ A3 c3], ⟨?_, ?_, ?_, ?_, by rw [hlen]; exact hn⟩, by rw [hl, piE, piE, List.map_append]; rfl, (Kept.of_below hb).trans (Kept.setCell w1 g 0 _) (fun _ _ h => h), by rw [hlen]; exact Nat.le_refl _⟩
    · rw [hlen]; exact heap_setCell_same w1 g 0 _ _ _ hg1
    · rw [hlen]; exact own_base0 (own_setCellB o1 hg1 (nat_ne (by kernel_rfl)))
    · intro y hy
      rcases List.mem_append.1 hy with hy | hy
      · exact own_setCellB (own_below (h.byt y hy) hb) hg1 (nat_ne (by kernel_rfl))
      · rw [List.mem_singleton.1 hy]
        exact own_base0 (own_setCellB o2 hg1 (nat_ne (by kernel_rfl)))
    · intro y hy
      rcases List.mem_append.1 hy with hy | hy
      · exact h.ok y hy
      · rw [List.mem_singleton.1 hy]; exact hok
theorem Same.wf {L l : List Pc} (h : Same L l) : wfP l := fun h0 x hx => by
  rw [h.end_] at h0 ⊢
  split
  · exact le_farP (h.perm.mem_iff.2 hx)
  · rename_i he; rw [if_neg he] at h0; omega
theorem rxdone (g : Nat) (A : Option Addr) (c : Nat) (l : List XP) (w : World) (h : Rx w g A c l) (hwf : wfP (piE l)) :
    Calls Try.prog 49 #[.pointer (some ⟨g, 0, none⟩)] w fun e w' => ∃ v, e = .returned (.tuple #[v, .bool (doneB (piE l))]) ∧ Made w w' v (doneP (piE l)) :=
  r15done A c l w.heap.size g 0 w h.ho (Nat.le_refl _) hwf
end Go.Proofs.Ytghbliabmecbcaa

/-
  Bytes that are cut, and come in two orders: the parts of the statement's own row; two Holes side by side. Conditions are each theorem's own.
-/
namespace Go.Proofs.Ytghbliabmecbcaa
open Go.RowKit Go.Shelf
theorem th_u8 : ¬ TH 5 := by rintro (h | h) <;> exact absurd h (nat_ne (by kernel_rfl))
theorem Hx.beside {w w' : World} {g1 g2 c1 c2 : Nat} {A1 A2 : Option Addr} {L1 L2 : List XP} (h1 : Hx w g1 A1 c1 L1) (h2 : Hx w g2 A2 c2 L2) (k : Kept (fun k => k = g1 ∨ (Value.slice A1 L1.length c1).ownBlock = some k) w w') (hg : g1 ≠ g2)
    (hr : ∀ k, (Value.slice A1 L1.length c1).ownBlock = some k → (Value.slice A2 L2.length c2).ownBlock ≠ some k) : Hx w' g2 A2 c2 L2 := by
  have hp : ∀ k, (Value.slice A1 L1.length c1).ownBlock = some k → ∃ cur, w.heap[k]? = some (.cells cur 128 (0, 0)) := fun k hk => by
    rcases h1.own.2 with ⟨e, _⟩ | ⟨g', cap, cur, e, _, hg, _⟩
    · rw [e] at hk; cases hk
    · rw [e] at hk
      have : g' = k := by simpa [Value.ownBlock] using hk
      exact ⟨cur, this ▸ hg⟩
  refine ⟨(k.block g2 (heap_lt h2.obj) ?_).trans h2.obj, ?_, h2.nil_, fun y hy => own_keptO (h2.byt y hy) k h1.ofT th_u8, h2.ris, h2.n⟩
  · rintro (e | e)
    · exact hg e.symm
    · obtain ⟨cur, h3⟩ := hp g2 e
      have h4 := h3.symm.trans h2.obj
      simp only [Option.some.injEq, Obj.cells.injEq] at h4
      exact absurd h4.2.1 (nat_ne (by kernel_rfl))
  · refine ⟨h2.own.1, ?_⟩
    rcases h2.own.2 with hn | ⟨g', cap, cur, hv, hb, hg', rest⟩
    · exact .inl hn
    · refine .inr ⟨g', cap, cur, hv, hb, (k.block g' (heap_lt hg') ?_).trans hg', rest⟩
      rintro (e | e)
      · have h4 := h1.obj.symm.trans (e ▸ hg')
        simp only [Option.some.injEq, Obj.cells.injEq] at h4
        exact absurd h4.2.1 (nat_ne (by kernel_rfl))
      · exact hr g' e (by rw [hv]; rfl)
theorem own_lt {w : World} {g c : Nat} {A : Option Addr} {L : List XP} (h : Hx w g A c L) : ∀ k, (Value.slice A L.length c).ownBlock = some k → k < w.heap.size := fun k hk => (h.own.lt k hk).2
/-- Two that own different rows. -/
def Apart2 (v1 v2 : Value) : Prop := ∀ k, v1.ownBlock = some k → v2.ownBlock ≠ some k
theorem Apart2.symm {v1 v2 : Value} (h : Apart2 v1 v2) : Apart2 v2 v1 := fun k h2 h1 => h k h1 h2
theorem Apart2.next {v1 v2 v : Value} {B : Nat} (h : Apart2 v1 v2) (hl : ∀ k, v2.ownBlock = some k → k < B) (hn : ∀ k, v.ownBlock = some k → v1.ownBlock = some k ∨ B ≤ k) : Apart2 v v2 := fun k hk h2 => by
  rcases hn k hk with h1 | h1
  · exact h k h1 h2
  · have := hl k h2; omega
theorem range_blk {w V : World} {g o : Nat} {cs : List Value} (h : V.rangeAt g o cs) (hb : w.heap[g]? = V.heap[g]?) : w.rangeAt g o cs := fun j v hj => (World.cell?_of_block (a := ⟨g, o + j, none⟩) hb).trans (h j v hj)
theorem chain_nodup {b : List UInt8} {k : Nat} {l : List Pc} (h : Chain b k l) : l.Nodup := h.facts.2.2.2.2.imp fun h e => by have := h.2.2; rw [e] at this; omega
theorem chain_take {b : List UInt8} {P : List Pc} (h : Chain b 0 P) (hb : b.length ≤ 65535) {j : Nat} {p : Pc} (hp : P[j]? = some p) : addE (P.take j) p = 0 ∧ addL (P.take j) p = P.take (j + 1) := by
  have hj := (List.getElem?_eq_some_iff.1 hp).1
  obtain ⟨h1, h2⟩ := order_add h hb (s := P.take j) (fun x hx => List.mem_of_mem_take hx) (List.mem_of_getElem? hp)
  refine ⟨h1, ?_⟩
  have hn : ¬ p ∈ P.take j := fun hm => by
    obtain ⟨i, hi⟩ := List.getElem?_of_mem hm
    rw [List.getElem?_take] at hi
    split at hi
    · rename_i hij
      have hi2 := (List.getElem?_eq_some_iff.1 hi).1
      have := (List.getElem_inj (chain_nodup h) (h₀ := hi2) (h₁ := hj)).1 ((List.getElem?_eq_some_iff.1 hi).2.trans (List.getElem?_eq_some_iff.1 hp).2.symm)
      omega
    · cases hi
  rw [h2, if_neg hn, List.take_succ_eq_append_getElem hj, (List.getElem?_eq_some_iff.1 hp).2]
theorem chain_rev {b : List UInt8} {P : List Pc} (h : Chain b 0 P) (hb : b.length ≤ 65535) {j : Nat} {p : Pc} (hp : P.reverse[j]? = some p) :
    addE (P.reverse.take j) p = 0 ∧ addL (P.reverse.take j) p = P.reverse.take (j + 1) ∧ addE (P.reverse.take (j + 1)) p = 0 ∧ addL (P.reverse.take (j + 1)) p = P.reverse.take (j + 1) := by
  have hj := (List.getElem?_eq_some_iff.1 hp).1
  have hm : p ∈ P := List.mem_reverse.1 (List.mem_of_getElem? hp)
  have hnd : P.reverse.Nodup := List.pairwise_reverse.2 ((chain_nodup h).imp fun h => Ne.symm h)
  obtain ⟨h1, h2⟩ := order_add h hb (s := P.reverse.take j) (fun x hx => List.mem_reverse.1 (List.mem_of_mem_take hx)) hm
  obtain ⟨h3, h4⟩ := order_add h hb (s := P.reverse.take (j + 1)) (fun x hx => List.mem_reverse.1 (List.mem_of_mem_take hx)) hm
  have hn : ¬ p ∈ P.reverse.take j := fun hm => by
    obtain ⟨i, hi⟩ := List.getElem?_of_mem hm
    rw [List.getElem?_take] at hi
    split at hi
    · rename_i hij
      have hi2 := (List.getElem?_eq_some_iff.1 hi).1
      have := (List.getElem_inj hnd (h₀ := hi2) (h₁ := hj)).1 ((List.getElem?_eq_some_iff.1 hi).2.trans (List.getElem?_eq_some_iff.1 hp).2.symm)
      omega
    · cases hi
  have hin : p ∈ P.reverse.take (j + 1) := List.mem_of_getElem? (i := j) (by rw [List.getElem?_take, if_pos (Nat.lt_succ_self j)]; exact hp)
  refine ⟨h1, ?_, h3, by rw [h4, if_pos hin]⟩
  rw [h2, if_neg hn, List.take_succ_eq_append_getElem hj, (List.getElem?_eq_some_iff.1 hp).2]

/-- bytes.Equal of two slices that read the same bytes. -/
theorem equal_n (A A' : Option Addr) (xs : List UInt8) (n m c c' B B' : Nat) (w : World) (hn : n = xs.length) (hm : m = xs.length) (h : Rd w B A xs) (h' : Rd w B' A' xs) :
    Calls Try.prog 18 #[.slice A n c, .slice A' m c'] w fun e w' => e = .returned (.bool true) ∧ w = w' := by
  subst hn
  subst hm
  refine (equal_any A A' xs xs c c' B B' w h h').mono ?_
  rintro e w' ⟨rfl, rfl⟩
  rw [decide_eq_true (rfl : xs = xs)]
  exact ⟨rfl, rfl⟩

end Go.Proofs.Ytghbliabmecbcaa

/-
  What the code of layer 16 keeps: a table, its map of pointers, its buffers. Conditions are each theorem's own.
-/
namespace Go.Proofs.Ytghbliabmecbcaa
open Go.RowKit Go.Shelf Go.Maps

/-- How a pointer in a map reads: as its block's number. -/
def ptrElem : Value → Option (DataW Unit × List MemPlace)
  | .pointer none => some (.lit (.int .i64 (-1)), [])
  | .pointer (some ⟨g, 0, none⟩) => some (.lit (.int .i64 (g : Int)), [])
  | _ => none
theorem ptr_inv {v : Value} {g : Nat} {ps : List MemPlace} (h : ptrElem v = some (.lit (.int .i64 (g : Int)), ps)) : v = .pointer (some ⟨g, 0, none⟩) := by
  unfold ptrElem at h
  split at h
  · simp only [Option.some.injEq, Prod.mk.injEq, DataW.lit.injEq, Lit.int.injEq] at h; omega
  · rename_i g'
    simp only [Option.some.injEq, Prod.mk.injEq, DataW.lit.injEq, Lit.int.injEq] at h
    have : g' = g := by omega
    rw [this]
  · cases h
theorem ptr_none {v : Value} {ps : List MemPlace} (h : ptrElem v = some (.lit (.int .i64 (-1)), ps)) : v = .pointer none := by
  unfold ptrElem at h
  split at h
  · rfl
  · simp only [Option.some.injEq, Prod.mk.injEq, DataW.lit.injEq, Lit.int.injEq] at h; omega
  · cases h
theorem klaw : Keyed Try.prog 9 := string_keyed Try.underlying9
theorem zeroBf (w : World) : (zeroValue 72).run Try.prog w = .ok (.pointer none) w := by kernel_rfl
def sq (k : List UInt8) : Value := .string (strB k)
theorem kkey (k : List UInt8) (h : k.length ≤ maxLen) : keyOf Try.prog 9 (sq k) = some (.string k) := by
  have h1 : (strB k).size ≤ maxLen := by rw [strB_size]; exact h
  have h2 : (strB k).data.toList = k := by simp [strB]
  have h3 := Go.WideMaps.keyOf_string_mk (P := Try.prog) Try.underlying9 h1
  rw [h2] at h3
  exact h3

/-- An entry of the map: a key and a buffer's block. -/
def enM (p : List UInt8 × Nat) : Lit × DataW Unit := (.string p.1, .lit (.int .i64 (p.2 : Int)))
theorem same_str (a b : List UInt8) : (Lit.string a).sameKey (.string b) = decide (a = b) := by
  show (a == b) = decide (a = b)
  by_cases h : a = b
  · subst h; simp
  · rw [decide_eq_false h]; exact beq_false_of_ne h
theorem pw_eq : ∀ {l : List (List UInt8 × Nat)}, l.Pairwise (fun a b => a.1 ≠ b.1) → ∀ {a b}, a ∈ l → b ∈ l → a.1 = b.1 → a = b
  | [], _, _, _, ha, _, _ => by cases ha
  | x :: l, h, a, b, ha, hb, e => by
    obtain ⟨h1, h2⟩ := List.pairwise_cons.1 h
    rcases List.mem_cons.1 ha with rfl | ha'
    · rcases List.mem_cons.1 hb with rfl | hb'
      · rfl
      · exact absurd e (h1 b hb')
    · rcases List.mem_cons.1 hb with rfl | hb'
      · exact absurd e.symm (h1 a ha')
      · exact pw_eq h2 ha' hb' e
section
variable {es : List (Lit × DataW Unit)} {M : List (List UInt8 × Nat)}
theorem en_has (hp : es.Perm (M.map enM)) (k : List UInt8) : Maps.has (.map es) (.string k) = M.any (fun p => decide (p.1 = k)) := by
  rw [Maps.has_eq, hp.any_eq, List.any_map]
  congr 1
  funext p
  exact same_str p.1 k
theorem en_none (hp : es.Perm (M.map enM)) {k : List UInt8} (h : ∀ p ∈ M, p.1 ≠ k) (z : DataW Unit) : (DataW.map es).atKey (.string k) z = z := by
  refine Maps.atKey_of_not_has ?_ z
  rw [en_has hp, List.any_eq_false]
  intro p hp'
  simpa using h p hp'
theorem en_at (hp : es.Perm (M.map enM)) (nd : M.Pairwise (fun a b => a.1 ≠ b.1)) {p : List UInt8 × Nat} (hm : p ∈ M) (z : DataW Unit) : (DataW.map es).atKey (.string p.1) z = .lit (.int .i64 (p.2 : Int)) := by
  unfold DataW.atKey
  simp only
  cases hf : es.find? (fun q => q.1.sameKey (.string p.1)) with
  | none =>
    have h1 := List.find?_eq_none.1 hf (enM p) (hp.mem_iff.2 (List.mem_map.2 ⟨p, hm, rfl⟩))
    exfalso
    apply h1
    show (Lit.string p.1).sameKey (.string p.1) = true
    rw [same_str]; simp
  | some q =>
    have h1 := List.mem_of_find?_eq_some hf
    have h2 := List.find?_some hf
    obtain ⟨p', hm', rfl⟩ := List.mem_map.1 (hp.mem_iff.1 h1)
    have h3 : p'.1 = p.1 := by
      have h4 : (Lit.string p'.1).sameKey (.string p.1) = true := h2
      rw [same_str] at h4
      exact of_decide_eq_true h4
    have h5 : p' = p := pw_eq nd hm' hm h3
    subst h5
    rfl
theorem notkey_str (p : List UInt8 × Nat) (k : List UInt8) : (!(enM p).1.sameKey (.string k)) = decide (p.1 ≠ k) := by
  show (!(Lit.string p.1).sameKey (.string k)) = _
  rw [same_str]
  by_cases h : p.1 = k
  · simp [h]
  · simp [h]
theorem en_del (hp : es.Perm (M.map enM)) (k : List UInt8) : ∃ es', (DataW.map es).del (.string k) = .map es' ∧ es'.Perm ((M.filter (fun p => decide (p.1 ≠ k))).map enM) := by
  refine ⟨_, rfl, ?_⟩
  refine (hp.filter _).trans ?_
  rw [List.filter_map]
  have e : ((fun p : Lit × DataW Unit => !p.1.sameKey (.string k)) ∘ enM) = fun p => decide (p.1 ≠ k) := funext fun p => notkey_str p k
  rw [e]
theorem en_put (hp : es.Perm (M.map enM)) (p : List UInt8 × Nat) : ∃ es', (DataW.map es).put (.string p.1) (.lit (.int .i64 (p.2 : Int))) = .map es' ∧ es'.Perm ((p :: M.filter (fun x => decide (x.1 ≠ p.1))).map enM) := by
  refine ⟨_, rfl, (WideShapes.insert_perm _ _).trans ?_⟩
  rw [List.map_cons]
  refine List.Perm.cons _ ?_
  refine (hp.filter _).trans ?_
  rw [List.filter_map]
  have e : ((fun p' : Lit × DataW Unit => !p'.1.sameKey (.string p.1)) ∘ enM) = fun x => decide (x.1 ≠ p.1) := funext fun x => notkey_str x p.1
  rw [e]
theorem en_size (hp : es.Perm (M.map enM)) : Maps.size (.map es) = M.length := by
  rw [Maps.size_eq, hp.length_eq, List.length_map]
end

/-- A buffer, and where it lies. -/
structure Bu where
  key : List UInt8
  g : Nat
  h : Nat
  A : Option Addr
  c : Nat
  L : List XP
  began : Int
  head : List UInt8
  headed : Bool
def Bu.v (s : Bu) : Value := .slice s.A s.L.length s.c
def Bu.kg (s : Bu) : List UInt8 × Nat := (s.key, s.g)
def Bu.by (s : Bu) : Int := bytesP (piE s.L)
structure Bx (w : World) (s : Bu) : Prop where
  obj : w.heap[s.g]? = some (.cells #[.pointer (some ⟨s.h, 0, none⟩), .int .i64 s.began, sq s.head, .bool s.headed] 75 (0, 0))
  hx : Hx w s.h s.A s.c s.L
def ApB (a b : Bu) : Prop := a.g ≠ b.g ∧ a.h ≠ b.h ∧ Apart2 a.v b.v
theorem ApB.symm {a b : Bu} (h : ApB a b) : ApB b a := ⟨h.1.symm, h.2.1.symm, h.2.2.symm⟩
/-- A table lies at block t, its map at bm, which holds M; S are the buffers that lie about. -/
structure Tx (w : World) (t bm : Nat) (tot mb my wt : Int) (M : List (List UInt8 × Nat)) (S : List Bu) : Prop where
  obj : w.heap[t]? = some (.cells #[.map (some bm), .int .i64 tot, .int .i64 mb, .int .i64 my, .int .i64 wt] 71 (0, 0))
  map : ∃ es, w.ownsMap Try.prog 9 ptrElem bm M.length (.map es) ∧ es.Perm (M.map enM)
  ndm : M.Pairwise (fun a b => a.1 ≠ b.1)
  nd : S.Pairwise (fun a b => a.key ≠ b.key)
  len : ∀ s ∈ S, s.key.length ≤ maxLen
  bx : ∀ s ∈ S, Bx w s
  ap : S.Pairwise ApB
theorem Bx.below {w w' : World} {s : Bu} (h : Bx w s) (hb : Below w.heap.size w w') : Bx w' s := ⟨(hb.block s.g (heap_lt h.obj)).trans h.obj, h.hx.below hb⟩
theorem own_map_below {w w' : World} {b n : Nat} {D : DataW Unit} {k : TypeId} {R : Value → Option (DataW Unit × List MemPlace)} (h : w.ownsMap Try.prog k R b n D) (hb : Below w.heap.size w w') : w'.ownsMap Try.prog k R b n D := by
  have hlt := h.lt
  obtain ⟨es, clock, h1, F, hs, hD⟩ := h
  exact ⟨es, clock, (hb.block b hlt).trans h1, F, hs, hD⟩
section
variable {w w' : World} {t bm : Nat} {tot mb my wt : Int} {M : List (List UInt8 × Nat)} {S : List Bu}
theorem Tx.below (h : Tx w t bm tot mb my wt M S) (hb : Below w.heap.size w w') : Tx w' t bm tot mb my wt M S := by
  obtain ⟨es, hm, hp⟩ := h.map
  exact ⟨(hb.block t (heap_lt h.obj)).trans h.obj, ⟨es, own_map_below hm hb, hp⟩, h.ndm, h.nd, h.len, fun s hs => (h.bx s hs).below hb, h.ap⟩
theorem Tx.perm (h : Tx w t bm tot mb my wt M S) {M' : List (List UInt8 × Nat)} {S' : List Bu} (hM : M.Perm M') (hS : S.Perm S') : Tx w t bm tot mb my wt M' S' := by
  obtain ⟨es, hm, hp⟩ := h.map
  exact ⟨h.obj, ⟨es, hM.length_eq ▸ hm, hp.trans (hM.map _)⟩, hM.pairwise h.ndm (fun e => e.symm), hS.pairwise h.nd (fun e => e.symm), fun s hs => h.len s (hS.mem_iff.2 hs), fun s hs => h.bx s (hS.mem_iff.2 hs), hS.pairwise h.ap ApB.symm⟩
end
/-- Blocks that are no cells but of these types. -/
def AwayT (w : World) (S : Nat → Prop) (T : TypeId → Prop) : Prop := ∀ k, S k → ∀ cs ty fr, w.heap[k]? = some (.cells cs ty fr) → T ty
theorem own_keptA {S : Nat → Prop} {T : TypeId → Prop} {w w' : World} {b e s n : Nat} {v : Value} {xs : List Value} (h : w.ownsRow b e s v n xs) (k : Kept S w w') (hS : AwayT w S T) (hT : ¬ T e) : w'.ownsRow b e s v n xs :=
  own_keptT h k (fun g hs cs fr hg => hT (hS g hs cs e fr hg))
theorem Hx.keptA {S : Nat → Prop} {T : TypeId → Prop} {w w' : World} {g : Nat} {A : Option Addr} {c : Nat} {L : List XP} (h : Hx w g A c L) (k : Kept S w w') (hS : AwayT w S T) (h1 : ¬ T 133) (h2 : ¬ T 128) (h3 : ¬ T 5) : Hx w' g A c L :=
  ⟨(k.block g (heap_lt h.obj) (fun s => h1 (hS g s _ _ _ h.obj))).trans h.obj, own_keptA h.own k hS h2, h.nil_, fun y hy => own_keptA (h.byt y hy) k hS h3, h.ris, h.n⟩
theorem Bx.keptA {S : Nat → Prop} {T : TypeId → Prop} {w w' : World} {s : Bu} (h : Bx w s) (k : Kept S w w') (hS : AwayT w S T) (h1 : ¬ T 133) (h2 : ¬ T 128) (h3 : ¬ T 5) (hg : ¬ S s.g) : Bx w' s :=
  ⟨(k.block s.g (heap_lt h.obj) hg).trans h.obj, h.hx.keptA k hS h1 h2 h3⟩
def TT (t : TypeId) : Prop := t = 71
theorem tt_no : ¬ TT 133 ∧ ¬ TT 128 ∧ ¬ TT 5 ∧ ¬ TT 75 := by
  refine ⟨?_, ?_, ?_, ?_⟩ <;> (intro h; exact absurd h (nat_ne (by kernel_rfl)))
def TB (t : TypeId) : Prop := t = 75
theorem tb_no : ¬ TB 133 ∧ ¬ TB 128 ∧ ¬ TB 5 ∧ ¬ TB 71 := by
  refine ⟨?_, ?_, ?_, ?_⟩ <;> (intro h; exact absurd h (nat_ne (by kernel_rfl)))
theorem map_is {w : World} {b n : Nat} {D : DataW Unit} {k : TypeId} {R : Value → Option (DataW Unit × List MemPlace)} (h : w.ownsMap Try.prog k R b n D) {cs : Array Value} {ty : TypeId} {fr : Nat × Nat} : w.heap[b]? ≠ some (.cells cs ty fr) := by
  obtain ⟨es, clock, h1, _⟩ := h
  intro h2
  rw [h1] at h2
  cases h2
theorem own_map_kept {S : Nat → Prop} {w w' : World} {b n : Nat} {D : DataW Unit} {k : TypeId} {R : Value → Option (DataW Unit × List MemPlace)} (h : w.ownsMap Try.prog k R b n D) (hk : Kept S w w') (hs : ¬ S b) : w'.ownsMap Try.prog k R b n D := by
  have hlt := h.lt
  obtain ⟨es, clock, h1, F, hs', hD⟩ := h
  exact ⟨es, clock, (hk.block b hlt hs).trans h1, F, hs', hD⟩
section
variable {w w' : World} {t bm : Nat} {tot mb my wt : Int} {M : List (List UInt8 × Nat)} {S : List Bu}
theorem Tx.ne (h : Tx w t bm tot mb my wt M S) : bm ≠ t := fun e => by
  obtain ⟨es, hm, _⟩ := h.map
  exact map_is hm (by rw [e]; exact h.obj)
/-- The table's own blocks are written: its cells, its map. -/
theorem Tx.turn (h : Tx w t bm tot mb my wt M S) {tot' : Int} {M' : List (List UInt8 × Nat)} (k : Kept (fun k => k = t ∨ k = bm) w w') (ho : w'.heap[t]? = some (.cells #[.map (some bm), .int .i64 tot', .int .i64 mb, .int .i64 my, .int .i64 wt] 71 (0, 0)))
    (hm : ∃ es, w'.ownsMap Try.prog 9 ptrElem bm M'.length (.map es) ∧ es.Perm (M'.map enM)) (hn : M'.Pairwise (fun a b => a.1 ≠ b.1)) : Tx w' t bm tot' mb my wt M' S := by
  have ha : AwayT w (fun k => k = t ∨ k = bm) TT := fun k hk cs ty fr hg => by
    rcases hk with rfl | rfl
    · have := h.obj.symm.trans hg
      simp only [Option.some.injEq, Obj.cells.injEq] at this
      exact this.2.1.symm
    · obtain ⟨es, hm', _⟩ := h.map
      exact absurd hg (map_is hm')
  refine ⟨ho, hm, hn, h.nd, h.len, fun s hs => (h.bx s hs).keptA k ha tt_no.1 tt_no.2.1 tt_no.2.2.1 (fun e => ?_), h.ap⟩
  exact tt_no.2.2.2 (ha s.g e _ _ _ (h.bx s hs).obj)
theorem Tx.sub (h : Tx w t bm tot mb my wt M S) {S' : List Bu} (hs : S'.Sublist S) : Tx w t bm tot mb my wt M S' :=
  ⟨h.obj, h.map, h.ndm, h.nd.sublist hs, fun s hm => h.len s (hs.subset hm), fun s hm => h.bx s (hs.subset hm), h.ap.sublist hs⟩
end
end Go.Proofs.Ytghbliabmecbcaa

/-
  isMade, within, New, Bytes, Bufs, tell of layer 16's code. Conditions are each theorem's own.
-/
namespace Go.Proofs.Ytghbliabmecbcaa
open Go.RowKit Go.Shelf Go.Maps

theorem eqin_map {P : Program} (w : World) (d : Nat) (t k e : TypeId) (r : Option Nat) (h : P.underlying t = some (.map k e)) : (Op.equalIn (d + 1) t (.map r) (.map none)).run P w = .ok r.isNone w := by
  cases r <;> simp [Op.equalIn, run_underlying h]
theorem neq_mapP {P : Program} (w : World) (t k e : TypeId) (r : Option Nat) (h : P.underlying t = some (.map k e)) : (binOp .neq t (.map r) (.map none)).run P w = .ok (.bool (!r.isNone)) w := by
  simp only [binOp]
  simp [Op.equal, Op.maxDepth, eqin_map w 9999 t k e r h]
theorem neq_map (w : World) (r : Option Nat) : (binOp .neq 69 (.map r) (.map none)).run Try.prog w = .ok (.bool (!r.isNone)) w := neq_mapP w _ _ _ r Try.underlying69
theorem results_tmp4 {fn : Func} {t u v z : Tmp} (h : fn.results = #[.tmp t, .tmp u, .tmp v, .tmp z]) (tmps : Array Value) (P : Program) (w : World) :
    (results fn tmps).run P w = .ok (.tuple #[tmps.getD t undef, tmps.getD u undef, tmps.getD v undef, tmps.getD z undef]) w := by
  simp [results, h]
theorem jmade_nil (w : World) : Calls Try.prog 36 #[.pointer none] w fun e w' => e = .returned (.bool false) ∧ w = w' := by
  go_enter Try.func36, Try.ntmps36
  go_wp2
  go_ret
  exact ⟨rfl, rfl⟩
set_option maxRecDepth 100000 in
theorem jmade_zero (g : Nat) (w : World) (h : w.cell? ⟨g, 0, none⟩ = some (.map none)) : Calls Try.prog 36 #[.pointer (some ⟨g, 0, none⟩)] w fun e w' => e = .returned (.bool false) ∧ w = w' := by
  have qT := neq_map
  go_enter Try.func36, Try.ntmps36
  go_wp2
  go_ret
  exact ⟨rfl, rfl⟩
set_option maxRecDepth 100000 in
theorem jmade (g bm : Nat) (w : World) (h : w.cell? ⟨g, 0, none⟩ = some (.map (some bm))) : Calls Try.prog 36 #[.pointer (some ⟨g, 0, none⟩)] w fun e w' => e = .returned (.bool true) ∧ w = w' := by
  have qT := neq_map
  go_enter Try.func36, Try.ntmps36
  go_wp2
  go_ret
  exact ⟨rfl, rfl⟩
theorem jwithin (n lo hi : Int) (w : World) : Calls Try.prog 35 #[.int .i64 n, .int .i64 lo, .int .i64 hi] w fun e w' => e = .returned (.bool (decide (lo ≤ n ∧ n ≤ hi))) ∧ w = w' := by
  by_cases h1 : lo ≤ n
  · have d1 : decide (lo ≤ n) = true := decide_eq_true h1
    have e : decide (lo ≤ n ∧ n ≤ hi) = decide (n ≤ hi) := by simp [h1]
    rw [e]
    clear e
    go_enter Try.func35, Try.ntmps35
    go_wp2
    go_ret
    exact ⟨rfl, rfl⟩
  · have d1 : decide (lo ≤ n) = false := decide_eq_false h1
    have e : decide (lo ≤ n ∧ n ≤ hi) = false := by simp [h1]
    rw [e]
    clear e
    go_enter Try.func35, Try.ntmps35
    go_wp2
    go_ret
    exact ⟨rfl, rfl⟩
/-- What New refuses. -/
def newOk (b m t : Int) : Prop := (0 ≤ b ∧ b ≤ 1073741824) ∧ (0 ≤ m ∧ m ≤ 1073741824) ∧ (1 ≤ t ∧ t ≤ 1099511627776)
instance (b m t : Int) : Decidable (newOk b m t) := by unfold newOk; exact inferInstance
theorem jnew_ok (b m t : Int) (w : World) (h : newOk b m t) : Calls Try.prog 9 #[.int .i64 b, .int .i64 m, .int .i64 t] w fun e w' =>
    e = .returned (.tuple #[.pointer (some ⟨w.heap.size + 1, 0, none⟩), .int .i64 0]) ∧ Tx w' (w.heap.size + 1) w.heap.size 0 b m t [] [] ∧ Below w.heap.size w w' := by
  obtain ⟨h1, h2, h3⟩ := h
  have d1 := decide_eq_true h1
  have d2 := decide_eq_true h2
  have d3 := decide_eq_true h3
  have D1 := Lib.hid d1; have D2 := Lib.hid d2; have D3 := Lib.hid d3
  clear h1 h2 h3 d1 d2 d3
  have hmm := @run_makeMap Try.prog
  go_enter Try.func9, Try.ntmps9
  go_wp2_with (go_at_call 35; refine (jwithin _ _ _ _).mono ?_; rintro e w1 ⟨rfl, rfl⟩; first | rw [D1.out] | rw [D2.out] | rw [D3.out])
  refine bodyPost_ret (results_tmp2 rfl _ _ _) rfl ⟨rfl, ⟨?_, ⟨[], ?_, ?_⟩, .nil, .nil, (fun s h => by cases h), (fun s h => by cases h), .nil⟩, ((Below.refl _ w).alloc (Nat.le_refl _) _).alloc (by simp) _⟩
  · have := World.alloc_heap_new (w.alloc (.map #[] 0)) (.cells #[.map (some w.heap.size), .int .i64 0, .int .i64 b, .int .i64 m, .int .i64 t] 71)
    simpa using this
  · exact (World.ownsMap_made w Try.prog 9 ptrElem).alloc _
  · exact .nil
theorem jnew_bad (b m t : Int) (w : World) (h : ¬ newOk b m t) : Calls Try.prog 9 #[.int .i64 b, .int .i64 m, .int .i64 t] w fun e w' => e = .returned (.tuple #[.pointer none, .int .i64 1]) ∧ w = w' := by
  unfold newOk at h
  by_cases h1 : 0 ≤ b ∧ b ≤ 1073741824
  · have D1 := Lib.hid (decide_eq_true h1)
    by_cases h2 : 0 ≤ m ∧ m ≤ 1073741824
    · have D2 := Lib.hid (decide_eq_true h2)
      have h3 : ¬ (1 ≤ t ∧ t ≤ 1099511627776) := fun h3 => h ⟨h1, h2, h3⟩
      have D3 := Lib.hid (decide_eq_false h3)
      clear h h1 h2 h3
      go_enter Try.func9, Try.ntmps9
      go_wp2_with (go_at_call 35; refine (jwithin _ _ _ _).mono ?_; rintro e w1 ⟨rfl, rfl⟩; first | rw [D1.out] | rw [D2.out] | rw [D3.out])
      exact bodyPost_ret (results_tmp2 rfl _ _ _) rfl ⟨rfl, rfl⟩
    · have D2 := Lib.hid (decide_eq_false h2)
      clear h h1 h2
      go_enter Try.func9, Try.ntmps9
      go_wp2_with (go_at_call 35; refine (jwithin _ _ _ _).mono ?_; rintro e w1 ⟨rfl, rfl⟩; first | rw [D1.out] | rw [D2.out])
      exact bodyPost_ret (results_tmp2 rfl _ _ _) rfl ⟨rfl, rfl⟩
  · have D1 := Lib.hid (decide_eq_false h1)
    clear h h1
    go_enter Try.func9, Try.ntmps9
    go_wp2_with (go_at_call 35; refine (jwithin _ _ _ _).mono ?_; rintro e w1 ⟨rfl, rfl⟩; rw [D1.out])
    exact bodyPost_ret (results_tmp2 rfl _ _ _) rfl ⟨rfl, rfl⟩
section
variable {w : World} {t bm : Nat} {tot mb my wt : Int} {M : List (List UInt8 × Nat)} {S : List Bu}
theorem Tx.c0 (h : Tx w t bm tot mb my wt M S) : w.cell? ⟨t, 0, none⟩ = some (.map (some bm)) := cells_at h.obj rfl
theorem Tx.c1 (h : Tx w t bm tot mb my wt M S) : w.cell? ⟨t, 1, none⟩ = some (.int .i64 tot) := cells_at h.obj rfl
theorem Tx.c2 (h : Tx w t bm tot mb my wt M S) : w.cell? ⟨t, 2, none⟩ = some (.int .i64 mb) := cells_at h.obj rfl
theorem Tx.c3 (h : Tx w t bm tot mb my wt M S) : w.cell? ⟨t, 3, none⟩ = some (.int .i64 my) := cells_at h.obj rfl
theorem Tx.c4 (h : Tx w t bm tot mb my wt M S) : w.cell? ⟨t, 4, none⟩ = some (.int .i64 wt) := cells_at h.obj rfl
theorem jbytes (h : Tx w t bm tot mb my wt M S) : Calls Try.prog 19 #[.pointer (some ⟨t, 0, none⟩)] w fun e w' => e = .returned (.int .i64 tot) ∧ w = w' := by
  have k0 := h.c0
  have k1 := h.c1
  clear h
  go_enter Try.func19, Try.ntmps19
  go_wp2_with (go_at_call 36; refine (jmade t bm _ k0).mono ?_; rintro e w1 ⟨rfl, rfl⟩)
  go_ret
  exact ⟨rfl, rfl⟩
theorem jbytes_nil (w : World) : Calls Try.prog 19 #[.pointer none] w fun e w' => e = .returned (.int .i64 0) ∧ w = w' := by
  go_enter Try.func19, Try.ntmps19
  go_wp2_with (go_at_call 36; refine (jmade_nil _).mono ?_; rintro e w1 ⟨rfl, rfl⟩)
  go_ret
  exact ⟨rfl, rfl⟩
theorem jbufs_zero (g : Nat) (w : World) (h : w.cell? ⟨g, 0, none⟩ = some (.map none)) : Calls Try.prog 21 #[.pointer (some ⟨g, 0, none⟩)] w fun e w' => e = .returned (.int .i64 0) ∧ w = w' := by
  go_enter Try.func21, Try.ntmps21
  go_wp2_with (go_at_call 36; refine (jmade_zero g _ h).mono ?_; rintro e w1 ⟨rfl, rfl⟩)
  go_ret
  exact ⟨rfl, rfl⟩
theorem jbufs (h : Tx w t bm tot mb my wt M S) : Calls Try.prog 21 #[.pointer (some ⟨t, 0, none⟩)] w fun e w' => e = .returned (.int .i64 (M.length : Int)) ∧ w = w' := by
  have k0 := h.c0
  obtain ⟨es, hown, hp⟩ := h.map
  have hz := Lib.hid (en_size hp)
  clear h hp
  go_enter Try.func21, Try.ntmps21
  go_wp2_with (first
    | (go_at_call 36; refine (jmade t bm _ k0).mono ?_; rintro e w1 ⟨rfl, rfl⟩)
    | (at_len; refine wpList_len_own _ rfl _ 69 rfl 9 72 Try.underlying69 _ bm M.length _ rfl hown ?_; rw [hz.out]))
  go_ret
  exact ⟨rfl, rfl⟩
theorem jexp_nil (now : Int) (w : World) : Calls Try.prog 14 #[.pointer none, .int .i64 now] w fun e w' => e = .returned (.slice none 0 0) ∧ w = w' := by
  go_enter Try.func14, Try.ntmps14
  go_wp2_with (go_at_call 36; refine (jmade_nil _).mono ?_; rintro e w1 ⟨rfl, rfl⟩)
  go_ret
  exact ⟨rfl, rfl⟩
theorem jkeys_zero (g : Nat) (w : World) (h : w.cell? ⟨g, 0, none⟩ = some (.map none)) : Calls Try.prog 22 #[.pointer (some ⟨g, 0, none⟩)] w fun e w' => e = .returned (.slice none 0 0) ∧ w = w' := by
  go_enter Try.func22, Try.ntmps22
  go_wp2_with (go_at_call 36; refine (jmade_zero g _ h).mono ?_; rintro e w1 ⟨rfl, rfl⟩)
  go_ret
  exact ⟨rfl, rfl⟩
theorem jadd_nil (k h : ByteArray) (off now : Int) (more : Bool) (v : Value) (w : World) : Calls Try.prog 16 #[.pointer none, .string k, .int .i64 off, .bool more, v, .string h, .int .i64 now] w fun e w' =>
    e = .returned (.tuple #[.string ByteArray.empty, .slice none 0 0, .bool false, .int .i64 2]) ∧ w = w' := by
  go_enter Try.func16, Try.ntmps16
  go_wp2_with (go_at_call 36; refine (jmade_nil _).mono ?_; rintro e w1 ⟨rfl, rfl⟩)
  exact bodyPost_ret (results_tmp4 rfl _ _ _) rfl ⟨rfl, rfl⟩
theorem jadd_zero (g : Nat) (k h : ByteArray) (off now : Int) (more : Bool) (v : Value) (w : World) (h0 : w.cell? ⟨g, 0, none⟩ = some (.map none)) : Calls Try.prog 16 #[.pointer (some ⟨g, 0, none⟩), .string k, .int .i64 off, .bool more, v, .string h, .int .i64 now] w fun e w' =>
    e = .returned (.tuple #[.string ByteArray.empty, .slice none 0 0, .bool false, .int .i64 2]) ∧ w = w' := by
  go_enter Try.func16, Try.ntmps16
  go_wp2_with (go_at_call 36; refine (jmade_zero g _ h0).mono ?_; rintro e w1 ⟨rfl, rfl⟩)
  exact bodyPost_ret (results_tmp4 rfl _ _ _) rfl ⟨rfl, rfl⟩
end
end Go.Proofs.Ytghbliabmecbcaa
