/-
  Contracts and lemmas on which the proofs of this seat stand (several texts in one). Conditions are each theorem's own.
-/
import Derived.Test.YtpoigngpdcmipaaGreatMb16
import Derived.Test.YtpoigngpdcmipaaGreatMb8
import Derived.Lib.SlBytesConst
import Derived.Test.YtpoigngpdcmipaaGreatMb2
import Derived.Deep.Slices
import Derived.Test.YtpoigngpdcmipaaGreatMb14
import Derived.Test.YtpoigngpdcmipaaGreatMb7
import Derived.Maps.OwnSet
import Derived.Maps.OwnOps
import Derived.Maps.Ext
import Derived.Test.YtpoigngpdcmipaaGreatMb13
namespace Go.Proofs.YtpoigngpdcmipaaGreat
open Go.RowKit Go.Shelf
attribute [local go_sem] Oper.semAt_some
def SeqG (L : List Pc) (m B : Nat) (w : World) : Prop := SeqTold m Tryz.prog 189 #[.pointer (some ⟨B, 0, none⟩)] encG (GG L) (KeepS 3 3 0) (fun xs => xs = gapsS 0 L) (fun pre => ∃ more, gapsS 0 L = pre ++ more) w
theorem hcgapsf (A : Option Addr) (n c : Nat) (L : List XP) (w : World) (hn : n = L.length) (hn1 : n ≤ 100000) (ho : w.ownsRow 0 225 3 (.slice A n c) n (L.flatMap clP)) (hris : Ris (piE L)) :
    Calls Tryz.prog 180 #[.slice A n c] w fun e w' => e = .returned (.func (.func 189) #[] #[.pointer (some ⟨w.heap.size, 0, none⟩)]) ∧ Below w.heap.size w w' ∧ ∀ m, 1 ≤ m → SeqG (piE L) m w.heap.size w' := by
  have HO := Lib.hid ho
  have HR := Lib.hid hris
  have HN := Lib.hid hn
  clear ho hris hn
  go_enter Tryz.func180, Tryz.ntmps180
  go_wp2
  go_ret
  have hb := (Below.refl w.heap.size w).alloc (Nat.le_refl _) (.cells #[.slice A n c] 177)
  refine ⟨rfl, hb, fun m hm l J Jx W hW hJ _ hY hJ0 => ?_⟩
  have hbx : Boxed (w.alloc (.cells #[.slice A n c] 177)) w.heap.size 177 (.slice A n c) := World.alloc_heap_new w _
  refine (gaps1_in m hm l w.heap.size n c A L J Jx W hJ hY (Boxed.below hbx hW (by simp)) HN.out hn1 (own_below (own_below HO.out hb) hW) HR.out hJ0).mono ?_
  rintro e Y ⟨hv, hj | hj⟩
  · exact ⟨hv, .inl ⟨_, rfl, hj⟩⟩
  · exact ⟨hv, .inr hj⟩
theorem loadv_sl {w : World} {g : Nat} {A : Option Addr} {n c : Nat} (h : Boxed w g 22 (.slice A n c)) : (loadVar 22 ⟨g, 0, none⟩).run Tryz.prog w = .ok (.slice A n c) w := by
  have hagg : (isAgg 22).run Tryz.prog w = .ok false w := by
    unfold isAgg
    rw [Sem.run_bind, run_underlying Tryz.underlying22 w]; rfl
  have hc := h.cell
  simp [loadVar, Sem.run_bind, hagg, hc]
theorem cells2G {fn : Func} {p q : Tmp} {tmps : Array Value} {w : World} {g : Nat} {A : Option Addr} {n c : Nat} {z : Value} (h : fn.results = #[.cell p 22, .cell q 4])
    (hp : tmps.getD p undef = .pointer (some ⟨g, 0, none⟩)) (hq : tmps.getD q undef = .pointer (some ⟨g + 1, 0, none⟩))
    (h0 : Boxed w g 22 (.slice A n c)) (h1 : Boxed w (g + 1) 4 z) :
    (results fn tmps).run Tryz.prog w = .ok (.tuple #[.slice A n c, z]) w := by
  have hp' : tmps[p]?.getD undef = .pointer (some ⟨g, 0, none⟩) := by simpa using hp
  have hq' : tmps[q]?.getD undef = .pointer (some ⟨g + 1, 0, none⟩) := by simpa using hq
  simp [results, h, hp', hq', asAddr, loadv_sl h0, loadv_bool h1]
theorem made_nil {w w' : World} (h : Below w.heap.size w w') : Made w w' (.slice none 0 0) [] := Made.of_own (World.ownsRow_nil _ _ _ _) h
structure Bx2 (W : World) (u : Nat) (A : Option Addr) (n c : Nat) (z : Bool) : Prop where
  one : Boxed W u 22 (.slice A n c)
  two : Boxed W (u + 1) 4 (.bool z)
theorem Bx2.first (w : World) : Bx2 ((w.alloc (.cells #[.slice none 0 0] 22)).alloc (.cells #[.bool false] 4)) w.heap.size none 0 0 false := by
  have s1 : (w.alloc (.cells #[.slice none 0 0] 22)).heap.size = w.heap.size + 1 := by simp
  refine ⟨(Boxed.new w 22 (.slice none 0 0)).alloc _, ?_⟩
  have := Boxed.new (w.alloc (.cells #[.slice none 0 0] 22)) 4 (.bool false)
  rwa [s1] at this
theorem Bx2.below {W V : World} {u n c B : Nat} {A : Option Addr} {z : Bool} (h : Bx2 W u A n c z) (hb : Below B W V) (hn : u + 1 < B) : Bx2 V u A n c z := ⟨Boxed.below h.one hb (by omega), Boxed.below h.two hb hn⟩
theorem Bx2.kept {W V : World} {u n c B : Nat} {A : Option Addr} {z : Bool} {r : Option Nat} (h : Bx2 W u A n c z) (hg : W.grownBy V r) (hr : ∀ k, r = some k → B ≤ k ∧ ∃ o : Obj, W.heap[k]? = some o ∧ o.isCells = false) : Bx2 V u A n c z :=
  ⟨box_keep h.one hg hr, box_keep h.two hg hr⟩
theorem Bx2.set {W : World} {u n c n' c' : Nat} {A A' : Option Addr} {z : Bool} (h : Bx2 W u A n c z) (z' : Bool) : Bx2 ((W.setCell ⟨u, 0, none⟩ (.slice A' n' c')).setCell ⟨u + 1, 0, none⟩ (.bool z')) u A' n' c' z' :=
  ⟨(Boxed.set _ h.one).other (by omega) _, Boxed.set _ (h.two.other (by omega) _)⟩
set_option maxRecDepth 100000 in
theorem hcdone_open (g : Nat) (A : Option Addr) (c : Nat) (L : List XP) (w : World) (h : Hx w g A c L) (he : endedP (piE L) = false) :
    Calls Tryz.prog 156 #[.pointer (some ⟨g, 0, none⟩)] w fun e w' => e = .returned (.tuple #[.slice none 0 0, .bool false]) ∧ Below w.heap.size w w' := by
  have hb := ((Below.refl w.heap.size w).alloc (Nat.le_refl _) (.cells #[.slice none 0 0] 22)).alloc (by simp) (.cells #[.bool false] 4)
  have hx := Bx2.first w
  have hV := h.view.below hb
  have hm := hV.made
  have hen := hV.ended
  rw [he] at hen
  clear h hV he
  go_enter Tryz.func156, Tryz.ntmps156
  go_wp2_with (go_at_call 128; refine (hcmade1 g _ hm).mono ?_; rintro e w1 ⟨rfl, rfl⟩)
  exact bodyPost_ret (cells2G rfl rfl rfl hx.one hx.two) rfl ⟨rfl, hb⟩
theorem own_putD {w : World} {b e s n D : Nat} {v : Value} {xs : List Value} (h : w.ownsRow b e s v n xs) (hD : w.heap[D]? = some (.deferred (some []))) (o : Obj) : (w.putObj D o).ownsRow b e s v n xs := by
  refine h.kept (grownBy_putObj' w D o) ?_
  rcases h.2 with ⟨rfl, _⟩ | ⟨g, cap, cur, rfl, _, hg, _⟩
  · exact .inl rfl
  · refine .inr fun e1 => ?_
    have e2 : g = D := by simpa [Value.ownBlock] using e1
    rw [e2, hD] at hg
    cases hg
theorem own_baseL {w : World} {b b' e s n : Nat} {v : Value} {xs : List Value} (h : w.ownsRow b e s v n xs) (hb : b' ≤ b) : w.ownsRow b' e s v n xs := by
  refine ⟨h.1, ?_⟩
  rcases h.2 with hn | ⟨g, cap, cur, hv, hb', rest⟩
  · exact .inl hn
  · exact .inr ⟨g, cap, cur, hv, Nat.le_trans hb hb', rest⟩
set_option maxRecDepth 100000 in
set_option maxHeartbeats 4000000 in
theorem hcdone_end (g : Nat) (A : Option Addr) (c : Nat) (L : List XP) (w : World) (h : Hx w g A c L) (he : endedP (piE L) = true) :
    Calls Tryz.prog 156 #[.pointer (some ⟨g, 0, none⟩)] w fun e w' => ∃ v, e = .returned (.tuple #[v, .bool (decide (gapsS 0 (piE L) = []))]) ∧ Made w w' v (if gapsS 0 (piE L) = [] then catP (piE L) else []) := by
  generalize hCC : (if gapsS 0 (piE L) = [] then catP (piE L) else []) = CC
  generalize hBB : decide (gapsS 0 (piE L) = []) = BB
  have HCC := Lib.hid hCC
  have HBB := Lib.hid hBB
  clear hCC hBB
  obtain ⟨W, hW⟩ : ∃ W, W = (w.alloc (.cells #[.slice none 0 0] 22)).alloc (.cells #[.bool false] 4) := ⟨_, rfl⟩
  have hb : Below w.heap.size w W := by rw [hW]; exact ((Below.refl w.heap.size w).alloc (Nat.le_refl _) (.cells #[.slice none 0 0] 22)).alloc (by simp) (.cells #[.bool false] 4)
  have hx : Bx2 W w.heap.size none 0 0 false := by rw [hW]; exact Bx2.first w
  have hzW : W.heap.size = w.heap.size + 2 := by rw [hW]; simp
  have HX := Lib.hid (h.below hb)
  have hm := HX.out.view.made
  have hen := HX.out.view.ended
  rw [he] at hen
  have hps := HX.out.view.parts
  have hfa := HX.out.view.far
  obtain ⟨n, hn⟩ : ∃ n, n = L.length := ⟨_, rfl⟩
  have HN := Lib.hid hn
  have hn1 : n ≤ 100000 := by rw [hn]; exact h.n
  rw [← hn] at hps
  have HO : Hid (W.ownsRow 0 225 3 (.slice A n c) n (L.flatMap clP)) := Lib.hid (by rw [hn]; exact HX.out.own)
  have HZ := Lib.hid hzW
  have HX0 := Lib.hid h
  clear h he hn hzW
  refine (callsIn_wide (n := 4)).1 ?_
  refine callsIn_of_wp_marks Tryz.func156 rfl trivial ?_ rfl
  simp only [Tryz.ntmps156, List.size_toArray, List.length_cons, List.length_nil, Nat.reduceAdd, Nat.reduceSub, Array.replicate_succ, Array.replicate_zero, List.push_toArray, List.append_toArray, List.nil_append, List.cons_append]
  subst hW
  gi_wp2_with (first
    | (refine ⟨trivial, ?_⟩; gi_at_call 180; refine (callsIn_wide.2 (hcgapsf A n c L _ HN.out hn1 HO.out HX.out.ris)).mono ?_; rintro e w1 ⟨rfl, x1, hseq⟩)
    | (refine ⟨trivial, ?_⟩; gi_at_call 128; refine (callsIn_wide.2 (hcmade1 g _ hm)).mono ?_; rintro e w1 ⟨rfl, rfl⟩))
  rw [HZ.out] at hseq
  generalize (w.alloc (.cells #[.slice none 0 0] 22)).alloc (.cells #[.bool false] 4) = W at *
  have hz1 := x1.size
  have hx1 := hx.below x1 (by have := HZ.out; omega)
  have hB1 : Below w.heap.size w w1 := hb.trans (x1.mono hb.size)
  have hz2 : w.heap.size + 1 < w1.heap.size := by have := HZ.out; omega
  clear hx hm hen hps hfa hb HX HO
  refine range_told (by omega) (gf := 189) (lb := #[.pointer (some ⟨w.heap.size + 1 + 1, 0, none⟩)]) rfl (enters_of Tryz.func189 (by kernel_rfl) rfl)
    (hseq (4 - 1) (by omega)) KeepS.trans (fun V l r r' hl hr => KeepS.loop hr) (Below.refl _ _) (fun _ => rfl)
    (fun pre x V l r r' h _ hl => h)
    (fun pre X => pre = [] ∧ Bx2 X w.heap.size none 0 0 false ∧ Below w.heap.size w X)
    (fun cd pre X => cd = .ret ∧ pre ≠ [] ∧ Bx2 X w.heap.size none 0 0 false ∧ Below w.heap.size w X)
    (fun pre X Y r hs hg hr => ⟨hs.1, hs.2.1.kept hg hr, below_keep hs.2.2 hg hr (by omega) (Nat.le_refl _)⟩)
    (fun cd pre X Y r hs hg hr => ⟨hs.1, hs.2.1, hs.2.2.1.kept hg hr, below_keep hs.2.2.2 hg hr (by omega) (Nat.le_refl _)⟩)
    ⟨rfl, hx1, hB1⟩
    (fun x => { tmps := #[.pointer (some ⟨g, 0, none⟩), undef, .pointer (some ⟨w.heap.size, 0, none⟩), .pointer (some ⟨w.heap.size + 1, 0, none⟩), undef, undef, undef, .pointer (some ⟨g, 0, none⟩), .bool true, .bool false, .bool false, .pointer (some ⟨g, 0, none⟩), .pointer (some ⟨g, 0, none⟩), .pointer (some ⟨g, 4, none⟩), .bool true, .bool false, .bool false, .pointer (some ⟨g, 0, none⟩), .pointer (some ⟨g, 0, none⟩), .pointer (some ⟨g, 1, none⟩), .slice A n c, .func (.func 189) #[] #[.pointer (some ⟨w.heap.size + 1 + 1, 0, none⟩)], .int .i64 x.1, .int .i64 x.2, undef, undef, undef, undef, undef, undef, undef, undef, undef, undef, undef, undef, undef, undef, undef, undef, undef, undef, undef, undef], defers := [] }) ?assign ?body ?done ?stop
  case assign =>
    intro l x X K hK
    dsimp only [encG]
    gi_wp2
    exact hK
  case body =>
    rintro l pre x X ⟨rfl, hX2, hBX⟩ _
    have c1 := Boxed.cell hX2.one; have f1 := Boxed.frozen hX2.one
    have t2 := Boxed.other hX2.two (B' := w.heap.size) (by omega) (.slice none 0 0)
    have c2 := Boxed.cell t2; have f2 := Boxed.frozen t2
    gi_wp2
    exact ⟨((KeepsOthers.setCell _ _ _).from _).trans ((KeepsOthers.setCell _ _ _).from _), rfl, by simp, hX2.set false, (hBX.setCell (p := ⟨w.heap.size, 0, none⟩) (by simp) _).setCell (p := ⟨w.heap.size + 1, 0, none⟩) (by simp) _⟩
  case stop =>
    rintro D cd pre X hD ⟨more, hmore⟩ ⟨rfl, hpre, h3X, hBX⟩ hK
    have hne : ¬ gapsS 0 (piE L) = [] := fun e => by rw [e] at hmore; exact hpre (List.append_eq_nil_iff.1 hmore.symm).1
    have HNE := Lib.hid hne
    clear hne hmore hpre
    gi_wp2
    have hm1 : Marks w1.heap.size X.heap.size [{ target := .collected D, args := #[] }] X := (Marks.push (hi := D) (ds := []) trivial (Nat.le_refl _) hD hK).more (heap_lt hK)
    refine leaves_marks w1.heap.size (fun Y => Bx2 Y w.heap.size none 0 0 false ∧ Below w.heap.size w Y) (fun Y D hY h1 h2 => ⟨hY.1.kept (B := w1.heap.size) (grownBy_putObj' Y D _) (fun k e => by cases e; exact ⟨h1, _, h2, rfl⟩), hY.2.trans (belowK_b (w := w) (Nat.le_refl _) Y D _ _ (by omega) h2 rfl rfl)⟩)
      (fun Y hY => ⟨_, cells2G rfl rfl rfl hY.1.one hY.1.two, ?_⟩) _ _ X hm1 ⟨h3X, hBX⟩
    rw [← HCC.out, if_neg HNE.out, ← HBB.out, decide_eq_false HNE.out]
    exact ⟨_, rfl, made_nil hY.2⟩
  case done =>
    rintro D xs X hD hS ⟨hno, h3X, hBX⟩ hK
    have hnil : gapsS 0 (piE L) = [] := by rw [← hS, hno]
    have HNIL := Lib.hid hnil
    clear hnil hS hno
    have hH := HX0.out.below hBX
    have hps := hH.view.parts
    have hfa := hH.view.far
    obtain ⟨m, hm⟩ : ∃ m : Nat, farP (piE L) = (m : Int) := ⟨(farP (piE L)).toNat, by have := far_nn (piE L); omega⟩
    have hmb : m ≤ 65535 := by
      have : farP (piE L) ≤ 65535 := farP_le _ (by omega) (fun x hx => (HX0.out.ris.ok x hx).2)
      omega
    rw [hm] at hfa
    rw [← HN.out] at hps
    have HCB : Hid (∀ k, (catP ((piE L).take k)).length ≤ 65535) := Lib.hid (fun k => by
      have h1 := (bytes_gaps HX0.out.ris (up0 HX0.out.ris)).1
      rw [last0 HX0.out.ris] at h1
      have h2 := catP_length (piE L)
      have h3 : catP (piE L) = catP ((piE L).take k) ++ catP ((piE L).drop k) := by rw [catP, catP, catP, ← List.flatMap_append, List.take_append_drop]
      have h4 : (catP ((piE L).take k)).length ≤ (catP (piE L)).length := by rw [h3, List.length_append]; omega
      omega)
    have hm1 : Marks w1.heap.size X.heap.size [{ target := .collected D, args := #[] }] X := (Marks.push (hi := D) (ds := []) trivial (Nat.le_refl _) hD hK).more (heap_lt hK)
    clear hm
    gi_upto_region 5 with fail
    refine wpIn_wide.2 ?_
    obtain ⟨i0, hi, hz0, hz1', hz2'⟩ := info_parts info_u8
    have hmk : (Instr.makeSlice 22 (.int .i64 0) (.int .i64 (m : Int))).run Tryz.prog X = .ok (.slice (some ⟨X.heap.size, 0, none⟩) 0 m) (X.alloc (.cells (Go.madeCells (Value.int .u8 0).cells (m * 1)) 5)) := by
      have := run_makeSlice (P := Tryz.prog) X 22 5 i0 (.int .u8 0) Tryz.underlying22 hi hz0 .i64 .i64 0 (m : Int) (by omega) (by omega) (by rw [hz1']; simp; omega) (by rw [hz2']; omega) (by omega)
      rw [hz1'] at this
      simpa using this
    have hmsz : (Go.madeCells (Value.int .u8 0).cells (m * 1)).size = m * 1 := by simp [Go.madeCells]
    have own0 : (X.alloc (.cells (Go.madeCells (Value.int .u8 0).cells (m * 1)) 5)).ownsRow X.heap.size 5 1 (.slice (some ⟨X.heap.size, 0, none⟩) 0 m) 0 [] := World.ownsRow_made X _ m (Nat.le_refl _) (by unfold maxLen; omega) hmsz
    have bX0 : Below X.heap.size X (X.alloc (.cells (Go.madeCells (Value.int .u8 0).cells (m * 1)) 5)) := (Below.refl _ X).alloc (Nat.le_refl _) _
    clear hi hz0 hz1' hz2' hmsz
    generalize Go.madeCells (Value.int .u8 0).cells (m * 1) = MC at *
    go_wp2
    refine wpIn_wide.2 ?_
    have hgX : g < X.heap.size := heap_lt hH.obj
    have hps' := (bX0.cell (p := ⟨g, 1, none⟩) hgX).trans hps
    clear hps hfa hmk
    generalize X.alloc (.cells MC 5) = X0 at *
    go_wp2
    go_loopw [4, 34] (fun s4 i wr => ∃ (k : Nat) (P : Option Addr) (p : Nat) (C : List UInt8), k ≤ n ∧ i = .int .i64 (k : Int) ∧ s4 = .slice P C.length p ∧ C.length ≤ 65535 ∧ Hid (C = catP ((piE L).take k)) ∧ wr.ownsRow X.heap.size 5 1 (.slice P C.length p) C.length (row C) ∧ Below X.heap.size X wr)
      (fun _ i _ => n - (intOf i).toNat)
    case atStart => exact ⟨0, _, m, [], Nat.zero_le _, rfl, rfl, Nat.zero_le _, Lib.hid rfl, own0, bX0⟩
    case round =>
      obtain ⟨k, P, p, C, hk, rfl, rfl, hCl, HC, ownC, hbel⟩ := hrel
      by_cases hlt : k < n
      · obtain ⟨x, hx⟩ : ∃ x, L[k]? = some x := ⟨_, List.getElem?_eq_getElem (by rw [← HN.out]; exact hlt)⟩
        have hHr := hH.below hbel
        have hArg := Lib.hid (hHr.view.arg x (List.mem_of_getElem? hx))
        obtain ⟨b1, o1, e0, hb1, hrow⟩ := row_of hHr.view.rd hx
        subst e0
        have HC2 : Hid (C ++ x.p.b = catP ((piE L).take (k + 1))) := Lib.hid (by
          have hxp : (piE L)[k]? = some x.p := by rw [piE, List.getElem?_map, hx]; rfl
          have hkl := (List.getElem?_eq_some_iff.1 hxp).1
          rw [List.getElem?_eq_getElem hkl] at hxp
          rw [HC.out, List.take_succ_eq_append_getElem hkl, Option.some.inj hxp, catP, catP, List.flatMap_append]
          simp)
        have hcl2 : C.length + x.p.b.length ≤ 65535 := by
          have := HCB.out (k + 1)
          rw [← HC2.out, List.length_append] at this
          exact this
        obtain ⟨V, hV⟩ : ∃ V, V = wr.alloc (.cells (clP x).toArray 225) := ⟨_, rfl⟩
        have HV := Lib.hid hV
        have bV : Below wr.heap.size wr V := by rw [hV]; exact (Below.refl _ wr).alloc (Nat.le_refl _) _
        have hbV : V.heap[wr.heap.size]? = some (.cells (clP x).toArray 225 (0, 0)) := by rw [hV]; exact World.alloc_heap_new wr _
        have kx2 : V.cell? ⟨wr.heap.size, 2, none⟩ = some (.slice x.A x.p.b.length x.c) := cells_at (i := 2) hbV rfl
        have ownV := own_below ownC bV
        have hzV := bV.size
        have hzr := hbel.size
        clear hV hx hHr
        go_wp2_with (first
          | (at_builtin; refine append_rd rfl _ _ rfl X.heap.size (.slice P C.length p) C.length (row C) rfl ownV wr.heap.size x.A x.c x.p.b rfl hArg.out.none_ (hArg.out.rd.below bV) (by omega) (by omega) ?_; intro v7 w7 own7 grow7; have b7 := (hbel.trans (bV.mono hzr)).grown grow7 (by omega) (fun k hk => own_block_ge ownV k hk); obtain ⟨P7, p7, rfl, o7⟩ := own_made (bs := C ++ x.p.b) own7 (List.length_append).symm (row_append _ _).symm; have O7 := Lib.hid o7; clear own7 o7)
          | ((with_reducible show wpList _ _ _ (Oper.mk _ (Op.load 225 _) _ _ _ _ :: _) _ _); refine wpList_val rfl (run_load_hp rfl rfl hrow rfl) ?_)
          | ((with_reducible show wpList _ _ _ (Oper.mk _ (Op.store 225 _ _) _ _ _ _ :: _) _ _); refine hp_store_new (cs := (clP x).toArray) rfl rfl rfl rfl (clP_one x) ?_; rw [← HV.out]))
        go_roundw
        case rel => exact ⟨k + 1, P7, p7, C ++ x.p.b, by omega, by simp, by rw [List.length_append], by rw [List.length_append]; exact hcl2, HC2, O7.out, b7⟩
        case measure => simp [intOf]; omega
      · obtain rfl : n = k := by omega
        have hzz : w.heap.size + 1 < X.heap.size := Nat.lt_of_lt_of_le hz2 (Nat.le_of_lt (Nat.lt_of_le_of_lt hD (heap_lt hK)))
        have hxr := h3X.below hbel hzz
        have c1 := Boxed.cell hxr.one; have f1 := Boxed.frozen hxr.one
        have t2 := Boxed.other hxr.two (B' := w.heap.size) (by omega) (.slice P C.length p)
        have c2 := Boxed.cell t2; have f2 := Boxed.frozen t2
        have hxs := hxr.set (A' := P) (n' := C.length) (c' := p) true
        have bwr := hBX.trans (hbel.mono hBX.size)
        have bws := (bwr.setCell (p := ⟨w.heap.size, 0, none⟩) (by simp) (.slice P C.length p)).setCell (p := ⟨w.heap.size + 1, 0, none⟩) (by simp) (.bool true)
        have owns := own_setCell (own_setCell ownC (p := ⟨w.heap.size, 0, none⟩) (u := .slice P C.length p) (by show w.heap.size < _; omega)) (p := ⟨w.heap.size + 1, 0, none⟩) (u := .bool true) (by show w.heap.size + 1 < _; omega)
        have hmr : Marks w1.heap.size X.heap.size [{ target := .collected D, args := #[] }] ((wr.setCell ⟨w.heap.size, 0, none⟩ (.slice P C.length p)).setCell ⟨w.heap.size + 1, 0, none⟩ (.bool true)) :=
          hm1.keep (fun k h1 h2 => (Below.heap_setCell _ _ _ _ (by simp; omega)).trans ((Below.heap_setCell _ _ _ _ (by simp; omega)).trans (hbel.block k h2)))
        have HC' : Hid (C = catP (piE L)) := Lib.hid (by rw [HC.out, List.take_of_length_le (by rw [piE, List.length_map, ← HN.out]; exact Nat.le_refl _)])
        have hwX : w.heap.size ≤ X.heap.size := by omega
        go_wp2
        refine leaves_marks w1.heap.size (fun Y => Bx2 Y w.heap.size P C.length p true ∧ Y.ownsRow X.heap.size 5 1 (.slice P C.length p) C.length (row C) ∧ Below w.heap.size w Y)
          (fun Y D hY h1 h2 => ⟨hY.1.kept (B := w1.heap.size) (grownBy_putObj' Y D _) (fun k e => by cases e; exact ⟨h1, _, h2, rfl⟩), own_putD hY.2.1 h2 _, hY.2.2.trans (belowK_b (w := w) (Nat.le_refl _) Y D _ _ (by omega) h2 rfl rfl)⟩)
          (fun Y hY => ⟨_, cells2G rfl rfl rfl hY.1.one hY.1.two, ?_⟩) _ _ _ hmr ⟨hxs, owns, bws⟩
        rw [← HCC.out, if_pos HNIL.out, ← HBB.out, decide_eq_true HNIL.out, ← HC'.out]
        exact ⟨_, rfl, Made.of_own (own_baseL hY.2.1 hwX) hY.2.2⟩
end Go.Proofs.YtpoigngpdcmipaaGreat
namespace Go.Proofs.YtpoigngpdcmipaaGreat
open Go.RowKit Go.Shelf
theorem Hx.alloc {w : World} {g : Nat} {A : Option Addr} {c : Nat} {L : List XP} (h : Hx w g A c L) (o : Obj) : Hx (w.alloc o) g A c L := h.below ((Below.refl _ w).alloc (Nat.le_refl _) o)
theorem hcdone (g : Nat) (A : Option Addr) (c : Nat) (L : List XP) (w : World) (h : Hx w g A c L) :
    Calls Tryz.prog 156 #[.pointer (some ⟨g, 0, none⟩)] w fun e w' => ∃ v, e = .returned (.tuple #[v, .bool (endedP (piE L) && decide (gapsS 0 (piE L) = []))]) ∧ Made w w' v (if endedP (piE L) && decide (gapsS 0 (piE L) = []) then catP (piE L) else []) := by
  cases he : endedP (piE L) with
  | true =>
    refine (hcdone_end g A c L w h he).mono ?_
    rintro e w' ⟨v, rfl, hm⟩
    refine ⟨v, by rw [Bool.true_and], ?_⟩
    simpa using hm
  | false =>
    refine (hcdone_open g A c L w h he).mono ?_
    rintro e w' ⟨rfl, hb⟩
    exact ⟨_, rfl, made_nil hb⟩
end Go.Proofs.YtpoigngpdcmipaaGreat
namespace Go.Proofs.YtpoigngpdcmipaaGreat
open Go.RowKit Go.Shelf
end Go.Proofs.YtpoigngpdcmipaaGreat
namespace Go.Proofs.YtpoigngpdcmipaaGreat
open Go.RowKit Go.ChangeShapes Go.WideShapes
open Go.Shelf
end Go.Proofs.YtpoigngpdcmipaaGreat
namespace Go.Proofs.YtpoigngpdcmipaaGreat
open Go.RowKit Go.Shelf
end Go.Proofs.YtpoigngpdcmipaaGreat
namespace Go.Proofs.YtpoigngpdcmipaaGreat
open Go.RowKit Go.Shelf
end Go.Proofs.YtpoigngpdcmipaaGreat
namespace Go.Proofs.YtpoigngpdcmipaaGreat
open Go.RowKit Go.Shelf
def OfT (w : World) (S : Nat → Prop) (T : TypeId → Prop) : Prop := ∀ k, S k → ∃ cs ty, w.heap[k]? = some (.cells cs ty (0, 0)) ∧ T ty
theorem OfT.not {w : World} {S : Nat → Prop} {T : TypeId → Prop} (h : OfT w S T) {g : Nat} (hs : S g) {cs : Array Value} {ty : TypeId} {fr : Nat × Nat} (hg : w.heap[g]? = some (.cells cs ty fr)) : T ty := by
  obtain ⟨cs', ty', h1, h2⟩ := h g hs
  have h3 := h1.symm.trans hg
  simp only [Option.some.injEq, Obj.cells.injEq] at h3
  rw [← h3.2.1]; exact h2
theorem own_keptO {S : Nat → Prop} {T : TypeId → Prop} {w w' : World} {b e s n : Nat} {v : Value} {xs : List Value} (h : w.ownsRow b e s v n xs) (k : Kept S w w') (hS : OfT w S T) (hT : ¬ T e) : w'.ownsRow b e s v n xs :=
  own_keptT h k (fun _ hs _ _ hg => hT (hS.not hs hg))
def TH (t : TypeId) : Prop := t = 179 ∨ t = 225
theorem Hx.ofT {w : World} {g : Nat} {A : Option Addr} {c : Nat} {L : List XP} (h : Hx w g A c L) : OfT w (fun k => k = g ∨ (Value.slice A L.length c).ownBlock = some k) TH := fun k hk => by
  rcases hk with rfl | hk
  · exact ⟨_, _, h.obj, .inl rfl⟩
  · rcases h.own.2 with ⟨e, _⟩ | ⟨g', cap, cur, e, _, hg, _⟩
    · rw [e] at hk; cases hk
    · rw [e] at hk
      have : g' = k := by simpa [Value.ownBlock] using hk
      exact ⟨cur, _, this ▸ hg, .inr rfl⟩
end Go.Proofs.YtpoigngpdcmipaaGreat
namespace Go.Proofs.YtpoigngpdcmipaaGreat
open Go.RowKit Go.Shelf
theorem th_u8 : ¬ TH 5 := by rintro (h | h) <;> exact absurd h (nat_ne (by kernel_rfl))
theorem Hx.beside {w w' : World} {g1 g2 c1 c2 : Nat} {A1 A2 : Option Addr} {L1 L2 : List XP} (h1 : Hx w g1 A1 c1 L1) (h2 : Hx w g2 A2 c2 L2) (k : Kept (fun k => k = g1 ∨ (Value.slice A1 L1.length c1).ownBlock = some k) w w') (hg : g1 ≠ g2)
    (hr : ∀ k, (Value.slice A1 L1.length c1).ownBlock = some k → (Value.slice A2 L2.length c2).ownBlock ≠ some k) : Hx w' g2 A2 c2 L2 := by
  have hp : ∀ k, (Value.slice A1 L1.length c1).ownBlock = some k → ∃ cur, w.heap[k]? = some (.cells cur 225 (0, 0)) := fun k hk => by
    rcases h1.own.2 with ⟨e, _⟩ | ⟨g', cap, cur, e, _, hg, _⟩
    · rw [e] at hk; cases hk
    · rw [e] at hk
      have : g' = k := by simpa [Value.ownBlock] using hk
      exact ⟨cur, this ▸ hg⟩
  refine ⟨(k.block g2 (heap_lt h2.obj) ?_).trans h2.obj, ?_, h2.nil_, fun y hy => own_keptO (h2.byt y hy) k h1.ofT th_u8, h2.ris, h2.n⟩
  · rintro (e | e)
    · exact hg e.symm
    · obtain ⟨cur, h3⟩ := hp g2 e
      have h4 := h3.symm.trans h2.obj
      simp only [Option.some.injEq, Obj.cells.injEq] at h4
      exact absurd h4.2.1 (nat_ne (by kernel_rfl))
  · refine ⟨h2.own.1, ?_⟩
    rcases h2.own.2 with hn | ⟨g', cap, cur, hv, hb, hg', rest⟩
    · exact .inl hn
    · refine .inr ⟨g', cap, cur, hv, hb, (k.block g' (heap_lt hg') ?_).trans hg', rest⟩
      rintro (e | e)
      · have h4 := h1.obj.symm.trans (e ▸ hg')
        simp only [Option.some.injEq, Obj.cells.injEq] at h4
        exact absurd h4.2.1 (nat_ne (by kernel_rfl))
      · exact hr g' e (by rw [hv]; rfl)
theorem own_lt {w : World} {g c : Nat} {A : Option Addr} {L : List XP} (h : Hx w g A c L) : ∀ k, (Value.slice A L.length c).ownBlock = some k → k < w.heap.size := fun k hk => (h.own.lt k hk).2
def Apart2 (v1 v2 : Value) : Prop := ∀ k, v1.ownBlock = some k → v2.ownBlock ≠ some k
theorem Apart2.symm {v1 v2 : Value} (h : Apart2 v1 v2) : Apart2 v2 v1 := fun k h2 h1 => h k h1 h2
end Go.Proofs.YtpoigngpdcmipaaGreat
namespace Go.Proofs.YtpoigngpdcmipaaGreat
open Go.RowKit Go.Shelf Go.Maps
def ptrElem : Value → Option (DataW Unit × List MemPlace)
  | .pointer none => some (.lit (.int .i64 (-1)), [])
  | .pointer (some ⟨g, 0, none⟩) => some (.lit (.int .i64 (g : Int)), [])
  | _ => none
theorem ptr_inv {v : Value} {g : Nat} {ps : List MemPlace} (h : ptrElem v = some (.lit (.int .i64 (g : Int)), ps)) : v = .pointer (some ⟨g, 0, none⟩) := by
  unfold ptrElem at h
  split at h
  · simp only [Option.some.injEq, Prod.mk.injEq, DataW.lit.injEq, Lit.int.injEq] at h; omega
  · rename_i g'
    simp only [Option.some.injEq, Prod.mk.injEq, DataW.lit.injEq, Lit.int.injEq] at h
    have : g' = g := by omega
    rw [this]
  · cases h
theorem ptr_none {v : Value} {ps : List MemPlace} (h : ptrElem v = some (.lit (.int .i64 (-1)), ps)) : v = .pointer none := by
  unfold ptrElem at h
  split at h
  · rfl
  · simp only [Option.some.injEq, Prod.mk.injEq, DataW.lit.injEq, Lit.int.injEq] at h; omega
  · cases h
theorem klaw : Keyed Tryz.prog 9 := string_keyed Tryz.underlying9
theorem zeroBf (w : World) : (zeroValue 121).run Tryz.prog w = .ok (.pointer none) w := by kernel_rfl
def sq (k : List UInt8) : Value := .string (strB k)
theorem kkey (k : List UInt8) (h : k.length ≤ maxLen) : keyOf Tryz.prog 9 (sq k) = some (.string k) := by
  have h1 : (strB k).size ≤ maxLen := by rw [strB_size]; exact h
  have h2 : (strB k).data.toList = k := by simp [strB]
  have h3 := Go.WideMaps.keyOf_string_mk (P := Tryz.prog) Tryz.underlying9 h1
  rw [h2] at h3
  exact h3
def enM (p : List UInt8 × Nat) : Lit × DataW Unit := (.string p.1, .lit (.int .i64 (p.2 : Int)))
theorem same_str (a b : List UInt8) : (Lit.string a).sameKey (.string b) = decide (a = b) := by
  show (a == b) = decide (a = b)
  by_cases h : a = b
  · subst h; simp
  · rw [decide_eq_false h]; exact beq_false_of_ne h
theorem pw_eq : ∀ {l : List (List UInt8 × Nat)}, l.Pairwise (fun a b => a.1 ≠ b.1) → ∀ {a b}, a ∈ l → b ∈ l → a.1 = b.1 → a = b
  | [], _, _, _, ha, _, _ => by cases ha
  | x :: l, h, a, b, ha, hb, e => by
    obtain ⟨h1, h2⟩ := List.pairwise_cons.1 h
    rcases List.mem_cons.1 ha with rfl | ha'
    · rcases List.mem_cons.1 hb with rfl | hb'
      · rfl
      · exact absurd e (h1 b hb')
    · rcases List.mem_cons.1 hb with rfl | hb'
      · exact absurd e.symm (h1 a ha')
      · exact pw_eq h2 ha' hb' e
section
variable {es : List (Lit × DataW Unit)} {M : List (List UInt8 × Nat)}
theorem en_has (hp : es.Perm (M.map enM)) (k : List UInt8) : Maps.has (.map es) (.string k) = M.any (fun p => decide (p.1 = k)) := by
  rw [Maps.has_eq, hp.any_eq, List.any_map]
  congr 1
  funext p
  exact same_str p.1 k
theorem en_none (hp : es.Perm (M.map enM)) {k : List UInt8} (h : ∀ p ∈ M, p.1 ≠ k) (z : DataW Unit) : (DataW.map es).atKey (.string k) z = z := by
  refine Maps.atKey_of_not_has ?_ z
  rw [en_has hp, List.any_eq_false]
  intro p hp'
  simpa using h p hp'
theorem en_at (hp : es.Perm (M.map enM)) (nd : M.Pairwise (fun a b => a.1 ≠ b.1)) {p : List UInt8 × Nat} (hm : p ∈ M) (z : DataW Unit) : (DataW.map es).atKey (.string p.1) z = .lit (.int .i64 (p.2 : Int)) := by
  unfold DataW.atKey
  simp only
  cases hf : es.find? (fun q => q.1.sameKey (.string p.1)) with
  | none =>
    have h1 := List.find?_eq_none.1 hf (enM p) (hp.mem_iff.2 (List.mem_map.2 ⟨p, hm, rfl⟩))
    exfalso
    apply h1
    show (Lit.string p.1).sameKey (.string p.1) = true
    rw [same_str]; simp
  | some q =>
    have h1 := List.mem_of_find?_eq_some hf
    have h2 := List.find?_some hf
    obtain ⟨p', hm', rfl⟩ := List.mem_map.1 (hp.mem_iff.1 h1)
    have h3 : p'.1 = p.1 := by
      have h4 : (Lit.string p'.1).sameKey (.string p.1) = true := h2
      rw [same_str] at h4
      exact of_decide_eq_true h4
    have h5 : p' = p := pw_eq nd hm' hm h3
    subst h5
    rfl
theorem notkey_str (p : List UInt8 × Nat) (k : List UInt8) : (!(enM p).1.sameKey (.string k)) = decide (p.1 ≠ k) := by
  show (!(Lit.string p.1).sameKey (.string k)) = _
  rw [same_str]
  by_cases h : p.1 = k
  · simp [h]
  · simp [h]
theorem en_del (hp : es.Perm (M.map enM)) (k : List UInt8) : ∃ es', (DataW.map es).del (.string k) = .map es' ∧ es'.Perm ((M.filter (fun p => decide (p.1 ≠ k))).map enM) := by
  refine ⟨_, rfl, ?_⟩
  refine (hp.filter _).trans ?_
  rw [List.filter_map]
  have e : ((fun p : Lit × DataW Unit => !p.1.sameKey (.string k)) ∘ enM) = fun p => decide (p.1 ≠ k) := funext fun p => notkey_str p k
  rw [e]
theorem en_put (hp : es.Perm (M.map enM)) (p : List UInt8 × Nat) : ∃ es', (DataW.map es).put (.string p.1) (.lit (.int .i64 (p.2 : Int))) = .map es' ∧ es'.Perm ((p :: M.filter (fun x => decide (x.1 ≠ p.1))).map enM) := by
  refine ⟨_, rfl, (WideShapes.insert_perm _ _).trans ?_⟩
  rw [List.map_cons]
  refine List.Perm.cons _ ?_
  refine (hp.filter _).trans ?_
  rw [List.filter_map]
  have e : ((fun p' : Lit × DataW Unit => !p'.1.sameKey (.string p.1)) ∘ enM) = fun x => decide (x.1 ≠ p.1) := funext fun x => notkey_str x p.1
  rw [e]
theorem en_size (hp : es.Perm (M.map enM)) : Maps.size (.map es) = M.length := by
  rw [Maps.size_eq, hp.length_eq, List.length_map]
end
structure Bu where
  key : List UInt8
  g : Nat
  h : Nat
  A : Option Addr
  c : Nat
  L : List XP
  began : Int
  head : List UInt8
  headed : Bool
def Bu.v (s : Bu) : Value := .slice s.A s.L.length s.c
def Bu.kg (s : Bu) : List UInt8 × Nat := (s.key, s.g)
def Bu.by (s : Bu) : Int := bytesP (piE s.L)
structure Bx (w : World) (s : Bu) : Prop where
  obj : w.heap[s.g]? = some (.cells #[.pointer (some ⟨s.h, 0, none⟩), .int .i64 s.began, sq s.head, .bool s.headed] 124 (0, 0))
  hx : Hx w s.h s.A s.c s.L
def ApB (a b : Bu) : Prop := a.g ≠ b.g ∧ a.h ≠ b.h ∧ Apart2 a.v b.v
theorem ApB.symm {a b : Bu} (h : ApB a b) : ApB b a := ⟨h.1.symm, h.2.1.symm, h.2.2.symm⟩
structure Tx (w : World) (t bm : Nat) (tot mb my wt : Int) (M : List (List UInt8 × Nat)) (S : List Bu) : Prop where
  obj : w.heap[t]? = some (.cells #[.map (some bm), .int .i64 tot, .int .i64 mb, .int .i64 my, .int .i64 wt] 94 (0, 0))
  map : ∃ es, w.ownsMap Tryz.prog 9 ptrElem bm M.length (.map es) ∧ es.Perm (M.map enM)
  ndm : M.Pairwise (fun a b => a.1 ≠ b.1)
  nd : S.Pairwise (fun a b => a.key ≠ b.key)
  len : ∀ s ∈ S, s.key.length ≤ maxLen
  bx : ∀ s ∈ S, Bx w s
  ap : S.Pairwise ApB
theorem Bx.below {w w' : World} {s : Bu} (h : Bx w s) (hb : Below w.heap.size w w') : Bx w' s := ⟨(hb.block s.g (heap_lt h.obj)).trans h.obj, h.hx.below hb⟩
theorem own_map_below {w w' : World} {b n : Nat} {D : DataW Unit} {k : TypeId} {R : Value → Option (DataW Unit × List MemPlace)} (h : w.ownsMap Tryz.prog k R b n D) (hb : Below w.heap.size w w') : w'.ownsMap Tryz.prog k R b n D := by
  have hlt := h.lt
  obtain ⟨es, clock, h1, F, hs, hD⟩ := h
  exact ⟨es, clock, (hb.block b hlt).trans h1, F, hs, hD⟩
section
variable {w w' : World} {t bm : Nat} {tot mb my wt : Int} {M : List (List UInt8 × Nat)} {S : List Bu}
theorem Tx.below (h : Tx w t bm tot mb my wt M S) (hb : Below w.heap.size w w') : Tx w' t bm tot mb my wt M S := by
  obtain ⟨es, hm, hp⟩ := h.map
  exact ⟨(hb.block t (heap_lt h.obj)).trans h.obj, ⟨es, own_map_below hm hb, hp⟩, h.ndm, h.nd, h.len, fun s hs => (h.bx s hs).below hb, h.ap⟩
theorem Tx.perm (h : Tx w t bm tot mb my wt M S) {M' : List (List UInt8 × Nat)} {S' : List Bu} (hM : M.Perm M') (hS : S.Perm S') : Tx w t bm tot mb my wt M' S' := by
  obtain ⟨es, hm, hp⟩ := h.map
  exact ⟨h.obj, ⟨es, hM.length_eq ▸ hm, hp.trans (hM.map _)⟩, hM.pairwise h.ndm (fun e => e.symm), hS.pairwise h.nd (fun e => e.symm), fun s hs => h.len s (hS.mem_iff.2 hs), fun s hs => h.bx s (hS.mem_iff.2 hs), hS.pairwise h.ap ApB.symm⟩
end
def AwayT (w : World) (S : Nat → Prop) (T : TypeId → Prop) : Prop := ∀ k, S k → ∀ cs ty fr, w.heap[k]? = some (.cells cs ty fr) → T ty
theorem own_keptA {S : Nat → Prop} {T : TypeId → Prop} {w w' : World} {b e s n : Nat} {v : Value} {xs : List Value} (h : w.ownsRow b e s v n xs) (k : Kept S w w') (hS : AwayT w S T) (hT : ¬ T e) : w'.ownsRow b e s v n xs :=
  own_keptT h k (fun g hs cs fr hg => hT (hS g hs cs e fr hg))
theorem Hx.keptA {S : Nat → Prop} {T : TypeId → Prop} {w w' : World} {g : Nat} {A : Option Addr} {c : Nat} {L : List XP} (h : Hx w g A c L) (k : Kept S w w') (hS : AwayT w S T) (h1 : ¬ T 179) (h2 : ¬ T 225) (h3 : ¬ T 5) : Hx w' g A c L :=
  ⟨(k.block g (heap_lt h.obj) (fun s => h1 (hS g s _ _ _ h.obj))).trans h.obj, own_keptA h.own k hS h2, h.nil_, fun y hy => own_keptA (h.byt y hy) k hS h3, h.ris, h.n⟩
theorem Bx.keptA {S : Nat → Prop} {T : TypeId → Prop} {w w' : World} {s : Bu} (h : Bx w s) (k : Kept S w w') (hS : AwayT w S T) (h1 : ¬ T 179) (h2 : ¬ T 225) (h3 : ¬ T 5) (hg : ¬ S s.g) : Bx w' s :=
  ⟨(k.block s.g (heap_lt h.obj) hg).trans h.obj, h.hx.keptA k hS h1 h2 h3⟩
def TT (t : TypeId) : Prop := t = 94
theorem tt_no : ¬ TT 179 ∧ ¬ TT 225 ∧ ¬ TT 5 ∧ ¬ TT 124 := by
  refine ⟨?_, ?_, ?_, ?_⟩ <;> (intro h; exact absurd h (nat_ne (by kernel_rfl)))
def TB (t : TypeId) : Prop := t = 124
theorem tb_no : ¬ TB 179 ∧ ¬ TB 225 ∧ ¬ TB 5 ∧ ¬ TB 94 := by
  refine ⟨?_, ?_, ?_, ?_⟩ <;> (intro h; exact absurd h (nat_ne (by kernel_rfl)))
theorem map_is {w : World} {b n : Nat} {D : DataW Unit} {k : TypeId} {R : Value → Option (DataW Unit × List MemPlace)} (h : w.ownsMap Tryz.prog k R b n D) {cs : Array Value} {ty : TypeId} {fr : Nat × Nat} : w.heap[b]? ≠ some (.cells cs ty fr) := by
  obtain ⟨es, clock, h1, _⟩ := h
  intro h2
  rw [h1] at h2
  cases h2
theorem own_map_kept {S : Nat → Prop} {w w' : World} {b n : Nat} {D : DataW Unit} {k : TypeId} {R : Value → Option (DataW Unit × List MemPlace)} (h : w.ownsMap Tryz.prog k R b n D) (hk : Kept S w w') (hs : ¬ S b) : w'.ownsMap Tryz.prog k R b n D := by
  have hlt := h.lt
  obtain ⟨es, clock, h1, F, hs', hD⟩ := h
  exact ⟨es, clock, (hk.block b hlt hs).trans h1, F, hs', hD⟩
section
variable {w w' : World} {t bm : Nat} {tot mb my wt : Int} {M : List (List UInt8 × Nat)} {S : List Bu}
theorem Tx.ne (h : Tx w t bm tot mb my wt M S) : bm ≠ t := fun e => by
  obtain ⟨es, hm, _⟩ := h.map
  exact map_is hm (by rw [e]; exact h.obj)
theorem Tx.turn (h : Tx w t bm tot mb my wt M S) {tot' : Int} {M' : List (List UInt8 × Nat)} (k : Kept (fun k => k = t ∨ k = bm) w w') (ho : w'.heap[t]? = some (.cells #[.map (some bm), .int .i64 tot', .int .i64 mb, .int .i64 my, .int .i64 wt] 94 (0, 0)))
    (hm : ∃ es, w'.ownsMap Tryz.prog 9 ptrElem bm M'.length (.map es) ∧ es.Perm (M'.map enM)) (hn : M'.Pairwise (fun a b => a.1 ≠ b.1)) : Tx w' t bm tot' mb my wt M' S := by
  have ha : AwayT w (fun k => k = t ∨ k = bm) TT := fun k hk cs ty fr hg => by
    rcases hk with rfl | rfl
    · have := h.obj.symm.trans hg
      simp only [Option.some.injEq, Obj.cells.injEq] at this
      exact this.2.1.symm
    · obtain ⟨es, hm', _⟩ := h.map
      exact absurd hg (map_is hm')
  refine ⟨ho, hm, hn, h.nd, h.len, fun s hs => (h.bx s hs).keptA k ha tt_no.1 tt_no.2.1 tt_no.2.2.1 (fun e => ?_), h.ap⟩
  exact tt_no.2.2.2 (ha s.g e _ _ _ (h.bx s hs).obj)
theorem Tx.sub (h : Tx w t bm tot mb my wt M S) {S' : List Bu} (hs : S'.Sublist S) : Tx w t bm tot mb my wt M S' :=
  ⟨h.obj, h.map, h.ndm, h.nd.sublist hs, fun s hm => h.len s (hs.subset hm), fun s hm => h.bx s (hs.subset hm), h.ap.sublist hs⟩
end
end Go.Proofs.YtpoigngpdcmipaaGreat
namespace Go.Proofs.YtpoigngpdcmipaaGreat
open Go.RowKit Go.Shelf Go.Maps
theorem eqin_map {P : Program} (w : World) (d : Nat) (t k e : TypeId) (r : Option Nat) (h : P.underlying t = some (.map k e)) : (Op.equalIn (d + 1) t (.map r) (.map none)).run P w = .ok r.isNone w := by
  cases r <;> simp [Op.equalIn, run_underlying h]
theorem neq_mapP {P : Program} (w : World) (t k e : TypeId) (r : Option Nat) (h : P.underlying t = some (.map k e)) : (binOp .neq t (.map r) (.map none)).run P w = .ok (.bool (!r.isNone)) w := by
  simp only [binOp]
  simp [Op.equal, Op.maxDepth, eqin_map w 9999 t k e r h]
theorem neq_map (w : World) (r : Option Nat) : (binOp .neq 92 (.map r) (.map none)).run Tryz.prog w = .ok (.bool (!r.isNone)) w := neq_mapP w _ _ _ r Tryz.underlying92
theorem results_tmp4 {fn : Func} {t u v z : Tmp} (h : fn.results = #[.tmp t, .tmp u, .tmp v, .tmp z]) (tmps : Array Value) (P : Program) (w : World) :
    (results fn tmps).run P w = .ok (.tuple #[tmps.getD t undef, tmps.getD u undef, tmps.getD v undef, tmps.getD z undef]) w := by
  simp [results, h]
set_option maxRecDepth 100000 in
theorem jmade (g bm : Nat) (w : World) (h : w.cell? ⟨g, 0, none⟩ = some (.map (some bm))) : Calls Tryz.prog 74 #[.pointer (some ⟨g, 0, none⟩)] w fun e w' => e = .returned (.bool true) ∧ w = w' := by
  have qT := neq_map
  go_enter Tryz.func74, Tryz.ntmps74
  go_wp2
  go_ret
  exact ⟨rfl, rfl⟩
theorem jwithin (n lo hi : Int) (w : World) : Calls Tryz.prog 46 #[.int .i64 n, .int .i64 lo, .int .i64 hi] w fun e w' => e = .returned (.bool (decide (lo ≤ n ∧ n ≤ hi))) ∧ w = w' := by
  by_cases h1 : lo ≤ n
  · have d1 : decide (lo ≤ n) = true := decide_eq_true h1
    have e : decide (lo ≤ n ∧ n ≤ hi) = decide (n ≤ hi) := by simp [h1]
    rw [e]
    clear e
    go_enter Tryz.func46, Tryz.ntmps46
    go_wp2
    go_ret
    exact ⟨rfl, rfl⟩
  · have d1 : decide (lo ≤ n) = false := decide_eq_false h1
    have e : decide (lo ≤ n ∧ n ≤ hi) = false := by simp [h1]
    rw [e]
    clear e
    go_enter Tryz.func46, Tryz.ntmps46
    go_wp2
    go_ret
    exact ⟨rfl, rfl⟩
def newOk (b m t : Int) : Prop := (0 ≤ b ∧ b ≤ 1073741824) ∧ (0 ≤ m ∧ m ≤ 1073741824) ∧ (1 ≤ t ∧ t ≤ 1099511627776)
instance (b m t : Int) : Decidable (newOk b m t) := by unfold newOk; exact inferInstance
theorem jnew_ok (b m t : Int) (w : World) (h : newOk b m t) : Calls Tryz.prog 23 #[.int .i64 b, .int .i64 m, .int .i64 t] w fun e w' =>
    e = .returned (.tuple #[.pointer (some ⟨w.heap.size + 1, 0, none⟩), .int .i64 0]) ∧ Tx w' (w.heap.size + 1) w.heap.size 0 b m t [] [] ∧ Below w.heap.size w w' := by
  obtain ⟨h1, h2, h3⟩ := h
  have d1 := decide_eq_true h1
  have d2 := decide_eq_true h2
  have d3 := decide_eq_true h3
  have D1 := Lib.hid d1; have D2 := Lib.hid d2; have D3 := Lib.hid d3
  clear h1 h2 h3 d1 d2 d3
  have hmm := @run_makeMap Tryz.prog
  go_enter Tryz.func23, Tryz.ntmps23
  go_wp2_with (go_at_call 46; refine (jwithin _ _ _ _).mono ?_; rintro e w1 ⟨rfl, rfl⟩; first | rw [D1.out] | rw [D2.out] | rw [D3.out])
  refine bodyPost_ret (results_tmp2 rfl _ _ _) rfl ⟨rfl, ⟨?_, ⟨[], ?_, ?_⟩, .nil, .nil, (fun s h => by cases h), (fun s h => by cases h), .nil⟩, ((Below.refl _ w).alloc (Nat.le_refl _) _).alloc (by simp) _⟩
  · have := World.alloc_heap_new (w.alloc (.map #[] 0)) (.cells #[.map (some w.heap.size), .int .i64 0, .int .i64 b, .int .i64 m, .int .i64 t] 94)
    simpa using this
  · exact (World.ownsMap_made w Tryz.prog 9 ptrElem).alloc _
  · exact .nil
section
variable {w : World} {t bm : Nat} {tot mb my wt : Int} {M : List (List UInt8 × Nat)} {S : List Bu}
theorem Tx.c0 (h : Tx w t bm tot mb my wt M S) : w.cell? ⟨t, 0, none⟩ = some (.map (some bm)) := cells_at h.obj rfl
theorem Tx.c1 (h : Tx w t bm tot mb my wt M S) : w.cell? ⟨t, 1, none⟩ = some (.int .i64 tot) := cells_at h.obj rfl
end
end Go.Proofs.YtpoigngpdcmipaaGreat
namespace Go.Proofs.YtpoigngpdcmipaaGreat
open Go.RowKit Go.Shelf Go.Maps
theorem run_load_mp {o : Oper} {a : Act} {w : World} {x : Operand} {p : Addr} {m : Option Nat} (ho : o.op = .load 92 x) (hx : a.eval x = .pointer (some p)) (hc : w.cell? p = some (.map m)) :
    (execOp a.eval o).run Tryz.prog w = .ok (.value (.map m)) w := by
  unfold execOp
  simp only [ho, hx, Instr.loadAt, Instr.sureAddr, Sem.run_bind, Sem.run_pure, Result.andThen_ok]
  go_simp
theorem own_map_below0 {w w' : World} {b n : Nat} {D : DataW Unit} {k : TypeId} {R : Value → Option (DataW Unit × List MemPlace)} (h : w.ownsMap Tryz.prog k R b n D) (hb : Below w.heap.size w w') : w'.ownsMap Tryz.prog k R b n D := own_map_below h hb
theorem run_mlen {o : Oper} {a : Act} {w : World} {x : Operand} {b n N : Nat} {D : DataW Unit} (ho : o.op = .call { callee := .builtin .len, args := #[x], argTypes := #[92] }) (hx : a.eval x = .map (some b)) (hown : w.ownsMap Tryz.prog 9 ptrElem b n D) (hz : Maps.size D = N) :
    (execOp a.eval o).run Tryz.prog w = .ok (.value (.int .i64 (N : Int))) w := by
  subst hz
  simp [execOp, ho, resolve, invoke, builtin, hx, hown.len Tryz.underlying92 o.type, Result.andThen]
def withoutM (k : List UInt8) (M : List (List UInt8 × Nat)) : List (List UInt8 × Nat) := M.filter (fun p => decide (p.1 ≠ k))
theorem en_delW {es : List (Lit × DataW Unit)} {M : List (List UInt8 × Nat)} (hp : es.Perm (M.map enM)) (k : List UInt8) : ∃ es', (DataW.map es).del (.string k) = .map es' ∧ es'.Perm ((withoutM k M).map enM) := en_del hp k
theorem withoutM_nd {k : List UInt8} {M : List (List UInt8 × Nat)} (h : M.Pairwise (fun a b => a.1 ≠ b.1)) : (withoutM k M).Pairwise (fun a b => a.1 ≠ b.1) := h.filter _
theorem own_exact {w : World} {b n : Nat} {es : List (Lit × DataW Unit)} {k : TypeId} {R : Value → Option (DataW Unit × List MemPlace)} (h : w.ownsMap Tryz.prog k R b n (.map es)) : w.ownsMap Tryz.prog k R b es.length (.map es) := by
  obtain ⟨a, clock, hb, F, hs, hD⟩ := h
  refine ⟨a, clock, hb, F, ?_, hD⟩
  injection hD with e
  rw [e, length_sorted]
  simp
theorem Kept.of_turned {w w' : World} {b : Nat} (h : w.mapTurned w' b) : Kept (fun k => k = b) w w' := by
  have g := h.grown
  exact ⟨g.os, g.tape, g.output, g.size, fun k hk hn => g.block k hk (fun e => hn (by injection e))⟩
section
variable {w : World} {t bm : Nat} {tot mb my wt : Int} {M : List (List UInt8 × Nat)} {S : List Bu}
set_option maxRecDepth 100000 in
theorem jfind_hit (hT : Tx w t bm tot mb my wt M S) (g : Nat) (key : List UInt8) (now : Int) (hk : key.length ≤ maxLen) (hm : (key, g) ∈ M) :
    Calls Tryz.prog 152 #[.pointer (some ⟨t, 0, none⟩), sq key, .int .i64 now] w fun e w' => e = .returned (.tuple #[.pointer (some ⟨g, 0, none⟩), .int .i64 0]) ∧ w = w' := by
  have k0 := hT.c0
  obtain ⟨es, hown, hp⟩ := hT.map
  have HAT := Lib.hid (en_at hp hT.ndm hm (.lit (.int .i64 (-1))))
  have HHAS : Hid (Maps.has (.map es) (.string key) = true) := Lib.hid (by rw [en_has hp, List.any_eq_true]; exact ⟨_, hm, by simp⟩)
  clear hp hT hm
  unfold sq
  go_enter Tryz.func152, Tryz.ntmps152
  go_wp2_with (at_lookup; refine wpList_lookup_own_ok _ rfl _ _ 92 rfl 9 121 klaw Tryz.underlying92 ptrElem (zeroBf _) (.lit (.int .i64 (-1))) [] rfl bm M.length _ rfl hown _ _ rfl (kkey key hk) ?_; intro v ps hv; rw [HAT.out] at hv; obtain rfl := ptr_inv hv; rw [HHAS.out])
  exact bodyPost_ret (results_tmp2 rfl _ _ _) rfl ⟨rfl, rfl⟩
set_option maxRecDepth 100000 in
theorem jfind_full (hT : Tx w t bm tot mb my wt M S) (key : List UInt8) (now : Int) (hk : key.length ≤ maxLen) (hm : ∀ p ∈ M, p.1 ≠ key) (hge : (M.length : Int) ≥ mb) :
    Calls Tryz.prog 152 #[.pointer (some ⟨t, 0, none⟩), sq key, .int .i64 now] w fun e w' => e = .returned (.tuple #[.pointer none, .int .i64 7]) ∧ Below w.heap.size w w' := by
  have k0 := hT.c0
  have ht := hT.obj
  have htz := heap_lt ht
  obtain ⟨es, hown, hp⟩ := hT.map
  have hz := Lib.hid (en_size hp)
  have HAT := Lib.hid (en_none hp hm (.lit (.int .i64 (-1))))
  have HHAS : Hid (Maps.has (.map es) (.string key) = false) := Lib.hid (by rw [en_has hp, List.any_eq_false]; intro p hp'; simpa using hm p hp')
  have d1 : decide ((M.length : Int) ≥ mb) = true := decide_eq_true hge
  clear hp hT hm
  unfold sq
  go_enter Tryz.func152, Tryz.ntmps152
  go_upto_region 4 with (at_lookup; refine wpList_lookup_own_ok _ rfl _ _ 92 rfl 9 121 klaw Tryz.underlying92 ptrElem (zeroBf _) (.lit (.int .i64 (-1))) [] rfl bm M.length _ rfl hown _ _ rfl (kkey key hk) ?_; intro v ps hv; rw [HAT.out] at hv; obtain rfl := ptr_none hv; rw [HHAS.out])
  refine wp_region_held_drew (S := fun w' => Below w.heap.size w w') (by kernel_rfl) (Below.refl _ w).drew (fun hS => ?_)
  refine held_pure (i := 0) (oi := ⟨some 21, _, _, _, _, _⟩) rfl (by kernel_rfl) (by kernel_rfl) (by kernel_rfl) (fun _ _ _ h => h) (by rfl) (v := ?_) (fun w hSw => ?_) hS (fun hS => ?_)
  rotate_left
  · go_simp; try with_reducible rfl
  try go_frame
  refine held_pure (i := 1) (oi := ⟨some 22, _, _, _, _, _⟩) rfl (by kernel_rfl) (by kernel_rfl) (by kernel_rfl) (fun _ _ _ h => h) (by rfl) (v := ?_) (fun w hSw => ?_) hS (fun hS => ?_)
  rotate_left
  · go_simp; try with_reducible rfl
  try go_frame
  refine held_pure (i := 2) (oi := ⟨some 23, _, _, _, _, _⟩) rfl (by kernel_rfl) (by kernel_rfl) (by kernel_rfl) (fun _ _ _ h => h) (by rfl) (v := ?_) (fun w hSw => ?_) hS (fun hS => ?_)
  rotate_left
  · go_simp; try with_reducible rfl
  try go_frame
  refine held_pure (i := 3) (oi := ⟨some 24, _, _, _, _, _⟩) rfl (by kernel_rfl) (by kernel_rfl) (by kernel_rfl) (fun _ _ _ h => h) (by rfl) (fun w hSw => run_load_mp rfl rfl (cells_at (i := 0) ((hSw.block t htz).trans ht) rfl)) hS (fun hS => ?_)
  try go_frame
  refine held_pure (i := 4) (oi := ⟨some 25, _, _, _, _, _⟩) rfl (by kernel_rfl) (by kernel_rfl) (by kernel_rfl) (fun _ _ _ h => h) (by rfl) (fun w hSw => run_mlen rfl rfl (own_map_below0 hown hSw) hz.out) hS (fun hS => ?_)
  try go_frame
  refine held_pure (i := 5) (oi := ⟨some 26, _, _, _, _, _⟩) rfl (by kernel_rfl) (by kernel_rfl) (by kernel_rfl) (fun _ _ _ h => h) (by rfl) (v := ?_) (fun w hSw => ?_) hS (fun hS => ?_)
  rotate_left
  · go_simp; try with_reducible rfl
  try go_frame
  refine held_pure (i := 6) (oi := ⟨some 27, _, _, _, _, _⟩) rfl (by kernel_rfl) (by kernel_rfl) (by kernel_rfl) (fun _ _ _ h => h) (by rfl) (v := ?_) (fun w hSw => ?_) hS (fun hS => ?_)
  rotate_left
  · go_simp; try with_reducible rfl
  try go_frame
  refine held_pure (i := 7) (oi := ⟨some 28, _, _, _, _, _⟩) rfl (by kernel_rfl) (by kernel_rfl) (by kernel_rfl) (fun _ _ _ h => h) (by rfl) (v := ?_) (fun w hSw => ?_) hS (fun hS => ?_)
  rotate_left
  · go_simp; try with_reducible rfl
  try go_frame
  refine held_pure (i := 8) (oi := ⟨some 29, _, _, _, _, _⟩) rfl (by kernel_rfl) (by kernel_rfl) (by kernel_rfl) (fun _ _ _ h => h) (by rfl) (fun w hSw => run_load_int rfl rfl (cells_at (i := 2) ((hSw.block t htz).trans ht) rfl)) hS (fun hS => ?_)
  try go_frame
  refine held_pure (i := 9) (oi := ⟨some 30, _, _, _, _, _⟩) rfl (by kernel_rfl) (by kernel_rfl) (by kernel_rfl) (fun _ _ _ h => h) (by rfl) (v := .bool (decide ((M.length : Int) ≥ mb))) (fun w hSw => by go_simp) hS (fun hS => ?_)
  try go_frame
  refine wpAnyH_done (by kernel_rfl) ?_ _
  go_wp2_with fail
  exact bodyPost_ret (results_tmp2 rfl _ _ _) rfl ⟨rfl, hS⟩
set_option maxRecDepth 100000 in
theorem jfind_new (hT : Tx w t bm tot mb my wt M S) (key : List UInt8) (now : Int) (hk : key.length ≤ maxLen) (hm : ∀ p ∈ M, p.1 ≠ key) (hge : ¬ (M.length : Int) ≥ mb) :
    Calls Tryz.prog 152 #[.pointer (some ⟨t, 0, none⟩), sq key, .int .i64 now] w fun e w' =>
      ∃ g h, e = .returned (.tuple #[.pointer (some ⟨g, 0, none⟩), .int .i64 0]) ∧ Bx w' ⟨key, g, h, none, 0, [], min (max now 0) 1099511627776, [], false⟩ ∧ Below w.heap.size w w' ∧ w.heap.size ≤ g ∧ w.heap.size ≤ h := by
  have k0 := hT.c0
  have ht := hT.obj
  have htz := heap_lt ht
  obtain ⟨es, hown, hp⟩ := hT.map
  have hz := Lib.hid (en_size hp)
  have HAT := Lib.hid (en_none hp hm (.lit (.int .i64 (-1))))
  have HHAS : Hid (Maps.has (.map es) (.string key) = false) := Lib.hid (by rw [en_has hp, List.any_eq_false]; intro p hp'; simpa using hm p hp')
  have d1 : decide ((M.length : Int) ≥ mb) = false := decide_eq_false hge
  clear hp hT hm
  unfold sq
  go_enter Tryz.func152, Tryz.ntmps152
  go_upto_region 4 with (at_lookup; refine wpList_lookup_own_ok _ rfl _ _ 92 rfl 9 121 klaw Tryz.underlying92 ptrElem (zeroBf _) (.lit (.int .i64 (-1))) [] rfl bm M.length _ rfl hown _ _ rfl (kkey key hk) ?_; intro v ps hv; rw [HAT.out] at hv; obtain rfl := ptr_none hv; rw [HHAS.out])
  refine wp_region_held_drew (S := fun w' => Below w.heap.size w w') (by kernel_rfl) (Below.refl _ w).drew (fun hS => ?_)
  refine held_pure (i := 0) (oi := ⟨some 21, _, _, _, _, _⟩) rfl (by kernel_rfl) (by kernel_rfl) (by kernel_rfl) (fun _ _ _ h => h) (by rfl) (v := ?_) (fun w hSw => ?_) hS (fun hS => ?_)
  rotate_left
  · go_simp; try with_reducible rfl
  try go_frame
  refine held_pure (i := 1) (oi := ⟨some 22, _, _, _, _, _⟩) rfl (by kernel_rfl) (by kernel_rfl) (by kernel_rfl) (fun _ _ _ h => h) (by rfl) (v := ?_) (fun w hSw => ?_) hS (fun hS => ?_)
  rotate_left
  · go_simp; try with_reducible rfl
  try go_frame
  refine held_pure (i := 2) (oi := ⟨some 23, _, _, _, _, _⟩) rfl (by kernel_rfl) (by kernel_rfl) (by kernel_rfl) (fun _ _ _ h => h) (by rfl) (v := ?_) (fun w hSw => ?_) hS (fun hS => ?_)
  rotate_left
  · go_simp; try with_reducible rfl
  try go_frame
  refine held_pure (i := 3) (oi := ⟨some 24, _, _, _, _, _⟩) rfl (by kernel_rfl) (by kernel_rfl) (by kernel_rfl) (fun _ _ _ h => h) (by rfl) (fun w hSw => run_load_mp rfl rfl (cells_at (i := 0) ((hSw.block t htz).trans ht) rfl)) hS (fun hS => ?_)
  try go_frame
  refine held_pure (i := 4) (oi := ⟨some 25, _, _, _, _, _⟩) rfl (by kernel_rfl) (by kernel_rfl) (by kernel_rfl) (fun _ _ _ h => h) (by rfl) (fun w hSw => run_mlen rfl rfl (own_map_below0 hown hSw) hz.out) hS (fun hS => ?_)
  try go_frame
  refine held_pure (i := 5) (oi := ⟨some 26, _, _, _, _, _⟩) rfl (by kernel_rfl) (by kernel_rfl) (by kernel_rfl) (fun _ _ _ h => h) (by rfl) (v := ?_) (fun w hSw => ?_) hS (fun hS => ?_)
  rotate_left
  · go_simp; try with_reducible rfl
  try go_frame
  refine held_pure (i := 6) (oi := ⟨some 27, _, _, _, _, _⟩) rfl (by kernel_rfl) (by kernel_rfl) (by kernel_rfl) (fun _ _ _ h => h) (by rfl) (v := ?_) (fun w hSw => ?_) hS (fun hS => ?_)
  rotate_left
  · go_simp; try with_reducible rfl
  try go_frame
  refine held_pure (i := 7) (oi := ⟨some 28, _, _, _, _, _⟩) rfl (by kernel_rfl) (by kernel_rfl) (by kernel_rfl) (fun _ _ _ h => h) (by rfl) (v := ?_) (fun w hSw => ?_) hS (fun hS => ?_)
  rotate_left
  · go_simp; try with_reducible rfl
  try go_frame
  refine held_pure (i := 8) (oi := ⟨some 29, _, _, _, _, _⟩) rfl (by kernel_rfl) (by kernel_rfl) (by kernel_rfl) (fun _ _ _ h => h) (by rfl) (fun w hSw => run_load_int rfl rfl (cells_at (i := 2) ((hSw.block t htz).trans ht) rfl)) hS (fun hS => ?_)
  try go_frame
  refine held_pure (i := 9) (oi := ⟨some 30, _, _, _, _, _⟩) rfl (by kernel_rfl) (by kernel_rfl) (by kernel_rfl) (fun _ _ _ h => h) (by rfl) (v := .bool (decide ((M.length : Int) ≥ mb))) (fun w hSw => by go_simp) hS (fun hS => ?_)
  try go_frame
  refine wpAnyH_done (by kernel_rfl) ?_ _
  go_wp2_with (go_at_call 171; refine (hcnew _).mono ?_; rintro e w1 ⟨rfl, h1, b1, z1⟩)
  have z2 : w1.heap.size = w.heap.size + 1 := z1
  have ho := World.alloc_heap_new w1 (.cells #[.pointer (some ⟨w.heap.size, 0, none⟩), .int .i64 (min (max now 0) 1099511627776), sq [], .bool false] 124)
  rw [z2] at ho
  have b2 : Below w.heap.size w w1 := (Below.refl _ w).drew.trans b1
  exact bodyPost_ret (results_tmp2 rfl _ _ _) rfl ⟨w.heap.size + 1, w.heap.size, rfl, ⟨ho, h1.alloc _⟩, b2.alloc b2.size _, Nat.le_succ _, Nat.le_refl _⟩
set_option maxRecDepth 100000 in
theorem jdrop (hT : Tx w t bm tot mb my wt M S) (s : Bu) (hb : Bx w s) (hk : s.key.length ≤ maxLen) (ht0 : 0 ≤ tot ∧ tot ≤ 1000000000000) (hs0 : 0 ≤ s.by ∧ s.by ≤ 1000000000000) :
    Calls Tryz.prog 75 #[.pointer (some ⟨t, 0, none⟩), sq s.key, .pointer (some ⟨s.g, 0, none⟩)] w fun e w' =>
      e = .returned (.tuple #[]) ∧ Tx w' t bm (tot - s.by) mb my wt (withoutM s.key M) S ∧ Kept (fun k => k = t ∨ k = bm) w w' := by
  have ht := hT.obj
  have htz := heap_lt ht
  have hg := hb.obj
  have hgz := heap_lt hg
  have HW : Hid (IntKind.i64.wrap (tot - s.by) = tot - s.by) := Lib.hid (IntWalk.i64_in _ (by omega))
  have HT := Lib.hid hT
  clear hT
  unfold sq
  go_enter Tryz.func75, Tryz.ntmps75
  go_upto_region 0 with fail
  refine regionY 10 (fun w' => Below w.heap.size w w') (by kernel_rfl) ?_
  have hS := (Below.refl w.heap.size w).drew
  generalize w.drew = w8 at *
  refine pureY (i := 0) (oi := ⟨some 6, _, _, _, _, _⟩) rfl (by kernel_rfl) (by kernel_rfl) (by kernel_rfl) (by kernel_rfl) (by kernel_rfl) (fun _ _ _ h => h) (by rfl) (v := ?_) (fun w hSw => ?_) hS ?_
  rotate_left
  · go_simp; try with_reducible rfl
  try go_frame
  refine pureY (i := 1) (oi := ⟨some 7, _, _, _, _, _⟩) rfl (by kernel_rfl) (by kernel_rfl) (by kernel_rfl) (by kernel_rfl) (by kernel_rfl) (fun _ _ _ h => h) (by rfl) (v := ?_) (fun w hSw => ?_) hS ?_
  rotate_left
  · go_simp; try with_reducible rfl
  try go_frame
  refine pureY (i := 2) (oi := ⟨some 8, _, _, _, _, _⟩) rfl (by kernel_rfl) (by kernel_rfl) (by kernel_rfl) (by kernel_rfl) (by kernel_rfl) (fun _ _ _ h => h) (by rfl) (v := ?_) (fun w hSw => ?_) hS ?_
  rotate_left
  · go_simp; try with_reducible rfl
  try go_frame
  refine pureY (i := 3) (oi := ⟨some 9, _, _, _, _, _⟩) rfl (by kernel_rfl) (by kernel_rfl) (by kernel_rfl) (by kernel_rfl) (by kernel_rfl) (fun _ _ _ h => h) (by rfl) (fun w hSw => run_load_int rfl rfl (cells_at (i := 1) ((hSw.block t htz).trans ht) rfl)) hS ?_
  try go_frame
  refine pureY (i := 4) (oi := ⟨some 10, _, _, _, _, _⟩) rfl (by kernel_rfl) (by kernel_rfl) (by kernel_rfl) (by kernel_rfl) (by kernel_rfl) (fun _ _ _ h => h) (by rfl) (v := ?_) (fun w hSw => ?_) hS ?_
  rotate_left
  · go_simp; try with_reducible rfl
  try go_frame
  refine pureY (i := 5) (oi := ⟨some 11, _, _, _, _, _⟩) rfl (by kernel_rfl) (by kernel_rfl) (by kernel_rfl) (by kernel_rfl) (by kernel_rfl) (fun _ _ _ h => h) (by rfl) (v := ?_) (fun w hSw => ?_) hS ?_
  rotate_left
  · go_simp; try with_reducible rfl
  try go_frame
  refine pureY (i := 6) (oi := ⟨some 12, _, _, _, _, _⟩) rfl (by kernel_rfl) (by kernel_rfl) (by kernel_rfl) (by kernel_rfl) (by kernel_rfl) (fun _ _ _ h => h) (by rfl) (v := ?_) (fun w hSw => ?_) hS ?_
  rotate_left
  · go_simp; try with_reducible rfl
  try go_frame
  refine pureY (i := 7) (oi := ⟨some 13, _, _, _, _, _⟩) rfl (by kernel_rfl) (by kernel_rfl) (by kernel_rfl) (by kernel_rfl) (by kernel_rfl) (fun _ _ _ h => h) (by rfl) (fun w hSw => run_load_hptr rfl rfl (cells_at (i := 0) ((hSw.block s.g hgz).trans hg) rfl)) hS ?_
  try go_frame
  refine oneY (i := 8) (oi := ⟨some 14, _, _, _, _, _⟩) (by kernel_rfl) rfl (by rfl) (fun K hK => ?_)
  refine callI (f := 102) (args := #[.pointer (some ⟨s.h, 0, none⟩)]) (by go_simp; try rfl) ?_
  refine (hcbytes s.h s.A s.c s.L _ (hb.hx.below hS)).mono ?_
  rintro e w8 ⟨rfl, rfl⟩
  refine ⟨_, rfl, ?_⟩
  refine hK _ _ (fun _ => hS) ?_
  clear hK K
  try go_frame
  try go_frame
  refine pureY (i := 9) (oi := ⟨some 15, _, _, _, _, _⟩) rfl (by kernel_rfl) (by kernel_rfl) (by kernel_rfl) (by kernel_rfl) (by kernel_rfl) (fun _ _ _ h => h) (by rfl) (v := .int .i64 (tot - s.by)) (fun w hSw => by go_simp; try exact HW.out) hS ?_
  try go_frame
  refine oneY (i := 10) (oi := ⟨some 16, _, _, _, _, _⟩) (by kernel_rfl) rfl (by rfl) (fun K hK => ?_)
  refine valI (v := ?_) ?_ ?_
  rotate_left
  · go_simp; try with_reducible rfl
  refine hK _ _ (fun h => absurd h (by decide)) ?_
  clear hK K
  try go_frame
  refine oneY (i := 11) (oi := ⟨some 17, _, _, _, _, _⟩) (by kernel_rfl) rfl (by rfl) (fun K hK => ?_)
  refine valI (v := ?_) ?_ ?_
  rotate_left
  · go_simp; try with_reducible rfl
  refine hK _ _ (fun h => absurd h (by decide)) ?_
  clear hK K
  try go_frame
  refine oneY (i := 12) (oi := ⟨none, _, _, _, _, _⟩) (by kernel_rfl) rfl (by rfl) (fun K hK => ?_)
  have hht := ((hS.block t htz).trans ht)
  have kk := cells_at (i := 1) hht rfl
  have ff := heap_frozen hht 1
  refine store_intI rfl rfl rfl kk ff ?_
  have h2 : (w8.setCell ⟨t, 1, none⟩ (.int .i64 (tot - s.by))).heap[t]? = some (.cells #[.map (some bm), .int .i64 (tot - s.by), .int .i64 mb, .int .i64 my, .int .i64 wt] 94 (0, 0)) := heap_setCell_same _ t 1 _ _ (.int .i64 (tot - s.by)) hht
  have K1 : Kept (fun k => k = t) w (w8.setCell ⟨t, 1, none⟩ (.int .i64 (tot - s.by))) := (Kept.of_below hS).trans (Kept.setCell w8 t 1 _) (fun _ _ h => h)
  clear kk ff hht
  refine hK _ _ (fun h => absurd h (by decide)) ?_
  clear hK K
  generalize w8.setCell ⟨t, 1, none⟩ (.int .i64 (tot - s.by)) = W2 at *
  try go_frame
  try go_frame
  refine doneY (by kernel_rfl) ?_ _
  obtain ⟨es, hown0, hp⟩ := HT.out.map
  have hown := own_map_kept hown0 K1 (fun e => HT.out.ne e)
  have k0 : W2.cell? ⟨t, 0, none⟩ = some (.map (some bm)) := cells_at h2 rfl
  obtain ⟨es', hdel, hp'⟩ := en_delW hp s.key
  have HDEL := Lib.hid hdel
  clear hdel hp hown0
  go_wp2_with (at_delete; refine wpList_delete_own _ rfl _ _ 92 9 rfl 121 klaw Tryz.underlying92 ptrElem bm M.length _ rfl hown _ _ rfl (kkey s.key hk) ?_; intro w3 hown3 hturn3; rw [HDEL.out] at hown3)
  have hK3 := Kept.of_turned hturn3
  have hKK : Kept (fun k => k = t ∨ k = bm) w w3 := ((K1.mono (T := fun k => k = t ∨ k = bm) (fun _ _ h => .inl h)).trans hK3 (fun _ _ h => .inr h))
  refine bodyPost_end (results_none rfl _ _ _) rfl ⟨rfl, HT.out.turn hKK ((hK3.block t (heap_lt h2) (fun e => HT.out.ne e.symm)).trans h2) ⟨es', ?_, hp'⟩ (withoutM_nd HT.out.ndm), hKK⟩
  have := own_exact hown3
  rwa [hp'.length_eq, List.length_map] at this
end
end Go.Proofs.YtpoigngpdcmipaaGreat
namespace Go.Proofs.YtpoigngpdcmipaaGreat
open Go.RowKit Go.Shelf Go.Maps
def tellB (s : Bu) (off : Int) (head : List UInt8) : Bu := if off = 0 ∧ s.headed = false then { s with head := head, headed := true } else s
theorem tellB_key (s : Bu) (off : Int) (head : List UInt8) : (tellB s off head).key = s.key := by unfold tellB; split <;> rfl
theorem tellB_g (s : Bu) (off : Int) (head : List UInt8) : (tellB s off head).g = s.g := by unfold tellB; split <;> rfl
theorem tellB_h (s : Bu) (off : Int) (head : List UInt8) : (tellB s off head).h = s.h := by unfold tellB; split <;> rfl
theorem tellB_L (s : Bu) (off : Int) (head : List UInt8) : (tellB s off head).L = s.L := by unfold tellB; split <;> rfl
theorem tellB_v (s : Bu) (off : Int) (head : List UInt8) : (tellB s off head).v = s.v := by unfold tellB; split <;> rfl
set_option maxRecDepth 100000 in
theorem jtell {w : World} (s : Bu) (hb : Bx w s) (off : Int) (head : List UInt8) : Calls Tryz.prog 155 #[.pointer (some ⟨s.g, 0, none⟩), .int .i64 off, sq head] w fun e w' =>
    e = .returned (.tuple #[]) ∧ Bx w' (tellB s off head) ∧ Kept (fun k => k = s.g) w w' := by
  obtain ⟨key, g, h, A, c, L, began, hd, headed⟩ := s
  have ho := hb.obj
  have k2 : w.cell? ⟨g, 2, none⟩ = some (sq hd) := cells_at (i := 2) ho rfl
  have k3 : w.cell? ⟨g, 3, none⟩ = some (.bool headed) := cells_at (i := 3) ho rfl
  have f2 : w.frozen? ⟨g, 2, none⟩ = false := heap_frozen ho 2
  have f3 : w.frozen? ⟨g, 3, none⟩ = false := heap_frozen ho 3
  have HB := Lib.hid hb
  have HO := Lib.hid ho
  clear hb ho
  unfold sq at k2 ⊢
  by_cases h0 : off = 0
  · subst h0
    cases headed with
    | false =>
      go_enter Tryz.func155, Tryz.ntmps155
      go_wp2
      have h2 := heap_setCell_same w g 2 _ _ (.string (strB head)) HO.out
      have h3 := heap_setCell_same _ g 3 _ _ (.bool true) h2
      have K : Kept (fun k => k = g) w ((w.setCell ⟨g, 2, none⟩ (.string (strB head))).setCell ⟨g, 3, none⟩ (.bool true)) := (Kept.setCell w g 2 _).trans (Kept.setCell _ g 3 _) (fun _ _ h => h)
      refine bodyPost_end (results_none rfl _ _ _) rfl ⟨rfl, ?_, K⟩
      have e : tellB ⟨key, g, h, A, c, L, began, hd, false⟩ 0 head = ⟨key, g, h, A, c, L, began, head, true⟩ := by unfold tellB; rw [if_pos ⟨rfl, rfl⟩]
      rw [e]
      refine ⟨h3, HB.out.hx.keptA K (T := TB) (fun k hk cs ty fr hg => ?_) tb_no.1 tb_no.2.1 tb_no.2.2.1⟩
      subst hk
      have := HO.out.symm.trans hg
      simp only [Option.some.injEq, Obj.cells.injEq] at this
      exact this.2.1.symm
    | true =>
      have e : tellB ⟨key, g, h, A, c, L, began, hd, true⟩ 0 head = ⟨key, g, h, A, c, L, began, hd, true⟩ := by unfold tellB; rw [if_neg (fun h => by cases h.2)]
      rw [e]
      go_enter Tryz.func155, Tryz.ntmps155
      go_wp2
      exact bodyPost_end (results_none rfl _ _ _) rfl ⟨rfl, HB.out, Kept.of_below (Below.refl _ w)⟩
  · have d0 : decide (off = 0) = false := decide_eq_false h0
    have e : tellB ⟨key, g, h, A, c, L, began, hd, headed⟩ off head = ⟨key, g, h, A, c, L, began, hd, headed⟩ := by unfold tellB; rw [if_neg (fun h => h0 h.1)]
    rw [e]
    go_enter Tryz.func155, Tryz.ntmps155
    go_wp2
    exact bodyPost_end (results_none rfl _ _ _) rfl ⟨rfl, HB.out, Kept.of_below (Below.refl _ w)⟩
def Fresh (s : Bu) (key : List UInt8) (now : Int) : Prop := s.key = key ∧ s.A = none ∧ s.c = 0 ∧ s.L = [] ∧ s.began = min (max now 0) 1099511627776 ∧ s.head = [] ∧ s.headed = false
section
variable {w : World} {t bm : Nat} {tot mb my wt : Int} {M : List (List UInt8 × Nat)} {S : List Bu}
theorem Tx.cons (h : Tx w t bm tot mb my wt M S) {s : Bu} (hb : Bx w s) (hk : s.key.length ≤ maxLen) (hn : ∀ x ∈ S, s.key ≠ x.key) (ha : ∀ x ∈ S, ApB s x) : Tx w t bm tot mb my wt M (s :: S) :=
  ⟨h.obj, h.map, h.ndm, List.pairwise_cons.2 ⟨hn, h.nd⟩, fun x hx => by rcases List.mem_cons.1 hx with rfl | hx; exact hk; exact h.len x hx, fun x hx => by rcases List.mem_cons.1 hx with rfl | hx; exact hb; exact h.bx x hx, List.pairwise_cons.2 ⟨ha, h.ap⟩⟩
theorem jfind_ok (hT : Tx w t bm tot mb my wt M S) (hMS : M.Perm (S.map Bu.kg)) (key : List UInt8) (now : Int) (hk : key.length ≤ maxLen) (hf : (∃ s ∈ S, s.key = key) ∨ ¬ (M.length : Int) ≥ mb) :
    Calls Tryz.prog 152 #[.pointer (some ⟨t, 0, none⟩), sq key, .int .i64 now] w fun e w' =>
      ∃ s R, e = .returned (.tuple #[.pointer (some ⟨s.g, 0, none⟩), .int .i64 0]) ∧ Tx w' t bm tot mb my wt M (s :: R) ∧ s.key = key ∧ Below w.heap.size w w' ∧ ((S.Perm (s :: R) ∧ w = w') ∨ (S = R ∧ Fresh s key now ∧ w.heap.size ≤ s.g ∧ w.heap.size ≤ s.h ∧ ∀ x ∈ S, x.key ≠ key)) := by
  by_cases hx : ∃ s ∈ S, s.key = key
  · obtain ⟨s, hs, hsk⟩ := hx
    have hm : (key, s.g) ∈ M := hMS.mem_iff.2 (List.mem_map.2 ⟨s, hs, by rw [← hsk]; rfl⟩)
    refine (jfind_hit hT s.g key now hk hm).mono ?_
    rintro e w' ⟨rfl, rfl⟩
    obtain ⟨S1, S2, hR0⟩ := List.append_of_mem hs
    obtain ⟨R, hR⟩ : ∃ R, S.Perm (s :: R) := ⟨S1 ++ S2, by rw [hR0]; exact List.perm_middle⟩
    exact ⟨s, R, rfl, hT.perm (List.Perm.refl _) hR, hsk, Below.refl _ _, .inl ⟨hR, rfl⟩⟩
  · have hge : ¬ (M.length : Int) ≥ mb := by rcases hf with h | h; exact absurd h hx; exact h
    have hno : ∀ x ∈ S, x.key ≠ key := fun x hx' e => hx ⟨x, hx', e⟩
    have hm : ∀ p ∈ M, p.1 ≠ key := fun p hp e => by
      obtain ⟨s, hs, rfl⟩ := List.mem_map.1 (hMS.mem_iff.1 hp)
      exact hno s hs e
    refine (jfind_new hT key now hk hm hge).mono ?_
    rintro e w' ⟨g, h, rfl, hb, hbl, hg, hh⟩
    refine ⟨_, S, rfl, (hT.below hbl).cons hb hk (fun x hx' e => hno x hx' e.symm) (fun x hx' => ⟨?_, ?_, fun k hk' => by cases hk'⟩), rfl, hbl, .inr ⟨rfl, ⟨rfl, rfl, rfl, rfl, rfl, rfl, rfl⟩, hg, hh, hno⟩⟩
    · have := heap_lt (hT.bx x hx').obj
      show g ≠ x.g
      omega
    · have := heap_lt (hT.bx x hx').hx.obj
      show h ≠ x.h
      omega
end
end Go.Proofs.YtpoigngpdcmipaaGreat
namespace Go.Proofs.YtpoigngpdcmipaaGreat
open Go.RowKit Go.Shelf Go.Maps
def Bu.with_ (s : Bu) (A : Option Addr) (c : Nat) (L : List XP) : Bu := { s with A := A, c := c, L := L }
section
variable {w w' : World} {t bm : Nat} {tot mb my wt : Int} {M : List (List UInt8 × Nat)} {R : List Bu} {s : Bu}
theorem Tx.add (h : Tx w t bm tot mb my wt M (s :: R)) {A2 : Option Addr} {c2 : Nat} {L2 : List XP} (hx : Hx w' s.h A2 c2 L2) (k : Kept (fun k => k = s.h ∨ s.v.ownBlock = some k) w w')
    (ob : ∀ k, (Value.slice A2 L2.length c2).ownBlock = some k → s.v.ownBlock = some k ∨ w.heap.size ≤ k) : Tx w' t bm tot mb my wt M (s.with_ A2 c2 L2 :: R) := by
  have hb := h.bx s (List.mem_cons_self ..)
  have hof := hb.hx.ofT
  obtain ⟨es, hm, hp⟩ := h.map
  obtain ⟨ha1, ha2⟩ := List.pairwise_cons.1 h.ap
  obtain ⟨hn1, hn2⟩ := List.pairwise_cons.1 h.nd
  have thn : ¬ TH 124 ∧ ¬ TH 94 := by
    refine ⟨?_, ?_⟩ <;> (rintro (h | h) <;> exact absurd h (nat_ne (by kernel_rfl)))
  have hgk : ∀ x ∈ s :: R, w'.heap[x.g]? = w.heap[x.g]? := fun x hx' => k.block x.g (heap_lt (h.bx x hx').obj) (fun e => thn.1 (hof.not e (h.bx x hx').obj))
  refine ⟨(k.block t (heap_lt h.obj) (fun e => thn.2 (hof.not e h.obj))).trans h.obj, ⟨es, own_map_kept hm k (fun e => ?_), hp⟩, h.ndm, List.pairwise_cons.2 ⟨hn1, hn2⟩, ?_, ?_, List.pairwise_cons.2 ⟨?_, ha2⟩⟩
  · obtain ⟨cs, ty, h1, _⟩ := hof bm e
    exact map_is hm h1
  · intro x hx'
    rcases List.mem_cons.1 hx' with rfl | hx'
    · exact h.len s (List.mem_cons_self ..)
    · exact h.len x (List.mem_cons_of_mem _ hx')
  · intro x hx'
    rcases List.mem_cons.1 hx' with rfl | hx'
    · exact ⟨(hgk s (List.mem_cons_self ..)).trans hb.obj, hx⟩
    · have hbx := h.bx x (List.mem_cons_of_mem _ hx')
      exact ⟨(hgk x (List.mem_cons_of_mem _ hx')).trans hbx.obj, hb.hx.beside hbx.hx k (ha1 x hx').2.1 (ha1 x hx').2.2⟩
  · intro x hx'
    have hbx := h.bx x (List.mem_cons_of_mem _ hx')
    refine ⟨(ha1 x hx').1, (ha1 x hx').2.1, fun k' hk' hx2 => ?_⟩
    rcases ob k' hk' with h1 | h1
    · exact (ha1 x hx').2.2 k' h1 hx2
    · have := own_lt hbx.hx k' hx2
      omega
theorem Tx.tell (h : Tx w t bm tot mb my wt M (s :: R)) {off : Int} {head : List UInt8} (hb : Bx w' (tellB s off head)) (k : Kept (fun k => k = s.g) w w') : Tx w' t bm tot mb my wt M (tellB s off head :: R) := by
  have hb0 := h.bx s (List.mem_cons_self ..)
  obtain ⟨es, hm, hp⟩ := h.map
  obtain ⟨ha1, ha2⟩ := List.pairwise_cons.1 h.ap
  obtain ⟨hn1, hn2⟩ := List.pairwise_cons.1 h.nd
  have hof : AwayT w (fun k => k = s.g) TB := fun k hk cs ty fr hg => by
    subst hk
    have := hb0.obj.symm.trans hg
    simp only [Option.some.injEq, Obj.cells.injEq] at this
    exact this.2.1.symm
  refine ⟨(k.block t (heap_lt h.obj) (fun e => tb_no.2.2.2 (hof t e _ _ _ h.obj))).trans h.obj, ⟨es, own_map_kept hm k (fun e => ?_), hp⟩, h.ndm, List.pairwise_cons.2 ⟨?_, hn2⟩, ?_, ?_, List.pairwise_cons.2 ⟨?_, ha2⟩⟩
  · rw [e] at hm; exact map_is hm hb0.obj
  · intro x hx; rw [tellB_key]; exact hn1 x hx
  · intro x hx'
    rcases List.mem_cons.1 hx' with rfl | hx'
    · rw [tellB_key]; exact h.len s (List.mem_cons_self ..)
    · exact h.len x (List.mem_cons_of_mem _ hx')
  · intro x hx'
    rcases List.mem_cons.1 hx' with rfl | hx'
    · exact hb
    · exact (h.bx x (List.mem_cons_of_mem _ hx')).keptA k hof tb_no.1 tb_no.2.1 tb_no.2.2.1 (fun e => (ha1 x hx').1 e.symm)
  · intro x hx
    refine ⟨?_, ?_, ?_⟩
    · rw [tellB_g]; exact (ha1 x hx).1
    · rw [tellB_h]; exact (ha1 x hx).2.1
    · rw [tellB_v]; exact (ha1 x hx).2.2
theorem Tx.setTot (h : Tx w t bm tot mb my wt M R) (n : Int) : Tx (w.setCell ⟨t, 1, none⟩ (.int .i64 n)) t bm n mb my wt M R := by
  obtain ⟨es, hm, hp⟩ := h.map
  have K1 : Kept (fun k => k = t ∨ k = bm) w (w.setCell ⟨t, 1, none⟩ (.int .i64 n)) := (Kept.setCell w t 1 _).mono (fun _ _ h => .inl h)
  exact h.turn K1 (heap_setCell_same _ t 1 _ _ (.int .i64 n) h.obj) ⟨es, own_map_kept hm (Kept.setCell w t 1 _) (fun e => h.ne e), hp⟩ h.ndm
theorem en_putW {es : List (Lit × DataW Unit)} (hp : es.Perm (M.map enM)) (p : List UInt8 × Nat) : ∃ es', (DataW.map es).put (.string p.1) (.lit (.int .i64 (p.2 : Int))) = .map es' ∧ es'.Perm ((p :: withoutM p.1 M).map enM) := en_put hp p
theorem Tx.put (h : Tx w t bm tot mb my wt M R) {key : List UInt8} {g : Nat} {es' : List (Lit × DataW Unit)} (hp' : es'.Perm (((key, g) :: withoutM key M).map enM)) {n : Nat}
    (ho : w'.ownsMap Tryz.prog 9 ptrElem bm n (.map es')) (ht : w.mapTurned w' bm) : Tx w' t bm tot mb my wt ((key, g) :: withoutM key M) R := by
  have hK := Kept.of_turned ht
  have h1 := own_exact ho
  rw [hp'.length_eq, List.length_map] at h1
  refine h.turn (hK.mono (fun _ _ h => .inr h)) ((hK.block t (heap_lt h.obj) (fun e => h.ne e.symm)).trans h.obj) ⟨es', h1, hp'⟩ (List.pairwise_cons.2 ⟨fun p hp => ?_, withoutM_nd h.ndm⟩)
  have := (List.mem_filter.1 hp).2
  exact fun e => (of_decide_eq_true this) e.symm
end
end Go.Proofs.YtpoigngpdcmipaaGreat
namespace Go.Proofs.YtpoigngpdcmipaaGreat
open Go.RowKit Go.Shelf Go.Maps
def roomC (L : List Pc) (a : Int) (b : List UInt8) : Int := if (nearP L a).any (alikeP ⟨a, false, b⟩) then 0 else (b.length : Int)
def partsOf (S : List Bu) (key : List UInt8) : List Pc := match S.find? (fun s => decide (s.key = key)) with | some s => piE s.L | none => []
def Takes (M : List (List UInt8 × Nat)) (S : List Bu) (mb : Int) (key : List UInt8) : Prop := (∃ s ∈ S, s.key = key) ∨ ¬ (M.length : Int) ≥ mb
theorem partsOf_hit {S R : List Bu} {s : Bu} {key : List UInt8} (hp : S.Perm (s :: R)) (hk : s.key = key) (nd : (s :: R).Pairwise (fun a b => a.key ≠ b.key)) : partsOf S key = piE s.L := by
  unfold partsOf
  obtain ⟨h1, h2⟩ := List.pairwise_cons.1 nd
  cases hf : S.find? (fun s => decide (s.key = key)) with
  | none =>
    have := List.find?_eq_none.1 hf s (hp.mem_iff.2 (List.mem_cons_self ..))
    simp [hk] at this
  | some x =>
    have hx := hp.mem_iff.1 (List.mem_of_find?_eq_some hf)
    have hxk : x.key = key := by simpa using List.find?_some hf
    rcases List.mem_cons.1 hx with rfl | hx
    · rfl
    · exact absurd (hk.trans hxk.symm) (h1 x hx)
theorem partsOf_none {S : List Bu} {key : List UInt8} (h : ∀ x ∈ S, x.key ≠ key) : partsOf S key = [] := by
  unfold partsOf
  rw [List.find?_eq_none.2 (fun x hx => by simpa using h x hx)]
theorem partsOf_find {S R : List Bu} {s : Bu} {key : List UInt8} {now : Int} {w w' : World} (h : (S.Perm (s :: R) ∧ w = w') ∨ (S = R ∧ Fresh s key now ∧ w.heap.size ≤ s.g ∧ w.heap.size ≤ s.h ∧ ∀ x ∈ S, x.key ≠ key)) (hk : s.key = key) (nd : (s :: R).Pairwise (fun a b => a.key ≠ b.key)) : partsOf S key = piE s.L := by
  rcases h with ⟨hp, _⟩ | ⟨hSR, hfr, _, _, hno⟩
  · exact partsOf_hit hp hk nd
  · rw [partsOf_none hno, hfr.2.2.2.1]; rfl
theorem jroom (g : Nat) (A : Option Addr) (c : Nat) (L : List XP) (a : Int) (A' : Option Addr) (b : List UInt8) (c' : Nat) (w : World) (h : Hx w g A c L) (hA' : Arg w w.heap.size A' c' b) :
    Calls Tryz.prog 153 #[.pointer (some ⟨g, 0, none⟩), .int .i64 a, .slice A' b.length c'] w fun e w' => e = .returned (.int .i64 (roomC (piE L) a b)) ∧ Below w.heap.size w w' := hcroom g A c L a A' b c' w h hA'
theorem tellB_hx {w : World} {s : Bu} {off : Int} {head : List UInt8} (h : Bx w (tellB s off head)) : Hx w s.h s.A s.c s.L := by
  have := h.hx
  unfold tellB at this
  split at this <;> exact this
theorem tellB_c0 {w : World} {s : Bu} {off : Int} {head : List UInt8} (h : Bx w (tellB s off head)) : w.cell? ⟨s.g, 0, none⟩ = some (.pointer (some ⟨s.h, 0, none⟩)) := by
  have ho := h.obj
  rw [tellB_g, tellB_h] at ho
  exact cells_at (i := 0) ho rfl
def Tz (B t bm : Nat) (S : List Bu) : Prop := B ≤ t ∧ B ≤ bm ∧ ∀ s ∈ S, B ≤ s.g ∧ B ≤ s.h ∧ ∀ k, s.v.ownBlock = some k → B ≤ k
def headOf (S : List Bu) (key : List UInt8) (off : Int) (head : List UInt8) : List UInt8 := match S.find? (fun s => decide (s.key = key)) with | some s => (tellB s off head).head | none => if off = 0 then head else []
theorem find_hit {S R : List Bu} {s : Bu} {key : List UInt8} (hp : S.Perm (s :: R)) (hk : s.key = key) (nd : (s :: R).Pairwise (fun a b => a.key ≠ b.key)) : S.find? (fun s => decide (s.key = key)) = some s := by
  obtain ⟨h1, h2⟩ := List.pairwise_cons.1 nd
  cases hf : S.find? (fun s => decide (s.key = key)) with
  | none =>
    have := List.find?_eq_none.1 hf s (hp.mem_iff.2 (List.mem_cons_self ..))
    simp [hk] at this
  | some x =>
    have hx := hp.mem_iff.1 (List.mem_of_find?_eq_some hf)
    have hxk : x.key = key := by simpa using List.find?_some hf
    rcases List.mem_cons.1 hx with rfl | hx
    · rfl
    · exact absurd (hk.trans hxk.symm) (h1 x hx)
theorem headOf_eq {S R : List Bu} {s : Bu} {key head : List UInt8} {now off : Int} {w w' : World} {A2 : Option Addr} {c2 : Nat} {L2 : List XP} (h : (S.Perm (s :: R) ∧ w = w') ∨ (S = R ∧ Fresh s key now ∧ w.heap.size ≤ s.g ∧ w.heap.size ≤ s.h ∧ ∀ x ∈ S, x.key ≠ key)) (hk : s.key = key)
    (nd : (s :: R).Pairwise (fun a b => a.key ≠ b.key)) : (tellB (s.with_ A2 c2 L2) off head).head = headOf S key off head := by
  rcases h with ⟨hp, _⟩ | ⟨hSR, hfr, _, _, hno⟩
  · unfold headOf
    rw [find_hit hp hk nd]
    show _ = (tellB s off head).head
    unfold tellB Bu.with_
    by_cases hc : off = 0 ∧ s.headed = false
    · rw [if_pos hc, if_pos hc]
    · rw [if_neg hc, if_neg hc]
  · unfold headOf
    rw [List.find?_eq_none.2 (fun x hx => by simpa using hno x hx)]
    show _ = if off = 0 then head else []
    unfold tellB Bu.with_
    by_cases hc : off = 0
    · rw [if_pos ⟨hc, hfr.2.2.2.2.2.2⟩, if_pos hc]
    · rw [if_neg (fun h => hc h.1), if_neg hc]; exact hfr.2.2.2.2.2.1
theorem jdropK {w : World} {t bm : Nat} {tot mb my wt : Int} {M : List (List UInt8 × Nat)} {S : List Bu} (hT : Tx w t bm tot mb my wt M S) (s : Bu) (hb : Bx w s) (key : List UInt8) (g : Nat) (he : s.key = key) (hg : s.g = g) (by_ : Int) (hby : s.by = by_) (hk : key.length ≤ maxLen) (ht0 : 0 ≤ tot ∧ tot ≤ 1000000000000) (hs0 : 0 ≤ by_ ∧ by_ ≤ 1000000000000) :
    Calls Tryz.prog 75 #[.pointer (some ⟨t, 0, none⟩), sq key, .pointer (some ⟨g, 0, none⟩)] w fun e w' =>
      e = .returned (.tuple #[]) ∧ Tx w' t bm (tot - by_) mb my wt (withoutM key M) S ∧ Kept (fun k => k = t ∨ k = bm) w w' := by
  subst he; subst hg; subst hby
  exact jdrop hT s hb hk ht0 hs0
theorem Tx.away {w : World} {t bm : Nat} {tot mb my wt : Int} {M : List (List UInt8 × Nat)} {S : List Bu} (h : Tx w t bm tot mb my wt M S) : AwayT w (fun k => k = t ∨ k = bm) TT := fun k hk cs ty fr hg => by
  rcases hk with rfl | rfl
  · have := h.obj.symm.trans hg
    simp only [Option.some.injEq, Obj.cells.injEq] at this
    exact this.2.1.symm
  · obtain ⟨es, hm', _⟩ := h.map
    exact absurd hg (map_is hm')
theorem Bx.c2 {w : World} {s : Bu} {g : Nat} (h : Bx w s) (hg : s.g = g) : w.cell? ⟨g, 2, none⟩ = some (sq s.head) := by subst hg; exact cells_at (i := 2) h.obj rfl
end Go.Proofs.YtpoigngpdcmipaaGreat
namespace Go.Proofs.YtpoigngpdcmipaaGreat
open Go.RowKit Go.Shelf Go.Maps
def fail16 (n : Int) : Ending := .returned (.tuple #[.string ByteArray.empty, .slice none 0 0, .bool false, .int .i64 n])
section
variable {w : World} {t bm : Nat} {tot mb my wt : Int} {M : List (List UInt8 × Nat)} {S : List Bu}
set_option maxRecDepth 100000 in
theorem jadd_full (hT : Tx w t bm tot mb my wt M S) (key head : List UInt8) (off now : Int) (more : Bool) (v : Value) (hk : key.length ≤ maxLen) (hm : ∀ p ∈ M, p.1 ≠ key) (hge : (M.length : Int) ≥ mb) :
    Calls Tryz.prog 124 #[.pointer (some ⟨t, 0, none⟩), sq key, .int .i64 off, .bool more, v, sq head, .int .i64 now] w fun e w' => e = fail16 7 ∧ Tx w' t bm tot mb my wt M S ∧ Below w.heap.size w w' := by
  have k0 := hT.c0
  have HT := Lib.hid hT
  have HM := Lib.hid hm
  have HG := Lib.hid hge
  clear hT hm hge
  unfold sq
  go_enter Tryz.func124, Tryz.ntmps124
  go_wp2_with (first
    | (go_at_call 74; refine (jmade t bm _ k0).mono ?_; rintro e w1 ⟨rfl, rfl⟩)
    | (go_at_call 152; go_loud (refine (jfind_full HT.out key now hk HM.out HG.out).mono ?_; rintro e w1 ⟨rfl, b1⟩)))
  exact bodyPost_ret (results_tmp4 rfl _ _ _) rfl ⟨rfl, HT.out.below b1, b1⟩
set_option maxRecDepth 100000 in
set_option maxHeartbeats 2000000 in
theorem jadd_room (hT0 : Tx w t bm tot mb my wt M S) (hMS : M.Perm (S.map Bu.kg)) (key head : List UInt8) (off now : Int) (more : Bool) (A' : Option Addr) (c' : Nat) (b : List UInt8) (hA' : Arg w w.heap.size A' c' b) (hk : key.length ≤ maxLen) (hbl : b.length ≤ 1000000)
    (htot : 0 ≤ tot ∧ tot ≤ 100000000000) (hf : Takes M S mb key)
    (hroom : tot + roomC (partsOf S key) off b > my) :
    Calls Tryz.prog 124 #[.pointer (some ⟨t, 0, none⟩), sq key, .int .i64 off, .bool more, .slice A' b.length c', sq head, .int .i64 now] w fun e w' => e = fail16 7 ∧ Tx w' t bm tot mb my wt M S ∧ Below w.heap.size w w' := by
  have k0 := hT0.c0
  obtain ⟨RM, hRM⟩ : ∃ RM, RM = roomC (partsOf S key) off b := ⟨_, rfl⟩
  have hrm0 : 0 ≤ RM ∧ RM ≤ 1000000 := by rw [hRM]; unfold roomC; split <;> omega
  rw [← hRM] at hroom
  have HW1 : Hid (IntKind.i64.wrap (tot + RM) = tot + RM) := Lib.hid (IntWalk.i64_in _ (by omega))
  have HROOM : Hid (¬ tot + RM ≤ my) := Lib.hid (by omega)
  have HRM := Lib.hid hRM
  have hT := Lib.hid hT0
  have HMS := Lib.hid hMS
  have HF := Lib.hid hf
  have HARG := Lib.hid hA'
  clear hT0 hMS hf hA' hroom hRM
  unfold sq at *
  go_enter Tryz.func124, Tryz.ntmps124
  go_upto_region 7 with (first
    | (go_at_call 74; refine (jmade t bm _ k0).mono ?_; rintro e w1 ⟨rfl, rfl⟩)
    | (go_at_call 153; go_loud (refine (jroom s.h s.A s.c s.L off A' b c' _ (HT1.out.bx s (List.mem_cons_self ..)).hx ((HARG.out.below b1).more b1.size)).mono ?_; rintro e w2 ⟨rfl, b2⟩; rw [← HRV.out]))
    | (go_at_call 152; go_loud (refine (jfind_ok hT.out HMS.out key now hk HF.out).mono ?_; rintro e w1 ⟨s, R, rfl, hT1, hsk, b1, hcs⟩; have HT1 := Lib.hid hT1; have HSK := Lib.hid hsk; have HCS := Lib.hid hcs; have kg1 : w1.cell? ⟨s.g, 0, none⟩ = some (.pointer (some ⟨s.h, 0, none⟩)) := cells_at (i := 0) (HT1.out.bx s (List.mem_cons_self ..)).obj rfl; clear hT1 hsk hcs; have HPO := Lib.hid (partsOf_find HCS.out HSK.out HT1.out.nd); have HRV := Lib.hid (HRM.out.trans (congrArg (fun z => roomC z off b) HPO.out)))))
  have HT2 := Lib.hid (HT1.out.below b2)
  have ht := HT2.out.obj
  have htz := heap_lt ht
  refine wp_region_held_drew (S := fun w' => Below w2.heap.size w2 w') (by kernel_rfl) (Below.refl _ w2).drew (fun hS => ?_)
  refine held_pure (i := 0) (oi := ⟨some 44, _, _, _, _, _⟩) rfl (by kernel_rfl) (by kernel_rfl) (by kernel_rfl) (fun _ _ _ h => h) (by rfl) (v := ?_) (fun w hSw => ?_) hS (fun hS => ?_)
  rotate_left
  · go_simp; try with_reducible rfl
  try go_frame
  refine held_pure (i := 1) (oi := ⟨some 45, _, _, _, _, _⟩) rfl (by kernel_rfl) (by kernel_rfl) (by kernel_rfl) (fun _ _ _ h => h) (by rfl) (v := ?_) (fun w hSw => ?_) hS (fun hS => ?_)
  rotate_left
  · go_simp; try with_reducible rfl
  try go_frame
  refine held_pure (i := 2) (oi := ⟨some 46, _, _, _, _, _⟩) rfl (by kernel_rfl) (by kernel_rfl) (by kernel_rfl) (fun _ _ _ h => h) (by rfl) (v := ?_) (fun w hSw => ?_) hS (fun hS => ?_)
  rotate_left
  · go_simp; try with_reducible rfl
  try go_frame
  refine held_pure (i := 3) (oi := ⟨some 47, _, _, _, _, _⟩) rfl (by kernel_rfl) (by kernel_rfl) (by kernel_rfl) (fun _ _ _ h => h) (by rfl) (fun w hSw => run_load_int rfl rfl (cells_at (i := 1) ((hSw.block t htz).trans ht) rfl)) hS (fun hS => ?_)
  try go_frame
  refine held_pure (i := 4) (oi := ⟨some 48, _, _, _, _, _⟩) rfl (by kernel_rfl) (by kernel_rfl) (by kernel_rfl) (fun _ _ _ h => h) (by rfl) (v := ?_) (fun w hSw => ?_) hS (fun hS => ?_)
  rotate_left
  · go_simp; try with_reducible rfl
  try go_frame
  refine held_pure (i := 5) (oi := ⟨some 49, _, _, _, _, _⟩) rfl (by kernel_rfl) (by kernel_rfl) (by kernel_rfl) (fun _ _ _ h => h) (by rfl) (v := .int .i64 (tot + RM)) (fun w hSw => by go_simp; try exact HW1.out) hS (fun hS => ?_)
  try go_frame
  refine held_pure (i := 6) (oi := ⟨some 50, _, _, _, _, _⟩) rfl (by kernel_rfl) (by kernel_rfl) (by kernel_rfl) (fun _ _ _ h => h) (by rfl) (v := ?_) (fun w hSw => ?_) hS (fun hS => ?_)
  rotate_left
  · go_simp; try with_reducible rfl
  try go_frame
  refine held_pure (i := 7) (oi := ⟨some 51, _, _, _, _, _⟩) rfl (by kernel_rfl) (by kernel_rfl) (by kernel_rfl) (fun _ _ _ h => h) (by rfl) (v := ?_) (fun w hSw => ?_) hS (fun hS => ?_)
  rotate_left
  · go_simp; try with_reducible rfl
  try go_frame
  refine held_pure (i := 8) (oi := ⟨some 52, _, _, _, _, _⟩) rfl (by kernel_rfl) (by kernel_rfl) (by kernel_rfl) (fun _ _ _ h => h) (by rfl) (v := ?_) (fun w hSw => ?_) hS (fun hS => ?_)
  rotate_left
  · go_simp; try with_reducible rfl
  try go_frame
  refine held_pure (i := 9) (oi := ⟨some 53, _, _, _, _, _⟩) rfl (by kernel_rfl) (by kernel_rfl) (by kernel_rfl) (fun _ _ _ h => h) (by rfl) (fun w hSw => run_load_int rfl rfl (cells_at (i := 3) ((hSw.block t htz).trans ht) rfl)) hS (fun hS => ?_)
  try go_frame
  refine held_pure (i := 10) (oi := ⟨some 54, _, _, _, _, _⟩) rfl (by kernel_rfl) (by kernel_rfl) (by kernel_rfl) (fun _ _ _ h => h) (by rfl) (v := .bool true) (fun w hSw => by go_simp; try (exact HROOM.out)) hS (fun hS => ?_)
  try go_frame
  refine wpAnyH_done (by kernel_rfl) ?_ _
  have b3 := hS
  generalize w2.drew = w3 at *
  have HT3 := Lib.hid (HT2.out.below b3)
  have b13 : Below w.heap.size w w3 := (b1.trans (b2.mono b1.size)).trans (b3.mono (Nat.le_trans b1.size b2.size))
  go_wp2_with fail
  refine bodyPost_ret (results_tmp4 rfl _ _ _) rfl ⟨rfl, ?_, b13⟩
  rcases HCS.out with ⟨h, _⟩ | ⟨h1, _⟩
  · exact HT3.out.perm (List.Perm.refl _) h.symm
  · rw [h1]; exact HT3.out.sub (List.sublist_cons_self _ _)
end
end Go.Proofs.YtpoigngpdcmipaaGreat
namespace Go.Proofs.YtpoigngpdcmipaaGreat
open Go.RowKit Go.ChangeShapes Go.WideShapes
end Go.Proofs.YtpoigngpdcmipaaGreat
namespace Go.Proofs.YtpoigngpdcmipaaGreat
open Go.RowKit Go.Shelf
end Go.Proofs.YtpoigngpdcmipaaGreat
namespace Go.Proofs.YtpoigngpdcmipaaGreat
open Go.RowKit
structure Bf where
  key : List UInt8
  since : Int
  l : List Pc
  head : List UInt8
  has : Bool
def bytesJ : List Bf → Int
  | [] => 0
  | b :: t => bytesP b.l + bytesJ t
def findJ (t : List Bf) (key : List UInt8) : Nat := t.findIdx fun x => x.key == key
def clampJ (now : Int) : Int := min (max now 0) 1099511627776
abbrev AnsJ := List UInt8 × List UInt8 × Bool × Int
def upJ (x : Bf) (p : Pc) (head : List UInt8) : Bf := { x with l := addL x.l p, head := if p.off = 0 ∧ x.has = false then head else x.head, has := x.has || decide (p.off = 0) }
def putJ (mb : Int) (t0 t : List Bf) (k : Nat) (x : Bf) (p : Pc) (head : List UInt8) : List Bf × AnsJ :=
  if bytesJ t + roomP x.l p.off p.b > mb then (t0, [], [], false, 7)
  else if addE x.l p ≠ 0 then (t.eraseIdx k, [], [], false, addE x.l p)
  else if doneB (upJ x p head).l then (t.eraseIdx k, (upJ x p head).head, doneP (upJ x p head).l, true, 0)
  else (t.set k (upJ x p head), [], [], false, 0)
def newJ (key : List UInt8) (now : Int) : Bf := ⟨key, clampJ now, [], [], false⟩
def addJ (most mb : Int) (t : List Bf) (key : List UInt8) (p : Pc) (head : List UInt8) (now : Int) : List Bf × AnsJ :=
  match t[findJ t key]? with
  | some x => putJ mb t t (findJ t key) x p head
  | none => if (t.length : Int) ≥ most then (t, [], [], false, 7) else putJ mb t (t ++ [newJ key now]) t.length (newJ key now) p head
theorem bytesP_nn : ∀ l : List Pc, 0 ≤ bytesP l
  | [] => Int.le_refl _
  | x :: l => by
    have h := bytesP_nn l
    have h2 : x.len = (x.b.length : Int) := rfl
    rw [bytesP]; omega
theorem bytesP_app (l : List Pc) (p : Pc) : bytesP (l ++ [p]) = bytesP l + p.len := by
  induction l with
  | nil => simp [bytesP]
  | cons a l ih => rw [List.cons_append, bytesP, bytesP, ih]; omega
end Go.Proofs.YtpoigngpdcmipaaGreat
