/-
  Contracts and lemmas on which the proofs of this seat stand (several texts in one). Conditions are each theorem's own.
-/
import Derived.Test.YthdaclbgandmcaaMa8
import Derived.Test.YthdaclbgandmcaaMa4
import Derived.Lib.SlBytesConst

/-
  Contracts of gaps, Gaps and Done of layer 15's code. Conditions are each theorem's own.
-/
namespace Go.Proofs.Ythdaclbgandmcaa
open Go.RowKit Go.Shelf
attribute [local go_sem] Oper.semAt_some
/-- What the iterator promises. -/
def SeqG (L : List Pc) (m B : Nat) (w : World) : Prop := SeqTold m Try.prog 126 #[.pointer (some ⟨B, 0, none⟩)] encG (GG L) (KeepS 3 3 0) (fun xs => xs = gapsS 0 L) (fun pre => ∃ more, gapsS 0 L = pre ++ more) w
theorem hcgapsf (A : Option Addr) (n c : Nat) (L : List XP) (w : World) (hn : n = L.length) (hn1 : n ≤ 100000) (ho : w.ownsRow 0 158 3 (.slice A n c) n (L.flatMap clP)) (hris : Ris (piE L)) :
    Calls Try.prog 96 #[.slice A n c] w fun e w' => e = .returned (.func (.func 126) #[] #[.pointer (some ⟨w.heap.size, 0, none⟩)]) ∧ Below w.heap.size w w' ∧ ∀ m, 1 ≤ m → SeqG (piE L) m w.heap.size w' := by
  have HO := Lib.hid ho
  have HR := Lib.hid hris
  have HN := Lib.hid hn
  clear ho hris hn
  go_enter Try.func96, Try.ntmps96
  go_wp2
  go_ret
  have hb := (Below.refl w.heap.size w).alloc (Nat.le_refl _) (.cells #[.slice A n c] 156)
  refine ⟨rfl, hb, fun m hm l J Jx W hW hJ _ hY hJ0 => ?_⟩
  have hbx : Boxed (w.alloc (.cells #[.slice A n c] 156)) w.heap.size 156 (.slice A n c) := World.alloc_heap_new w _
  refine (gaps1_in m hm l w.heap.size n c A L J Jx W hJ hY (Boxed.below hbx hW (by simp)) HN.out hn1 (own_below (own_below HO.out hb) hW) HR.out hJ0).mono ?_
  rintro e Y ⟨hv, hj | hj⟩
  · exact ⟨hv, .inl ⟨_, rfl, hj⟩⟩
  · exact ⟨hv, .inr hj⟩
theorem loadv_sl {w : World} {g : Nat} {A : Option Addr} {n c : Nat} (h : Boxed w g 32 (.slice A n c)) : (loadVar 32 ⟨g, 0, none⟩).run Try.prog w = .ok (.slice A n c) w := by
  have hagg : (isAgg 32).run Try.prog w = .ok false w := by
    unfold isAgg
    rw [Sem.run_bind, run_underlying Try.underlying32 w]; rfl
  have hc := h.cell
  simp [loadVar, Sem.run_bind, hagg, hc]
theorem cells2 {fn : Func} {p q : Tmp} {tmps : Array Value} {w : World} {g : Nat} {A : Option Addr} {n c : Nat} {z : Value} (h : fn.results = #[.cell p 32, .cell q 4])
    (hp : tmps.getD p undef = .pointer (some ⟨g, 0, none⟩)) (hq : tmps.getD q undef = .pointer (some ⟨g + 1, 0, none⟩))
    (h0 : Boxed w g 32 (.slice A n c)) (h1 : Boxed w (g + 1) 4 z) :
    (results fn tmps).run Try.prog w = .ok (.tuple #[.slice A n c, z]) w := by
  have hp' : tmps[p]?.getD undef = .pointer (some ⟨g, 0, none⟩) := by simpa using hp
  have hq' : tmps[q]?.getD undef = .pointer (some ⟨g + 1, 0, none⟩) := by simpa using hq
  simp [results, h, hp', hq', asAddr, loadv_sl h0, loadv_bool h1]
theorem made_nil {w w' : World} (h : Below w.heap.size w w') : Made w w' (.slice none 0 0) [] := Made.of_own (World.ownsRow_nil _ _ _ _) h
/-- Two results in blocks of their own. -/
structure Bx2 (W : World) (u : Nat) (A : Option Addr) (n c : Nat) (z : Bool) : Prop where
  one : Boxed W u 32 (.slice A n c)
  two : Boxed W (u + 1) 4 (.bool z)
theorem Bx2.first (w : World) : Bx2 ((w.alloc (.cells #[.slice none 0 0] 32)).alloc (.cells #[.bool false] 4)) w.heap.size none 0 0 false := by
  have s1 : (w.alloc (.cells #[.slice none 0 0] 32)).heap.size = w.heap.size + 1 := by simp
  refine ⟨(Boxed.new w 32 (.slice none 0 0)).alloc _, ?_⟩
  have := Boxed.new (w.alloc (.cells #[.slice none 0 0] 32)) 4 (.bool false)
  rwa [s1] at this
theorem Bx2.below {W V : World} {u n c B : Nat} {A : Option Addr} {z : Bool} (h : Bx2 W u A n c z) (hb : Below B W V) (hn : u + 1 < B) : Bx2 V u A n c z := ⟨Boxed.below h.one hb (by omega), Boxed.below h.two hb hn⟩
theorem Bx2.kept {W V : World} {u n c B : Nat} {A : Option Addr} {z : Bool} {r : Option Nat} (h : Bx2 W u A n c z) (hg : W.grownBy V r) (hr : ∀ k, r = some k → B ≤ k ∧ ∃ o : Obj, W.heap[k]? = some o ∧ o.isCells = false) : Bx2 V u A n c z :=
  ⟨box_keep h.one hg hr, box_keep h.two hg hr⟩
theorem Bx2.set {W : World} {u n c n' c' : Nat} {A A' : Option Addr} {z : Bool} (h : Bx2 W u A n c z) (z' : Bool) : Bx2 ((W.setCell ⟨u, 0, none⟩ (.slice A' n' c')).setCell ⟨u + 1, 0, none⟩ (.bool z')) u A' n' c' z' :=
  ⟨(Boxed.set _ h.one).other (by omega) _, Boxed.set _ (h.two.other (by omega) _)⟩
theorem hcdone_nil (w : World) : Calls Try.prog 53 #[.pointer none] w fun e w' => e = .returned (.tuple #[.slice none 0 0, .bool false]) ∧ Below w.heap.size w w' := by
  have hb := ((Below.refl w.heap.size w).alloc (Nat.le_refl _) (.cells #[.slice none 0 0] 32)).alloc (by simp) (.cells #[.bool false] 4)
  have hx := Bx2.first w
  go_enter Try.func53, Try.ntmps53
  go_wp2_with (go_at_call 87; refine (hcmade_nil _).mono ?_; rintro e w1 ⟨rfl, h1⟩; obtain rfl := h1.symm)
  exact bodyPost_ret (cells2 rfl rfl rfl hx.one hx.two) rfl ⟨rfl, hb⟩
set_option maxRecDepth 100000 in
theorem hcdone_open (g : Nat) (A : Option Addr) (c : Nat) (L : List XP) (w : World) (h : Hx w g A c L) (he : endedP (piE L) = false) :
    Calls Try.prog 53 #[.pointer (some ⟨g, 0, none⟩)] w fun e w' => e = .returned (.tuple #[.slice none 0 0, .bool false]) ∧ Below w.heap.size w w' := by
  have hb := ((Below.refl w.heap.size w).alloc (Nat.le_refl _) (.cells #[.slice none 0 0] 32)).alloc (by simp) (.cells #[.bool false] 4)
  have hx := Bx2.first w
  have hV := h.view.below hb
  have hm := hV.made
  have hen := hV.ended
  rw [he] at hen
  clear h hV he
  go_enter Try.func53, Try.ntmps53
  go_wp2_with (go_at_call 87; refine (hcmade1 g _ hm).mono ?_; rintro e w1 ⟨rfl, rfl⟩)
  exact bodyPost_ret (cells2 rfl rfl rfl hx.one hx.two) rfl ⟨rfl, hb⟩
theorem own_putD {w : World} {b e s n D : Nat} {v : Value} {xs : List Value} (h : w.ownsRow b e s v n xs) (hD : w.heap[D]? = some (.deferred (some []))) (o : Obj) : (w.putObj D o).ownsRow b e s v n xs := by
  refine h.kept (grownBy_putObj' w D o) ?_
  rcases h.2 with ⟨rfl, _⟩ | ⟨g, cap, cur, rfl, _, hg, _⟩
  · exact .inl rfl
  · refine .inr fun e1 => ?_
    have e2 : g = D := by simpa [Value.ownBlock] using e1
    rw [e2, hD] at hg
    cases hg
theorem own_baseL {w : World} {b b' e s n : Nat} {v : Value} {xs : List Value} (h : w.ownsRow b e s v n xs) (hb : b' ≤ b) : w.ownsRow b' e s v n xs := by
  refine ⟨h.1, ?_⟩
  rcases h.2 with hn | ⟨g, cap, cur, hv, hb', rest⟩
  · exact .inl hn
  · exact .inr ⟨g, cap, cur, hv, Nat.le_trans hb hb', rest⟩
set_option maxRecDepth 100000 in
set_option maxHeartbeats 4000000 in
theorem hcdone_end (g : Nat) (A : Option Addr) (c : Nat) (L : List XP) (w : World) (h : Hx w g A c L) (he : endedP (piE L) = true) :
    Calls Try.prog 53 #[.pointer (some ⟨g, 0, none⟩)] w fun e w' => ∃ v, e = .returned (.tuple #[v, .bool (decide (gapsS 0 (piE L) = []))]) ∧ Made w w' v (if gapsS 0 (piE L) = [] then catP (piE L) else []) := by
  generalize hCC : (if gapsS 0 (piE L) = [] then catP (piE L) else []) = CC
  generalize hBB : decide (gapsS 0 (piE L) = []) = BB
  have HCC := Lib.hid hCC
  have HBB := Lib.hid hBB
  clear hCC hBB
  obtain ⟨W, hW⟩ : ∃ W, W = (w.alloc (.cells #[.slice none 0 0] 32)).alloc (.cells #[.bool false] 4) := ⟨_, rfl⟩
  have hb : Below w.heap.size w W := by rw [hW]; exact ((Below.refl w.heap.size w).alloc (Nat.le_refl _) (.cells #[.slice none 0 0] 32)).alloc (by simp) (.cells #[.bool false] 4)
  have hx : Bx2 W w.heap.size none 0 0 false := by rw [hW]; exact Bx2.first w
  have hzW : W.heap.size = w.heap.size + 2 := by rw [hW]; simp
  have HX := Lib.hid (h.below hb)
  have hm := HX.out.view.made
  have hen := HX.out.view.ended
  rw [he] at hen
  have hps := HX.out.view.parts
  have hfa := HX.out.view.far
  obtain ⟨n, hn⟩ : ∃ n, n = L.length := ⟨_, rfl⟩
  have HN := Lib.hid hn
  have hn1 : n ≤ 100000 := by rw [hn]; exact h.n
  rw [← hn] at hps
  have HO : Hid (W.ownsRow 0 158 3 (.slice A n c) n (L.flatMap clP)) := Lib.hid (by rw [hn]; exact HX.out.own)
  have HZ := Lib.hid hzW
  have HX0 := Lib.hid h
  clear h he hn hzW
  refine (callsIn_wide (n := 4)).1 ?_
  refine callsIn_of_wp_marks Try.func53 rfl trivial ?_ rfl
  simp only [Try.ntmps53, List.size_toArray, List.length_cons, List.length_nil, Nat.reduceAdd, Nat.reduceSub, Array.replicate_succ, Array.replicate_zero, List.push_toArray, List.append_toArray, List.nil_append, List.cons_append]
  subst hW
  gi_wp2_with (first
    | (refine ⟨trivial, ?_⟩; gi_at_call 96; refine (callsIn_wide.2 (hcgapsf A n c L _ HN.out hn1 HO.out HX.out.ris)).mono ?_; rintro e w1 ⟨rfl, x1, hseq⟩)
    | (refine ⟨trivial, ?_⟩; gi_at_call 87; refine (callsIn_wide.2 (hcmade1 g _ hm)).mono ?_; rintro e w1 ⟨rfl, rfl⟩))
  rw [HZ.out] at hseq
  generalize (w.alloc (.cells #[.slice none 0 0] 32)).alloc (.cells #[.bool false] 4) = W at *
  have hz1 := x1.size
  have hx1 := hx.below x1 (by have := HZ.out; omega)
  have hB1 : Below w.heap.size w w1 := hb.trans (x1.mono hb.size)
  have hz2 : w.heap.size + 1 < w1.heap.size := by have := HZ.out; omega
  clear hx hm hen hps hfa hb HX HO
  refine range_told (by omega) (gf := 126) (lb := #[.pointer (some ⟨w.heap.size + 1 + 1, 0, none⟩)]) rfl (enters_of Try.func126 (by kernel_rfl) rfl)
    (hseq (4 - 1) (by omega)) KeepS.trans (fun V l r r' hl hr => KeepS.loop hr) (Below.refl _ _) (fun _ => rfl)
    (fun pre x V l r r' h _ hl => h)
    (fun pre X => pre = [] ∧ Bx2 X w.heap.size none 0 0 false ∧ Below w.heap.size w X)
    (fun cd pre X => cd = .ret ∧ pre ≠ [] ∧ Bx2 X w.heap.size none 0 0 false ∧ Below w.heap.size w X)
    (fun pre X Y r hs hg hr => ⟨hs.1, hs.2.1.kept hg hr, below_keep hs.2.2 hg hr (by omega) (Nat.le_refl _)⟩)
    (fun cd pre X Y r hs hg hr => ⟨hs.1, hs.2.1, hs.2.2.1.kept hg hr, below_keep hs.2.2.2 hg hr (by omega) (Nat.le_refl _)⟩)
    ⟨rfl, hx1, hB1⟩
    (fun x => { tmps := #[.pointer (some ⟨g, 0, none⟩), undef, .pointer (some ⟨w.heap.size, 0, none⟩), .pointer (some ⟨w.heap.size + 1, 0, none⟩), undef, undef, undef, .pointer (some ⟨g, 0, none⟩), .bool true, .bool false, .bool false, .pointer (some ⟨g, 0, none⟩), .pointer (some ⟨g, 0, none⟩), .pointer (some ⟨g, 4, none⟩), .bool true, .bool false, .bool false, .pointer (some ⟨g, 0, none⟩), .pointer (some ⟨g, 0, none⟩), .pointer (some ⟨g, 1, none⟩), .slice A n c, .func (.func 126) #[] #[.pointer (some ⟨w.heap.size + 1 + 1, 0, none⟩)], .int .i64 x.1, .int .i64 x.2, undef, undef, undef, undef, undef, undef, undef, undef, undef, undef, undef, undef, undef, undef, undef, undef, undef, undef, undef, undef], defers := [] }) ?assign ?body ?done ?stop
  case assign =>
    intro l x X K hK
    dsimp only [encG]
    gi_wp2
    exact hK
  case body =>
    rintro l pre x X ⟨rfl, hX2, hBX⟩ _
    have c1 := Boxed.cell hX2.one; have f1 := Boxed.frozen hX2.one
    have t2 := Boxed.other hX2.two (B' := w.heap.size) (by omega) (.slice none 0 0)
    have c2 := Boxed.cell t2; have f2 := Boxed.frozen t2
    gi_wp2
    exact ⟨((KeepsOthers.setCell _ _ _).from _).trans ((KeepsOthers.setCell _ _ _).from _), rfl, by simp, hX2.set false, (hBX.setCell (p := ⟨w.heap.size, 0, none⟩) (by simp) _).setCell (p := ⟨w.heap.size + 1, 0, none⟩) (by simp) _⟩
  case stop =>
    rintro D cd pre X hD ⟨more, hmore⟩ ⟨rfl, hpre, h3X, hBX⟩ hK
    have hne : ¬ gapsS 0 (piE L) = [] := fun e => by rw [e] at hmore; exact hpre (List.append_eq_nil_iff.1 hmore.symm).1
    have HNE := Lib.hid hne
    clear hne hmore hpre
    gi_wp2
    have hm1 : Marks w1.heap.size X.heap.size [{ target := .collected D, args := #[] }] X := (Marks.push (hi := D) (ds := []) trivial (Nat.le_refl _) hD hK).more (heap_lt hK)
    refine leaves_marks w1.heap.size (fun Y => Bx2 Y w.heap.size none 0 0 false ∧ Below w.heap.size w Y) (fun Y D hY h1 h2 => ⟨hY.1.kept (B := w1.heap.size) (grownBy_putObj' Y D _) (fun k e => by cases e; exact ⟨h1, _, h2, rfl⟩), hY.2.trans (belowK_b (w := w) (Nat.le_refl _) Y D _ _ (by omega) h2 rfl rfl)⟩)
      (fun Y hY => ⟨_, cells2 rfl rfl rfl hY.1.one hY.1.two, ?_⟩) _ _ X hm1 ⟨h3X, hBX⟩
    rw [← HCC.out, if_neg HNE.out, ← HBB.out, decide_eq_false HNE.out]
    exact ⟨_, rfl, made_nil hY.2⟩
  case done =>
    rintro D xs X hD hS ⟨hno, h3X, hBX⟩ hK
    have hnil : gapsS 0 (piE L) = [] := by rw [← hS, hno]
    have HNIL := Lib.hid hnil
    clear hnil hS hno
    have hH := HX0.out.below hBX
    have hps := hH.view.parts
    have hfa := hH.view.far
    obtain ⟨m, hm⟩ : ∃ m : Nat, farP (piE L) = (m : Int) := ⟨(farP (piE L)).toNat, by have := far_nn (piE L); omega⟩
    have hmb : m ≤ 65535 := by
      have : farP (piE L) ≤ 65535 := farP_le _ (by omega) (fun x hx => (HX0.out.ris.ok x hx).2)
      omega
    rw [hm] at hfa
    rw [← HN.out] at hps
    have HCB : Hid (∀ k, (catP ((piE L).take k)).length ≤ 65535) := Lib.hid (fun k => by
      have h1 := (bytes_gaps HX0.out.ris (up0 HX0.out.ris)).1
      rw [last0 HX0.out.ris] at h1
      have h2 := catP_length (piE L)
      have h3 : catP (piE L) = catP ((piE L).take k) ++ catP ((piE L).drop k) := by rw [catP, catP, catP, ← List.flatMap_append, List.take_append_drop]
      have h4 : (catP ((piE L).take k)).length ≤ (catP (piE L)).length := by rw [h3, List.length_append]; omega
      omega)
    have hm1 : Marks w1.heap.size X.heap.size [{ target := .collected D, args := #[] }] X := (Marks.push (hi := D) (ds := []) trivial (Nat.le_refl _) hD hK).more (heap_lt hK)
    clear hm
    gi_upto_region 5 with fail
    refine wpIn_wide.2 ?_
    obtain ⟨i0, hi, hz0, hz1', hz2'⟩ := info_parts info_u8
    have hmk : (Instr.makeSlice 32 (.int .i64 0) (.int .i64 (m : Int))).run Try.prog X = .ok (.slice (some ⟨X.heap.size, 0, none⟩) 0 m) (X.alloc (.cells (Go.madeCells (Value.int .u8 0).cells (m * 1)) 5)) := by
      have := run_makeSlice (P := Try.prog) X 32 5 i0 (.int .u8 0) Try.underlying32 hi hz0 .i64 .i64 0 (m : Int) (by omega) (by omega) (by rw [hz1']; simp; omega) (by rw [hz2']; omega) (by omega)
      rw [hz1'] at this
      simpa using this
    have hmsz : (Go.madeCells (Value.int .u8 0).cells (m * 1)).size = m * 1 := by simp [Go.madeCells]
    have own0 : (X.alloc (.cells (Go.madeCells (Value.int .u8 0).cells (m * 1)) 5)).ownsRow X.heap.size 5 1 (.slice (some ⟨X.heap.size, 0, none⟩) 0 m) 0 [] := World.ownsRow_made X _ m (Nat.le_refl _) (by unfold maxLen; omega) hmsz
    have bX0 : Below X.heap.size X (X.alloc (.cells (Go.madeCells (Value.int .u8 0).cells (m * 1)) 5)) := (Below.refl _ X).alloc (Nat.le_refl _) _
    clear hi hz0 hz1' hz2' hmsz
    generalize Go.madeCells (Value.int .u8 0).cells (m * 1) = MC at *
    go_wp2
    refine wpIn_wide.2 ?_
    have hgX : g < X.heap.size := heap_lt hH.obj
    have hps' := (bX0.cell (p := ⟨g, 1, none⟩) hgX).trans hps
    clear hps hfa hmk
    generalize X.alloc (.cells MC 5) = X0 at *
    go_wp2
    go_loopw [4, 34] (fun s4 i wr => ∃ (k : Nat) (P : Option Addr) (p : Nat) (C : List UInt8), k ≤ n ∧ i = .int .i64 (k : Int) ∧ s4 = .slice P C.length p ∧ C.length ≤ 65535 ∧ Hid (C = catP ((piE L).take k)) ∧ wr.ownsRow X.heap.size 5 1 (.slice P C.length p) C.length (row C) ∧ Below X.heap.size X wr)
      (fun _ i _ => n - (intOf i).toNat)
    case atStart => exact ⟨0, _, m, [], Nat.zero_le _, rfl, rfl, Nat.zero_le _, Lib.hid rfl, own0, bX0⟩
    case round =>
      obtain ⟨k, P, p, C, hk, rfl, rfl, hCl, HC, ownC, hbel⟩ := hrel
      by_cases hlt : k < n
      · obtain ⟨x, hx⟩ : ∃ x, L[k]? = some x := ⟨_, List.getElem?_eq_getElem (by rw [← HN.out]; exact hlt)⟩
        have hHr := hH.below hbel
        have hArg := Lib.hid (hHr.view.arg x (List.mem_of_getElem? hx))
        obtain ⟨b1, o1, e0, hb1, hrow⟩ := row_of hHr.view.rd hx
        subst e0
        have HC2 : Hid (C ++ x.p.b = catP ((piE L).take (k + 1))) := Lib.hid (by
          have hxp : (piE L)[k]? = some x.p := by rw [piE, List.getElem?_map, hx]; rfl
          have hkl := (List.getElem?_eq_some_iff.1 hxp).1
          rw [List.getElem?_eq_getElem hkl] at hxp
          rw [HC.out, List.take_succ_eq_append_getElem hkl, Option.some.inj hxp, catP, catP, List.flatMap_append]
          simp)
        have hcl2 : C.length + x.p.b.length ≤ 65535 := by
          have := HCB.out (k + 1)
          rw [← HC2.out, List.length_append] at this
          exact this
        obtain ⟨V, hV⟩ : ∃ V, V = wr.alloc (.cells (clP x).toArray 158) := ⟨_, rfl⟩
        have HV := Lib.hid hV
        have bV : Below wr.heap.size wr V := by rw [hV]; exact (Below.refl _ wr).alloc (Nat.le_refl _) _
        have hbV : V.heap[wr.heap.size]? = some (.cells (clP x).toArray 158 (0, 0)) := by rw [hV]; exact World.alloc_heap_new wr _
        have kx2 : V.cell? ⟨wr.heap.size, 2, none⟩ = some (.slice x.A x.p.b.length x.c) := cells_at (i := 2) hbV rfl
        have ownV := own_below ownC bV
        have hzV := bV.size
        have hzr := hbel.size
        clear hV hx hHr
        go_wp2_with (first
          | (at_builtin; refine append_rd rfl _ _ rfl X.heap.size (.slice P C.length p) C.length (row C) rfl ownV wr.heap.size x.A x.c x.p.b rfl hArg.out.none_ (hArg.out.rd.below bV) (by omega) (by omega) ?_; intro v7 w7 own7 grow7; have b7 := (hbel.trans (bV.mono hzr)).grown grow7 (by omega) (fun k hk => own_block_ge ownV k hk); obtain ⟨P7, p7, rfl, o7⟩ := own_made (bs := C ++ x.p.b) own7 (List.length_append).symm (row_append _ _).symm; have O7 := Lib.hid o7; clear own7 o7)
          | ((with_reducible show wpList _ _ _ (Oper.mk _ (Op.load 158 _) _ _ _ _ :: _) _ _); refine wpList_val rfl (run_load_hp rfl rfl hrow rfl) ?_)
          | ((with_reducible show wpList _ _ _ (Oper.mk _ (Op.store 158 _ _) _ _ _ _ :: _) _ _); refine hp_store_new (cs := (clP x).toArray) rfl rfl rfl rfl (clP_one x) ?_; rw [← HV.out]))
        go_roundw
        case rel => exact ⟨k + 1, P7, p7, C ++ x.p.b, by omega, by simp, by rw [List.length_append], by rw [List.length_append]; exact hcl2, HC2, O7.out, b7⟩
        case measure => simp [intOf]; omega
      · obtain rfl : n = k := by omega
        have hzz : w.heap.size + 1 < X.heap.size := Nat.lt_of_lt_of_le hz2 (Nat.le_of_lt (Nat.lt_of_le_of_lt hD (heap_lt hK)))
        have hxr := h3X.below hbel hzz
        have c1 := Boxed.cell hxr.one; have f1 := Boxed.frozen hxr.one
        have t2 := Boxed.other hxr.two (B' := w.heap.size) (by omega) (.slice P C.length p)
        have c2 := Boxed.cell t2; have f2 := Boxed.frozen t2
        have hxs := hxr.set (A' := P) (n' := C.length) (c' := p) true
        have bwr := hBX.trans (hbel.mono hBX.size)
        have bws := (bwr.setCell (p := ⟨w.heap.size, 0, none⟩) (by simp) (.slice P C.length p)).setCell (p := ⟨w.heap.size + 1, 0, none⟩) (by simp) (.bool true)
        have owns := own_setCell (own_setCell ownC (p := ⟨w.heap.size, 0, none⟩) (u := .slice P C.length p) (by show w.heap.size < _; omega)) (p := ⟨w.heap.size + 1, 0, none⟩) (u := .bool true) (by show w.heap.size + 1 < _; omega)
        have hmr : Marks w1.heap.size X.heap.size [{ target := .collected D, args := #[] }] ((wr.setCell ⟨w.heap.size, 0, none⟩ (.slice P C.length p)).setCell ⟨w.heap.size + 1, 0, none⟩ (.bool true)) :=
          hm1.keep (fun k h1 h2 => (Below.heap_setCell _ _ _ _ (by simp; omega)).trans ((Below.heap_setCell _ _ _ _ (by simp; omega)).trans (hbel.block k h2)))
        have HC' : Hid (C = catP (piE L)) := Lib.hid (by rw [HC.out, List.take_of_length_le (by rw [piE, List.length_map, ← HN.out]; exact Nat.le_refl _)])
        have hwX : w.heap.size ≤ X.heap.size := by omega
        go_wp2
        refine leaves_marks w1.heap.size (fun Y => Bx2 Y w.heap.size P C.length p true ∧ Y.ownsRow X.heap.size 5 1 (.slice P C.length p) C.length (row C) ∧ Below w.heap.size w Y)
          (fun Y D hY h1 h2 => ⟨hY.1.kept (B := w1.heap.size) (grownBy_putObj' Y D _) (fun k e => by cases e; exact ⟨h1, _, h2, rfl⟩), own_putD hY.2.1 h2 _, hY.2.2.trans (belowK_b (w := w) (Nat.le_refl _) Y D _ _ (by omega) h2 rfl rfl)⟩)
          (fun Y hY => ⟨_, cells2 rfl rfl rfl hY.1.one hY.1.two, ?_⟩) _ _ _ hmr ⟨hxs, owns, bws⟩
        rw [← HCC.out, if_pos HNIL.out, ← HBB.out, decide_eq_true HNIL.out, ← HC'.out]
        exact ⟨_, rfl, Made.of_own (own_baseL hY.2.1 hwX) hY.2.2⟩
end Go.Proofs.Ythdaclbgandmcaa

/-
  awake of layer 15. Conditions are each theorem's own.
-/
namespace Go.Proofs.Ythdaclbgandmcaa
open Go.RowKit Go.Shelf
theorem conv_bb (w : World) (C : Array Value) (n c : Nat) : (convert 32 32 (.slice (some ⟨w.heap.size, 0, none⟩) n c)).run Try.prog (w.alloc (.cells C 5)) = .ok (.slice (some ⟨w.heap.size, 0, none⟩) n c) (w.alloc (.cells C 5 (C.size, C.size + 1))) :=
  Lib.run_convert_bytes_const w 32 5 C n c Try.underlying32 Try.underlying5
theorem lit_arg (w : World) (cs : Array Value) (fr : Nat × Nat) (bs : List UInt8) (h : cs = (row bs).toArray) : Arg (w.alloc (.cells cs 5 fr)) (w.alloc (.cells cs 5 fr)).heap.size (some ⟨w.heap.size, 0, none⟩) bs.length bs := by
  subst h
  refine ⟨fun _ => ⟨w.heap.size, 0, rfl, by simp, fun j hj => ?_⟩, Nat.le_refl _, fun e => by cases e⟩
  rw [Nat.zero_add]
  exact cells_at (World.alloc_heap_new w _) (by rw [List.getElem?_toArray]; exact row_get bs hj)
theorem Hx.alloc {w : World} {g : Nat} {A : Option Addr} {c : Nat} {L : List XP} (h : Hx w g A c L) (o : Obj) : Hx (w.alloc o) g A c L := h.below ((Below.refl _ w).alloc (Nat.le_refl _) o)
/-- What Holes own lies from block B0 on. -/
def Own0 (B0 g : Nat) (v : Value) : Prop := B0 ≤ g ∧ ∀ k, v.ownBlock = some k → B0 ≤ k
theorem Own0.kept {B0 g : Nat} {v : Value} {w0 w w' : World} (h : Own0 B0 g v) (hb : Below B0 w0 w) (hB : B0 ≤ w.heap.size) (k : Kept (fun k => k = g ∨ v.ownBlock = some k) w w') : Below B0 w0 w' :=
  hb.trans (k.below hB (fun i hi => by rcases hi with rfl | hi; exact h.1; exact h.2 i hi))
theorem Own0.next {B0 g : Nat} {v v' : Value} {w : World} (h : Own0 B0 g v) (hB : B0 ≤ w.heap.size) (ho : ∀ k, v'.ownBlock = some k → v.ownBlock = some k ∨ w.heap.size ≤ k) : Own0 B0 g v' :=
  ⟨h.1, fun k hk => by rcases ho k hk with h1 | h1; exact h.2 k h1; omega⟩
theorem hcdone (g : Nat) (A : Option Addr) (c : Nat) (L : List XP) (w : World) (h : Hx w g A c L) :
    Calls Try.prog 53 #[.pointer (some ⟨g, 0, none⟩)] w fun e w' => ∃ v, e = .returned (.tuple #[v, .bool (endedP (piE L) && decide (gapsS 0 (piE L) = []))]) ∧ Made w w' v (if endedP (piE L) && decide (gapsS 0 (piE L) = []) then catP (piE L) else []) := by
  cases he : endedP (piE L) with
  | true =>
    refine (hcdone_end g A c L w h he).mono ?_
    rintro e w' ⟨v, rfl, hm⟩
    refine ⟨v, by rw [Bool.true_and], ?_⟩
    simpa using hm
  | false =>
    refine (hcdone_open g A c L w h he).mono ?_
    rintro e w' ⟨rfl, hb⟩
    exact ⟨_, rfl, made_nil hb⟩
end Go.Proofs.Ythdaclbgandmcaa

/-
  What no call made, of layer 15; Clone of parts, Gaps. Conditions are each theorem's own.
-/
namespace Go.Proofs.Ythdaclbgandmcaa
open Go.RowKit Go.Shelf
theorem cell1b {fn : Func} {p : Tmp} {tmps : Array Value} {w : World} {g : Nat} {z : Value} (h : fn.results = #[.cell p 4]) (hp : tmps.getD p undef = .pointer (some ⟨g, 0, none⟩)) (h0 : Boxed w g 4 z) :
    (results fn tmps).run Try.prog w = .ok z w := by
  have hp' : tmps[p]?.getD undef = .pointer (some ⟨g, 0, none⟩) := by simpa using hp
  simp [results, h, hp', asAddr, loadv_bool h0]
theorem hcadd_nil (a : Int) (m : Bool) (v : Value) (w : World) : Calls Try.prog 51 #[.pointer none, .int .i64 a, .bool m, v] w fun e w' => e = .returned (.int .i64 2) ∧ w = w' := by
  go_enter Try.func51, Try.ntmps51
  go_wp2_with (go_at_call 87; refine (hcmade_nil _).mono ?_; rintro e w1 ⟨rfl, h1⟩; obtain rfl := h1.symm)
  go_ret
  exact ⟨rfl, rfl⟩
theorem hcbytes_nil (w : World) : Calls Try.prog 83 #[.pointer none] w fun e w' => e = .returned (.int .i64 0) ∧ w = w' := by
  go_enter Try.func83, Try.ntmps83
  go_wp2_with (go_at_call 87; refine (hcmade_nil _).mono ?_; rintro e w1 ⟨rfl, h1⟩; obtain rfl := h1.symm)
  go_ret
  exact ⟨rfl, rfl⟩
theorem hcroom_nil (a : Int) (v : Value) (w : World) : Calls Try.prog 50 #[.pointer none, .int .i64 a, v] w fun e w' => e = .returned (.int .i64 0) ∧ w = w' := by
  go_enter Try.func50, Try.ntmps50
  go_wp2_with (go_at_call 87; refine (hcmade_nil _).mono ?_; rintro e w1 ⟨rfl, h1⟩; obtain rfl := h1.symm)
  go_ret
  exact ⟨rfl, rfl⟩
set_option maxRecDepth 100000 in
/-- append onto a row of parts of the call's own, of a source that reads as parts. -/
theorem append_hps {w : World} {ops : Array Oper} {rest : List Oper} {o : Oper} {a : Act} {Q : Exit → Act → World → Prop} (hgd : o.guard = none) (s x : Operand)
    (ho : o.op = .call { callee := .builtin .append, args := #[s, x], argTypes := #[156, 156] })
    (base : Nat) (v : Value) (n : Nat) (xs : List Value) (hs : a.eval s = v) (hown : w.ownsRow base 158 3 v n xs)
    (B : Nat) (ad : Addr) (m c : Nat) (l : List XP) (hx : a.eval x = .slice (some ad) m c) (hm : m = l.length) (hr : RdS clP 3 w B (some ad) l)
    (hlen : n + m ≤ 1000000) (hbase : base ≤ w.heap.size)
    (h : ∀ v' w', w'.ownsRow base 158 3 v' (n + m) (xs ++ l.flatMap clP) → w.grownBy w' v.ownBlock → wpList Try.prog ops Q rest (a.put o.dst v') w') : wpList Try.prog ops Q (o :: rest) a w := by
  obtain ⟨i0, hi, hz0, hz1, hz2⟩ := info_parts info_hp
  subst hm
  refine wpList_append_own w hgd s x 156 ho base 158 i0 (.agg #[.int .i64 0, .bool false, .slice none 0 0]) 3 40 Try.underlying156 hi hz0 hz1 hz2 rfl (by decide) v n xs hs hown ad l.length c (l.flatMap clP) hx
    (flat3 l) (fun j u hj => ?_) (fun u hu => ?_) (by unfold maxLen; omega) (by omega) hbase (fun v' w' h1 h2 _ => h v' w' h1 h2)
  · have hj3 : j < l.length * 3 := by have := (List.getElem?_eq_some_iff.1 hj).1; rwa [flat3] at this
    obtain ⟨b, off, e, _, hc⟩ := hr (by omega)
    injection e with e
    subst e
    have hk : j / 3 < l.length := by omega
    obtain ⟨y, hy⟩ : ∃ y, l[j / 3]? = some y := ⟨_, List.getElem?_eq_getElem hk⟩
    have hlt : j % 3 < (clP y).length := by show j % 3 < 3; omega
    have hv : (clP y)[j % 3]? = some (clP y)[j % 3] := List.getElem?_eq_getElem hlt
    have h1 := flat_at l (fun _ _ => rfl) (sz := 3) (j / 3) y hy (j % 3) _ hv
    rw [show j / 3 * 3 + j % 3 = j by omega, hj] at h1
    have h2 := hc (j / 3) y hy (j % 3) _ hv
    rw [add_off, show off + j = off + j / 3 * 3 + j % 3 by omega, h2]
    exact h1.symm
  · obtain ⟨y, _, hy⟩ := List.mem_flatMap.1 hu
    exact clP_ones y u hy
end Go.Proofs.Ythdaclbgandmcaa
