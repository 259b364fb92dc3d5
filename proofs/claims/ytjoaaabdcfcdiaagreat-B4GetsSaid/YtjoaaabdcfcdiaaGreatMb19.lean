/-
  Contracts and lemmas on which the proofs of this seat stand (several texts in one). Conditions are each theorem's own.
-/
import Derived.Test.YtjoaaabdcfcdiaaGreatMb18
import Derived.Laws.AppendOwn
namespace Go.Proofs.YtjoaaabdcfcdiaaGreat
open Go.RowKit
structure YB where
  A : Option Addr
  c : Nat
  b : List UInt8
def clY (y : YB) : List Value := [.slice y.A y.b.length y.c]
def Own1 (W : World) (base : Nat) (y : YB) : Prop := W.ownsRow base 5 1 (.slice y.A y.b.length y.c) y.b.length (row y.b)
def RowY (W : World) (base : Nat) (v : Value) (l : List YB) : Prop := W.ownsRow base 22 1 v l.length (l.flatMap clY) ∧ ∀ y ∈ l, Own1 W base y
theorem RowY.base {V : World} {base b' : Nat} {v : Value} {l : List YB} (h : RowY V base v l) (hb : b' ≤ base) : RowY V b' v l := ⟨own_base h.1 hb, fun y hy => own_base (h.2 y hy) hb⟩
theorem own_beside {W W' : World} {b1 e1 s1 n1 b2 e2 s2 n2 : Nat} {v1 v2 : Value} {xs1 xs2 : List Value} (h1 : W.ownsRow b1 e1 s1 v1 n1 xs1) (h2 : W.ownsRow b2 e2 s2 v2 n2 xs2) (he : e1 ≠ e2) (hg : W.grownBy W' v2.ownBlock) : W'.ownsRow b1 e1 s1 v1 n1 xs1 := by
  refine h1.kept hg ?_
  rcases h1.2 with ⟨rfl, _⟩ | ⟨g1, cap1, cur1, rfl, _, hh1, _⟩
  · exact .inl rfl
  · refine .inr fun e => ?_
    rcases h2.2 with ⟨rfl, _⟩ | ⟨g2, cap2, cur2, rfl, _, hh2, _⟩
    · simp [Value.ownBlock] at e
    · have e' : g1 = g2 := by simpa [Value.ownBlock] using e
      subst e'
      rw [hh1] at hh2
      injection hh2 with hh2
      injection hh2 with _ e2 _
      exact he e2
theorem info_sb : (Tryz.prog.info? 22).map (fun i => (i.zero, i.size, i.bytes)) = some (some (.slice none 0 0), 1, 24) := by kernel_rfl
theorem run_bsY {o : Oper} {a : Act} {w : World} {x : Operand} {A : Option Addr} {n c : Nat} (ho : o.op = .buildSlice 34 1 #[(0, x)]) (hx : a.eval x = .slice A n c) :
    (execOp a.eval o).run Tryz.prog w = .ok (.value (.slice (some ⟨w.heap.size, 0, none⟩) 1 1)) (w.alloc (.cells #[.slice A n c] 22)) := by
  unfold execOp
  simp only [ho, List.map_toArray, List.map_cons, List.map_nil, hx]
  go_simp
theorem append_by {w : World} {ops : Array Oper} {rest : List Oper} {o : Oper} {a : Act} {Q : Exit → Act → World → Prop} (hgd : o.guard = none) (s x : Operand)
    (ho : o.op = .call { callee := .builtin .append, args := #[s, x], argTypes := #[34, 34] })
    (base : Nat) (v : Value) (S : List YB) (hs : a.eval s = v) (hown : w.ownsRow base 22 1 v S.length (S.flatMap clY))
    (g : Nat) (y : YB) (hx : a.eval x = .slice (some ⟨g, 0, none⟩) 1 1) (hy : w.cell? ⟨g, 0, none⟩ = some (.slice y.A y.b.length y.c))
    (hlen : S.length ≤ 1000000) (hbase : base ≤ w.heap.size)
    (h : ∀ v' w', w'.ownsRow base 22 1 v' (S ++ [y]).length ((S ++ [y]).flatMap clY) → w.grownBy w' v.ownBlock → wpList Tryz.prog ops Q rest (a.put o.dst v') w') : wpList Tryz.prog ops Q (o :: rest) a w := by
  obtain ⟨i0, hi, hz0, hz1, hz2⟩ := info_parts info_sb
  refine wpList_append_own w hgd s x 34 ho base 22 i0 _ 1 24 Tryz.underlying34 hi hz0 hz1 hz2 rfl (by decide) v S.length (S.flatMap clY) hs hown ⟨g, 0, none⟩ 1 1 (clY y) hx
      rfl (fun j u hu => ?_) (fun u hu => by simp [clY] at hu; subst hu; rfl) (by unfold maxLen; omega) (by omega) hbase (fun v' w' h1 h2 _ => h v' w' ?_ h2)
  · have hj : j = 0 := by have := (List.getElem?_eq_some_iff.1 hu).1; simpa [clY] using this
    subst hj
    simp [clY] at hu
    subst hu
    rw [add_off]; exact hy
  · rw [List.length_append, List.flatMap_append]
    simpa using h1
theorem Row6.parts {V : World} {base : Nat} {v : Value} {l : List X6} (h : Row6 V base v l) {i : Nat} {y : X6} (hy : l[i]? = some y) : ∃ b o c, v = .slice (some ⟨b, o, none⟩) l.length c ∧ V.rangeAt b (o + i * 37) (cl6 y) ∧ b < V.heap.size := by
  obtain ⟨A, c, e, hl, hc⟩ := h.l6
  obtain ⟨b, o, e2, hb, hr⟩ := hl.rd (by have := (List.getElem?_eq_some_iff.1 hy).1; omega)
  exact ⟨b, o, c, by rw [e, e2], hr i y hy, hb⟩
set_option maxRecDepth 100000 in
set_option maxHeartbeats 4000000 in
theorem binto {B0 : Nat} {w : World} {x t bm k N : Nat} {m now id : Int} {S : List Bu} {T : List Bf} {L : List Int} (h : Bf4 B0 w x t bm k m now id N S T L) (q : P4) (A : Option Addr) (c : Nat) (A' : Option Addr) (c' : Nat) (hO0 : Arg w w.heap.size A c q.opt) (hD0 : Arg w w.heap.size A' c' q.dat)
    (ho : q.opt.length ≤ 1000000) (hd : q.dat.length ≤ 1000000) (h4 : chk4 q = 0) (hl : (bld4 q).length ≤ 65535) (hm : 1280 ≤ m ∧ m ≤ 65535) (hid : 0 ≤ id ∧ id < 4294967296) (P : P6) (hP : P = wrV ownQ aftQ 64 (bld4 q)) :
    Calls Tryz.prog 58 #[.pointer (some ⟨x, 0, none⟩), .agg (v4a q A c A' c')] w fun e w' => ∃ v l, Hid (e = .returned (.tuple #[v, .int .i64 0])) ∧ RowY w' w.heap.size v l ∧ Hid (l.map (·.b) = (cutB m id P).map bld6) ∧ Kept (fun i => i = x) w w' ∧ ∃ id', (0 ≤ id' ∧ id' < 4294967296) ∧ Bf4 B0 w' x t bm k m now id' N S T L := by
  have hb := (Below.refl _ w).alloc (Nat.le_refl _) (.cells (v4a q A c A' c') 46)
  have k0 := World.alloc_heap_new w (.cells (v4a q A c A' c') 46)
  have zg := heap_lt k0
  have hck : chk6 (wrP ownQ aftQ 64 (bld4 q)) = 0 := wr_chk (by decide) (by decide) hl
  have HP := Lib.hid hP
  have hPe : P = wrP ownQ aftQ 64 (bld4 q) := by rw [hP, wrV_ok hck]
  have HPK := Lib.hid hck
  have HPC : Hid (chk6 P = 0) := Lib.hid (by rw [hPe]; exact hck)
  have HPS : Hid (P.src.length = 16) := Lib.hid (by rw [hPe]; rfl)
  have HPD : Hid (P.dst.length = 16) := Lib.hid (by rw [hPe]; rfl)
  have h6 : ok6 P := ⟨HPS.out, HPD.out⟩
  have HPN : Hid (P.next = 4) := Lib.hid (by rw [hPe]; rfl)
  have HPL : Hid (P.dat.length ≤ 1000000) := Lib.hid (by rw [hPe]; show (bld4 q).length ≤ 1000000; omega)
  have HLEN : Hid (P.dat.length ≤ 65535) := Lib.hid (by rw [hPe]; exact hl)
  have HLB : Hid ((bld4 q).length ≤ 1000000) := Lib.hid (by omega)
  have HC := Lib.hid h4
  have HMM := Lib.hid hm
  have HII := Lib.hid hid
  have HX := Lib.hid (heap_lt h.obj)
  have hO : Arg (w.alloc (.cells (v4a q A c A' c') 46)) w.heap.size A c q.opt := hO0.below hb
  have hD : Arg (w.alloc (.cells (v4a q A c A' c') 46)) w.heap.size A' c' q.dat := hD0.below hb
  have HF := Lib.hid (h.below hb)
  clear h hck hP hPe hl h4 hm hid hO0 hD0
  go_enter Tryz.func58, Tryz.ntmps58
  go_upto_region 1 with fail
  generalize w.alloc (.cells (v4a q A c A' c') 46) = W at *
  have KO : Hid (∀ V, Below W.heap.size W V → V.rangeAt x 0 (row ownQ)) := Lib.hid (fun V hV => st_own (HF.out.below hV).rng)
  have KA : Hid (∀ V, Below W.heap.size W V → V.rangeAt x 16 (row aftQ)) := Lib.hid (fun V hV => st_aft (HF.out.below hV).rng)
  have KH : Hid (∀ V, Below W.heap.size W V → V.cell? ⟨x, 33, none⟩ = some (.int .i64 64)) := Lib.hid (fun V hV => (HF.out.below hV).cell 33 _ rfl)
  have KQ : Hid (∀ V, Below W.heap.size W V → At4 V w.heap.size q A c A' c') := Lib.hid (fun V hV => ofhE ((hV.block _ zg).trans k0))
  refine wp_region_held_drew (S := fun V => Below W.heap.size W V) (by kernel_rfl) (Below.refl _ W).drew (fun hS => ?_)
  have yZ := hS
  generalize W.drew = Z at *
  refine held_pure (i := 0) (oi := ⟨some 15, _, _, _, _, _⟩) rfl (by kernel_rfl) (by kernel_rfl) (by kernel_rfl) (fun _ _ _ h => h) (by rfl) (v := ?_) (fun w hSw => ?_) hS (fun hS => ?_)
  rotate_left
  · go_simp; try with_reducible rfl
  try go_frame
  refine held_pure (i := 1) (oi := ⟨some 16, _, _, _, _, _⟩) rfl (by kernel_rfl) (by kernel_rfl) (by kernel_rfl) (fun _ _ _ h => h) (by rfl) (v := ?_) (fun w hSw => ?_) hS (fun hS => ?_)
  rotate_left
  · go_simp; try with_reducible rfl
  try go_frame
  refine held_pure (i := 2) (oi := ⟨some 17, _, _, _, _, _⟩) rfl (by kernel_rfl) (by kernel_rfl) (by kernel_rfl) (fun _ _ _ h => h) (by rfl) (v := ?_) (fun w hSw => ?_) hS (fun hS => ?_)
  rotate_left
  · go_simp; try with_reducible rfl
  try go_frame
  refine held_pure (i := 3) (oi := ⟨some 18, _, _, _, _, _⟩) rfl (by kernel_rfl) (by kernel_rfl) (by kernel_rfl) (fun _ _ _ h => h) (by rfl) (v := ?_) (fun w hSw => ?_) hS (fun hS => ?_)
  rotate_left
  · go_simp; try with_reducible rfl
  try go_frame
  refine held_pure (i := 4) (oi := ⟨some 19, _, _, _, _, _⟩) rfl (by kernel_rfl) (by kernel_rfl) (by kernel_rfl) (fun _ _ _ h => h) (by rfl) (fun w hSw => run_load_six rfl rfl (KO.out w hSw) own_len) hS (fun hS => ?_)
  try go_frame
  refine held_pure (i := 5) (oi := ⟨some 20, _, _, _, _, _⟩) rfl (by kernel_rfl) (by kernel_rfl) (by kernel_rfl) (fun _ _ _ h => h) (by rfl) (v := ?_) (fun w hSw => ?_) hS (fun hS => ?_)
  rotate_left
  · go_simp; try with_reducible rfl
  try go_frame
  refine held_pure (i := 6) (oi := ⟨some 21, _, _, _, _, _⟩) rfl (by kernel_rfl) (by kernel_rfl) (by kernel_rfl) (fun _ _ _ h => h) (by rfl) (v := ?_) (fun w hSw => ?_) hS (fun hS => ?_)
  rotate_left
  · go_simp; try with_reducible rfl
  try go_frame
  refine held_pure (i := 7) (oi := ⟨some 22, _, _, _, _, _⟩) rfl (by kernel_rfl) (by kernel_rfl) (by kernel_rfl) (fun _ _ _ h => h) (by rfl) (v := ?_) (fun w hSw => ?_) hS (fun hS => ?_)
  rotate_left
  · go_simp; try with_reducible rfl
  try go_frame
  refine held_pure (i := 8) (oi := ⟨some 23, _, _, _, _, _⟩) rfl (by kernel_rfl) (by kernel_rfl) (by kernel_rfl) (fun _ _ _ h => h) (by rfl) (v := ?_) (fun w hSw => ?_) hS (fun hS => ?_)
  rotate_left
  · go_simp; try with_reducible rfl
  try go_frame
  refine held_pure (i := 9) (oi := ⟨some 24, _, _, _, _, _⟩) rfl (by kernel_rfl) (by kernel_rfl) (by kernel_rfl) (fun _ _ _ h => h) (by rfl) (fun w hSw => run_load_six rfl rfl (KA.out w hSw) aft_len) hS (fun hS => ?_)
  try go_frame
  refine held_pure (i := 10) (oi := ⟨some 25, _, _, _, _, _⟩) rfl (by kernel_rfl) (by kernel_rfl) (by kernel_rfl) (fun _ _ _ h => h) (by rfl) (v := ?_) (fun w hSw => ?_) hS (fun hS => ?_)
  rotate_left
  · go_simp; try with_reducible rfl
  try go_frame
  refine held_pure (i := 11) (oi := ⟨some 26, _, _, _, _, _⟩) rfl (by kernel_rfl) (by kernel_rfl) (by kernel_rfl) (fun _ _ _ h => h) (by rfl) (v := ?_) (fun w hSw => ?_) hS (fun hS => ?_)
  rotate_left
  · go_simp; try with_reducible rfl
  try go_frame
  refine held_pure (i := 12) (oi := ⟨some 27, _, _, _, _, _⟩) rfl (by kernel_rfl) (by kernel_rfl) (by kernel_rfl) (fun _ _ _ h => h) (by rfl) (v := ?_) (fun w hSw => ?_) hS (fun hS => ?_)
  rotate_left
  · go_simp; try with_reducible rfl
  try go_frame
  refine held_pure (i := 13) (oi := ⟨some 28, _, _, _, _, _⟩) rfl (by kernel_rfl) (by kernel_rfl) (by kernel_rfl) (fun _ _ _ h => h) (by rfl) (v := ?_) (fun w hSw => ?_) hS (fun hS => ?_)
  rotate_left
  · go_simp; try with_reducible rfl
  try go_frame
  refine held_pure (i := 14) (oi := ⟨some 29, _, _, _, _, _⟩) rfl (by kernel_rfl) (by kernel_rfl) (by kernel_rfl) (fun _ _ _ h => h) (by rfl) (fun w hSw => run_load_int rfl rfl (KH.out w hSw)) hS (fun hS => ?_)
  try go_frame
  refine held_pure (i := 15) (oi := ⟨some 30, _, _, _, _, _⟩) rfl (by kernel_rfl) (by kernel_rfl) (by kernel_rfl) (fun _ _ _ h => h) (by rfl) (fun w hSw => run_load_v4 rfl rfl (KQ.out w hSw) rfl) hS (fun hS => ?_)
  try go_frame
  refine wpAnyH_ready (rs := [16, 21]) (by kernel_rfl) (by simp) (AllReadyH.cons (o := ⟨some 31, _, _, _, _, _⟩) rfl (fun K hK => ?_) (AllReadyH.cons (o := ⟨some 6, _, _, _, _, _⟩) rfl (fun K hK => ?_) AllReadyH.nil))
  · rw [if_pos (by rfl)]
    go_simp
    refine (bbuilt q A c A' c' w.heap.size Z (hO.below (yZ.mono hb.size)) (hD.below (yZ.mono hb.size)) (Nat.le_trans hb.size yZ.size) ho hd HC.out).mono ?_
    rintro e Z ⟨P1, p1, rfl, m1⟩
    obtain ⟨_, _, e1, g1, o1, x1⟩ := made_shape m1
    cases e1
    try have kz := (x1.block gB (heap_lt kz)).trans kz
    have yZ := yZ.trans (x1.mono yZ.size)
    clear m1 o1 x1
    show K _ _
    refine hK.out _ _ yZ (fun hS => ?_)
    clear hK K
    try go_frame
    refine wpAnyH_ready (rs := [17, 21]) (by kernel_rfl) (by simp) (AllReadyH.cons (o := ⟨some 32, _, _, _, _, _⟩) rfl (fun K hK => ?_) (AllReadyH.cons (o := ⟨some 6, _, _, _, _, _⟩) rfl (fun K hK => ?_) AllReadyH.nil))
    · rw [if_pos (by rfl)]
      go_simp
      refine (cWwrap ownQ aftQ 64 (bld4 q) P1 p1 Z.heap.size Z own_len aft_len g1 (Nat.le_refl _) HLB.out).mono ?_
      rintro e Z ⟨P2, p2, rfl, m2⟩
      rw [HPK.out]
      rw [← HP.out] at m2 ⊢
      obtain ⟨_, _, e2, g2, o2, x2⟩ := made_shape m2
      cases e2
      have o2 := own_base o2 yZ.size
      try have kz := (x2.block gB (heap_lt kz)).trans kz
      have yZ := yZ.trans (x2.mono yZ.size)
      clear m2 x2 g2
      show K _ _
      refine hK.out _ _ yZ (fun hS => ?_)
      clear hK K
      try go_frame
      refine held_pure (i := 18) (oi := ⟨some 14, _, _, _, _, _⟩) rfl (by kernel_rfl) (by kernel_rfl) (by kernel_rfl) (fun _ _ _ h => h) (by rfl) (v := ?_) (fun w hSw => ?_) hS (fun hS => ?_)
      rotate_left
      · go_simp; try with_reducible rfl
      try go_frame
      refine held_pure (i := 19) (oi := ⟨some 33, _, _, _, _, _⟩) rfl (by kernel_rfl) (by kernel_rfl) (by kernel_rfl) (fun _ _ _ h => h) (by rfl) (v := ?_) (fun w hSw => ?_) hS (fun hS => ?_)
      rotate_left
      · go_simp; try with_reducible rfl
      try go_frame
      refine held_pure (i := 20) (oi := ⟨some 34, _, _, _, _, _⟩) rfl (by kernel_rfl) (by kernel_rfl) (by kernel_rfl) (fun _ _ _ h => h) (by rfl) (v := ?_) (fun w hSw => ?_) hS (fun hS => ?_)
      rotate_left
      · go_simp; try with_reducible rfl
      try go_frame
      refine wpAnyH_ready (rs := [21]) (by kernel_rfl) (by simp) (AllReadyH.cons (o := ⟨some 6, _, _, _, _, _⟩) rfl (fun K hK => ?_) AllReadyH.nil)
      rw [if_pos (by rfl)]
      go_simp
      have kz := World.alloc_heap_new Z (.cells (v6a p6z none 0) 38)
      have a1 : Below Z.heap.size Z (Z.alloc (.cells (v6a p6z none 0) 38)) := (Below.refl _ Z).alloc (Nat.le_refl _) _
      try have g1 := (g1.below a1).more a1.size
      try have o2 := own_below o2 a1
      have zB : W.heap.size ≤ Z.heap.size := yZ.size
      have yZ := yZ.alloc yZ.size (.cells (v6a p6z none 0) 38)
      show K _ (Z.alloc (.cells (v6a p6z none 0) 38))
      refine hK.out _ _ yZ (fun hS => ?_)
      clear hK K a1
      generalize Z.heap.size = gB at *
      generalize Z.alloc (.cells (v6a p6z none 0) 38) = Z at *
      try go_frame
      refine wpAnyH_ready (rs := [22]) (by kernel_rfl) (by simp) (AllReadyH.cons (o := ⟨none, _, _, _, _, _⟩) rfl (fun K hK => ?_) AllReadyH.nil)
      rw [if_pos (by rfl)]
      refine wp_store_row 38 _ _ rfl gB (v6a P P2 p2) rfl rfl 38 _ kz (by rw [v6a_szR _ _ _ HPS.out HPD.out]; kernel_rfl) (by rw [v6a_szR _ _ _ HPS.out HPD.out]; rfl) (v6a_one _ _ _) ?_
      have kq := setRow_heap Z gB _ (v6a P P2 p2) _ _ kz
      have o4 := own_setRowR (cs' := v6a P P2 p2) o2 kz (by decide)
      have zq := heap_lt kq
      have y4 : Below W.heap.size W (Z.setRow gB (v6a P P2 p2)) := below_row yZ zB
      refine hK _ _ y4 (fun hS => ?_)
      clear hK K kz o2 yZ
      try clear g1
      generalize Z.setRow gB (v6a P P2 p2) = X at *
      try go_frame
      refine held_pure (i := 23) (oi := ⟨some 7, _, _, _, _, _⟩) rfl (by kernel_rfl) (by kernel_rfl) (by kernel_rfl) (fun _ _ _ h => h) (by rfl) (v := ?_) (fun w hSw => ?_) hS (fun hS => ?_)
      rotate_left
      · go_simp; try with_reducible rfl
      try go_frame
      refine wpAnyH_done (by kernel_rfl) ?_ _
      have at4 : At6 X gB P P2 p2 := range_hpR kq
      have b4 := hb.trans (y4.mono hb.size)
      have HF4 := Lib.hid (HF.out.below y4)
      have ow4 : Own6 X w.heap.size ⟨P, P2, p2, h6⟩ := ⟨h6, own_base o4 hb.size⟩
      clear KO KA KH KQ HF kq o4 y4 zB
      by_cases hs : size6 P ≤ m
      · have HCB : Hid (cutB m id P = [P]) := Lib.hid (by rw [cutB, if_pos hs])
        have HS0 := Lib.hid hs
        clear hs
        go_upto_region 7 with (first
          | ((with_reducible show wpList _ _ _ (Oper.mk _ (Op.load 38 _) _ _ _ _ :: _) _ _); refine wpList_val rfl (run_load_v6 rfl rfl at4 (v6l_len h6.1 h6.2)) ?_)
          | (go_at_call 91; refine (bcut_small HF4.out P P2 p2 w.heap.size ow4 b4.size HPL.out HS0.out).mono ?_; rintro e w5 ⟨v5, l5, rfl, r5, q5, x5⟩))
        have HQ5 : Hid (l5.map (·.q) = cutB m id P) := Lib.hid (by rw [HCB.out]; exact q5)
        have HF5 := Lib.hid (HF4.out.below x5)
        have K5 : Kept (fun i => i = x) w w5 := Kept.of_below (b4.trans (x5.mono b4.size))
        have HID : 0 ≤ id ∧ id < 4294967296 := HII.out
        have HCA := cutB_all HMM.out HII.out HPC.out HPN.out
        clear q5 x5 HCB HS0 at4
        have HL := Lib.hid HCA.1
        have HIDD := Lib.hid HID
        have HR5 := Lib.hid r5
        have HK5 := Lib.hid K5
        have hz5 : w.heap.size ≤ w5.heap.size := K5.size
        obtain ⟨n, hn⟩ : ∃ n, n = l5.length := ⟨_, rfl⟩
        have HN := Lib.hid hn
        obtain ⟨A5, c5, hv5⟩ : ∃ A5 c5, v5 = .slice A5 n c5 := by
          obtain ⟨A, c, e, _, _⟩ := r5.l6
          exact ⟨A, c, by rw [hn]; exact e⟩
        subst hv5
        have hn6 : n ≤ 1000000 := by
          have h1 : n = (cutB m id P).length := by rw [hn, ← HQ5.out, List.length_map]
          rw [h1]; exact cutB_len HLEN.out
        clear HCA HID r5 K5 hn
        go_wp2
        go_loopw [9, 49] (fun v i wr => ∃ (vv : Value) (j : Nat) (pre : List YB), vv = v ∧ j ≤ n ∧ i = .int .i64 (j : Int) ∧ Hid (wr.ownsRow w5.heap.size 22 1 v pre.length (pre.flatMap clY)) ∧ Hid (pre.length = j) ∧ Hid (∀ y ∈ pre, Own1 wr w5.heap.size y) ∧ Hid (pre.map (·.b) = (l5.take j).map (fun y => bld6 y.q)) ∧ Below w5.heap.size w5 wr) (fun _ i _ => n - (intOf i).toNat)
        case atStart => exact ⟨_, 0, [], rfl, Nat.zero_le _, rfl, Lib.hid (World.ownsRow_nil _ _ _ _), Lib.hid rfl, Lib.hid (fun y h => by cases h), Lib.hid rfl, Below.refl _ _⟩
        case round =>
          obtain ⟨vv, j, pre, rfl, hj, rfl, HRW, HPR, HBY, HMP, hB⟩ := hrel
          by_cases hlt : j < n
          · obtain ⟨y, hy⟩ : ∃ y, l5[j]? = some y := ⟨_, List.getElem?_eq_getElem (by rw [← HN.out]; exact hlt)⟩
            have hmem : y ∈ l5 := List.mem_of_getElem? hy
            have hCO : CutOk m P y.q := HL.out y.q (by rw [← HQ5.out]; exact List.mem_map_of_mem hmem)
            have HCK := Lib.hid hCO.chk
            have hyl : y.q.dat.length ≤ 1000000 := by have := (chk6_iff.1 hCO.chk).2; omega
            have HR := Lib.hid (HR5.out.below hB)
            obtain ⟨bb, oo, cc, ee, hr, hbb⟩ := HR.out.parts hy
            obtain ⟨rfl, _, rfl⟩ := Value.slice.inj ee
            have HYY := Lib.hid hy
            have HOY := Lib.hid (HR.out.2 y hmem)
            have HY6 := Lib.hid y.h6
            have hz := hB.size
            clear hmem hCO hy ee hj
            go_upto_region 11 with (first
              | ((with_reducible show wpList _ _ _ (Oper.mk _ (Op.load 38 _) _ _ _ _ :: _) _ _); refine wpList_val rfl (run_load_v6o rfl rfl hr (cl6_len y.h6)) ?_)
              | ((with_reducible show wpList _ _ _ (Oper.mk _ (Op.store 38 _ _) _ _ _ _ :: _) _ _); refine v6_store_new (cs := v6a y.q y.A y.c) rfl rfl rfl (by rw [v6a_szR _ _ _ HY6.out.1 HY6.out.2]) (v6a_one _ _ _) ?_))
            have kz := World.alloc_heap_new wr (.cells (v6a y.q y.A y.c) 38)
            have hV : Below wr.heap.size wr (wr.alloc (.cells (v6a y.q y.A y.c) 38)) := (Below.refl _ wr).alloc (Nat.le_refl _) _
            have hOV : Arg (wr.alloc (.cells (v6a y.q y.A y.c) 38)) wr.heap.size y.A y.c y.q.dat := (HOY.out.arg).below hV
            generalize wr.alloc (.cells (v6a y.q y.A y.c) 38) = V at *
            have atV : At6 V wr.heap.size y.q y.A y.c := range_hpR kz
            have h6y := y.h6
            clear kz hr
            go_wp2_with (first
              | ((with_reducible show wpList _ _ _ (Oper.mk _ (Op.load 38 _) _ _ _ _ :: _) _ _); refine wpList_val rfl (run_load_v6 rfl rfl atV (v6l_len h6y.1 h6y.2)) ?_)
              | (go_at_call 92; refine (c6build y.q y.A y.c V wr.heap.size HY6.out.1 HY6.out.2 hyl hOV hV.size).mono ?_; rintro e w7 ⟨v7, rfl, _, m7⟩; rw [HCK.out]; have m7 := m7 HCK.out; obtain ⟨P7, p7, rfl, g7, o7, x7⟩ := made_shape m7; have y7 : Below wr.heap.size wr w7 := hV.trans (x7.mono hV.size))
              | ((with_reducible show wpList _ _ _ (Oper.mk _ (Op.buildSlice _ _ _) _ _ _ _ :: _) _ _); refine wpList_growU rfl (run_bsY rfl rfl) ?_)
              | (at_builtin; refine append_by rfl _ _ rfl w5.heap.size _ pre rfl (own_below (own_below HRW.out y7) ((Below.refl _ w7).alloc (Nat.le_refl _) _)) w7.heap.size ⟨P7, p7, bld6 y.q⟩ rfl (cellC (World.alloc_heap_new w7 _) rfl) (by rw [HPR.out]; omega) (by have := y7.size; simp; omega) ?_; intro v8 w8 own8 grow8))
            have a7 := (Below.refl _ w7).alloc (Nat.le_refl _) (.cells #[.slice P7 (bld6 y.q).length p7] 22)
            have r7 := own_below (own_below HRW.out y7) a7
            have b7 : Below w5.heap.size w5 (w7.alloc (.cells #[.slice P7 (bld6 y.q).length p7] 22)) := (hB.trans (y7.mono hz)).trans (a7.mono (Nat.le_trans hz y7.size))
            have b8 : Below w5.heap.size w5 w8 := b7.grown grow8 (Nat.le_trans hz (Nat.le_trans y7.size a7.size)) (fun k hk => own_block_ge r7 k hk)
            have HO8 : Hid (∀ z ∈ pre ++ [(⟨P7, p7, bld6 y.q⟩ : YB)], Own1 w8 w5.heap.size z) := Lib.hid (fun z hzz => by
              have ho : Own1 (w7.alloc (.cells #[.slice P7 (bld6 y.q).length p7] 22)) w5.heap.size z := by
                rcases List.mem_append.1 hzz with h1 | h1
                · exact own_below (own_below (HBY.out z h1) y7) a7
                · rw [List.mem_singleton.1 h1]
                  exact own_below (own_base o7 (Nat.le_trans hz hV.size)) a7
              exact own_beside ho r7 (nat_ne (by kernel_rfl)) grow8)
            have H8 := Lib.hid own8
            clear own8 m7 o7 g7 r7 b7 a7 grow8
            go_roundw
            case rel => exact ⟨_, _, _, _, .int .i64 ((j + 1 : Nat) : Int), ⟨j + 1, by omega, rfl, pre ++ [⟨P7, p7, bld6 y.q⟩], H8, Lib.hid (by rw [List.length_append, HPR.out]; rfl), HO8, Lib.hid (by rw [List.map_append, HMP.out, List.map_take, List.take_add_one, List.getElem?_map, HYY.out]; rfl), b8⟩, rfl, rfl, rfl, rfl, by simp⟩
            case measure => simp [intOf]; omega
          · obtain rfl : n = j := by omega
            go_wp2
            refine bodyPost_ret (results_tmp2 rfl _ _ _) rfl ?_
            have hRY : RowY wr w5.heap.size vv pre := ⟨HRW.out, HBY.out⟩
            refine ⟨_, pre, Lib.hid rfl, hRY.base hz5, Lib.hid ?_, HK5.out.trans (Kept.of_below (S := fun i => i = x) (hB.mono (Nat.le_refl _))) (fun _ _ h => h), _, HIDD.out, HF5.out.below hB⟩
            rw [HMP.out, List.take_of_length_le (by have := HN.out; omega), ← HQ5.out, List.map_map]
            rfl
      · have HCB : Hid (cutB m id P = cutL6 P id m) := Lib.hid (by rw [cutB, if_neg hs])
        have HS0 := Lib.hid hs
        have HEE := Lib.hid (cutE6_zero HMM.out HII.out HPC.out)
        clear hs
        go_upto_region 7 with (first
          | ((with_reducible show wpList _ _ _ (Oper.mk _ (Op.load 38 _) _ _ _ _ :: _) _ _); refine wpList_val rfl (run_load_v6 rfl rfl at4 (v6l_len h6.1 h6.2)) ?_)
          | (go_at_call 91; refine (bcut_big HF4.out P P2 p2 w.heap.size ow4 b4.size HPL.out HS0.out HII.out HEE.out HX.out).mono ?_; rintro e w5 ⟨v5, l5, rfl, r5, q5, x5, f5⟩))
        have HQ5 : Hid (l5.map (·.q) = cutB m id P) := Lib.hid (by rw [HCB.out]; exact q5)
        have HF5 := Lib.hid f5
        have K5 : Kept (fun i => i = x) w w5 := (Kept.of_below b4).trans x5.kept (fun _ _ h => h)
        have HID : 0 ≤ (id + 1) % 4294967296 ∧ (id + 1) % 4294967296 < 4294967296 := by omega
        have HCA := cutB_all HMM.out HII.out HPC.out HPN.out
        clear q5 x5 HCB HS0 HEE at4 f5
        have HL := Lib.hid HCA.1
        have HIDD := Lib.hid HID
        have HR5 := Lib.hid r5
        have HK5 := Lib.hid K5
        have hz5 : w.heap.size ≤ w5.heap.size := K5.size
        obtain ⟨n, hn⟩ : ∃ n, n = l5.length := ⟨_, rfl⟩
        have HN := Lib.hid hn
        obtain ⟨A5, c5, hv5⟩ : ∃ A5 c5, v5 = .slice A5 n c5 := by
          obtain ⟨A, c, e, _, _⟩ := r5.l6
          exact ⟨A, c, by rw [hn]; exact e⟩
        subst hv5
        have hn6 : n ≤ 1000000 := by
          have h1 : n = (cutB m id P).length := by rw [hn, ← HQ5.out, List.length_map]
          rw [h1]; exact cutB_len HLEN.out
        clear HCA HID r5 K5 hn
        go_wp2
        go_loopw [9, 49] (fun v i wr => ∃ (vv : Value) (j : Nat) (pre : List YB), vv = v ∧ j ≤ n ∧ i = .int .i64 (j : Int) ∧ Hid (wr.ownsRow w5.heap.size 22 1 v pre.length (pre.flatMap clY)) ∧ Hid (pre.length = j) ∧ Hid (∀ y ∈ pre, Own1 wr w5.heap.size y) ∧ Hid (pre.map (·.b) = (l5.take j).map (fun y => bld6 y.q)) ∧ Below w5.heap.size w5 wr) (fun _ i _ => n - (intOf i).toNat)
        case atStart => exact ⟨_, 0, [], rfl, Nat.zero_le _, rfl, Lib.hid (World.ownsRow_nil _ _ _ _), Lib.hid rfl, Lib.hid (fun y h => by cases h), Lib.hid rfl, Below.refl _ _⟩
        case round =>
          obtain ⟨vv, j, pre, rfl, hj, rfl, HRW, HPR, HBY, HMP, hB⟩ := hrel
          by_cases hlt : j < n
          · obtain ⟨y, hy⟩ : ∃ y, l5[j]? = some y := ⟨_, List.getElem?_eq_getElem (by rw [← HN.out]; exact hlt)⟩
            have hmem : y ∈ l5 := List.mem_of_getElem? hy
            have hCO : CutOk m P y.q := HL.out y.q (by rw [← HQ5.out]; exact List.mem_map_of_mem hmem)
            have HCK := Lib.hid hCO.chk
            have hyl : y.q.dat.length ≤ 1000000 := by have := (chk6_iff.1 hCO.chk).2; omega
            have HR := Lib.hid (HR5.out.below hB)
            obtain ⟨bb, oo, cc, ee, hr, hbb⟩ := HR.out.parts hy
            obtain ⟨rfl, _, rfl⟩ := Value.slice.inj ee
            have HYY := Lib.hid hy
            have HOY := Lib.hid (HR.out.2 y hmem)
            have HY6 := Lib.hid y.h6
            have hz := hB.size
            clear hmem hCO hy ee hj
            go_upto_region 11 with (first
              | ((with_reducible show wpList _ _ _ (Oper.mk _ (Op.load 38 _) _ _ _ _ :: _) _ _); refine wpList_val rfl (run_load_v6o rfl rfl hr (cl6_len y.h6)) ?_)
              | ((with_reducible show wpList _ _ _ (Oper.mk _ (Op.store 38 _ _) _ _ _ _ :: _) _ _); refine v6_store_new (cs := v6a y.q y.A y.c) rfl rfl rfl (by rw [v6a_szR _ _ _ HY6.out.1 HY6.out.2]) (v6a_one _ _ _) ?_))
            have kz := World.alloc_heap_new wr (.cells (v6a y.q y.A y.c) 38)
            have hV : Below wr.heap.size wr (wr.alloc (.cells (v6a y.q y.A y.c) 38)) := (Below.refl _ wr).alloc (Nat.le_refl _) _
            have hOV : Arg (wr.alloc (.cells (v6a y.q y.A y.c) 38)) wr.heap.size y.A y.c y.q.dat := (HOY.out.arg).below hV
            generalize wr.alloc (.cells (v6a y.q y.A y.c) 38) = V at *
            have atV : At6 V wr.heap.size y.q y.A y.c := range_hpR kz
            have h6y := y.h6
            clear kz hr
            go_wp2_with (first
              | ((with_reducible show wpList _ _ _ (Oper.mk _ (Op.load 38 _) _ _ _ _ :: _) _ _); refine wpList_val rfl (run_load_v6 rfl rfl atV (v6l_len h6y.1 h6y.2)) ?_)
              | (go_at_call 92; refine (c6build y.q y.A y.c V wr.heap.size HY6.out.1 HY6.out.2 hyl hOV hV.size).mono ?_; rintro e w7 ⟨v7, rfl, _, m7⟩; rw [HCK.out]; have m7 := m7 HCK.out; obtain ⟨P7, p7, rfl, g7, o7, x7⟩ := made_shape m7; have y7 : Below wr.heap.size wr w7 := hV.trans (x7.mono hV.size))
              | ((with_reducible show wpList _ _ _ (Oper.mk _ (Op.buildSlice _ _ _) _ _ _ _ :: _) _ _); refine wpList_growU rfl (run_bsY rfl rfl) ?_)
              | (at_builtin; refine append_by rfl _ _ rfl w5.heap.size _ pre rfl (own_below (own_below HRW.out y7) ((Below.refl _ w7).alloc (Nat.le_refl _) _)) w7.heap.size ⟨P7, p7, bld6 y.q⟩ rfl (cellC (World.alloc_heap_new w7 _) rfl) (by rw [HPR.out]; omega) (by have := y7.size; simp; omega) ?_; intro v8 w8 own8 grow8))
            have a7 := (Below.refl _ w7).alloc (Nat.le_refl _) (.cells #[.slice P7 (bld6 y.q).length p7] 22)
            have r7 := own_below (own_below HRW.out y7) a7
            have b7 : Below w5.heap.size w5 (w7.alloc (.cells #[.slice P7 (bld6 y.q).length p7] 22)) := (hB.trans (y7.mono hz)).trans (a7.mono (Nat.le_trans hz y7.size))
            have b8 : Below w5.heap.size w5 w8 := b7.grown grow8 (Nat.le_trans hz (Nat.le_trans y7.size a7.size)) (fun k hk => own_block_ge r7 k hk)
            have HO8 : Hid (∀ z ∈ pre ++ [(⟨P7, p7, bld6 y.q⟩ : YB)], Own1 w8 w5.heap.size z) := Lib.hid (fun z hzz => by
              have ho : Own1 (w7.alloc (.cells #[.slice P7 (bld6 y.q).length p7] 22)) w5.heap.size z := by
                rcases List.mem_append.1 hzz with h1 | h1
                · exact own_below (own_below (HBY.out z h1) y7) a7
                · rw [List.mem_singleton.1 h1]
                  exact own_below (own_base o7 (Nat.le_trans hz hV.size)) a7
              exact own_beside ho r7 (nat_ne (by kernel_rfl)) grow8)
            have H8 := Lib.hid own8
            clear own8 m7 o7 g7 r7 b7 a7 grow8
            go_roundw
            case rel => exact ⟨_, _, _, _, .int .i64 ((j + 1 : Nat) : Int), ⟨j + 1, by omega, rfl, pre ++ [⟨P7, p7, bld6 y.q⟩], H8, Lib.hid (by rw [List.length_append, HPR.out]; rfl), HO8, Lib.hid (by rw [List.map_append, HMP.out, List.map_take, List.take_add_one, List.getElem?_map, HYY.out]; rfl), b8⟩, rfl, rfl, rfl, rfl, by simp⟩
            case measure => simp [intOf]; omega
          · obtain rfl : n = j := by omega
            go_wp2
            refine bodyPost_ret (results_tmp2 rfl _ _ _) rfl ?_
            have hRY : RowY wr w5.heap.size vv pre := ⟨HRW.out, HBY.out⟩
            refine ⟨_, pre, Lib.hid rfl, hRY.base hz5, Lib.hid ?_, HK5.out.trans (Kept.of_below (S := fun i => i = x) (hB.mono (Nat.le_refl _))) (fun _ _ h => h), _, HIDD.out, HF5.out.below hB⟩
            rw [HMP.out, List.take_of_length_le (by have := HN.out; omega), ← HQ5.out, List.map_map]
            rfl
    · rw [if_pos (by rfl)]
      go_simp
      have kz := World.alloc_heap_new Z (.cells (v6a p6z none 0) 38)
      have a1 : Below Z.heap.size Z (Z.alloc (.cells (v6a p6z none 0) 38)) := (Below.refl _ Z).alloc (Nat.le_refl _) _
      try have g1 := (g1.below a1).more a1.size
      try have o2 := own_below o2 a1
      have zB : W.heap.size ≤ Z.heap.size := yZ.size
      have yZ := yZ.alloc yZ.size (.cells (v6a p6z none 0) 38)
      show K _ (Z.alloc (.cells (v6a p6z none 0) 38))
      refine hK.out _ _ yZ (fun hS => ?_)
      clear hK K a1
      generalize Z.heap.size = gB at *
      generalize Z.alloc (.cells (v6a p6z none 0) 38) = Z at *
      try go_frame
      refine wpAnyH_ready (rs := [17]) (by kernel_rfl) (by simp) (AllReadyH.cons (o := ⟨some 32, _, _, _, _, _⟩) rfl (fun K hK => ?_) AllReadyH.nil)
      rw [if_pos (by rfl)]
      go_simp
      refine (cWwrap ownQ aftQ 64 (bld4 q) P1 p1 Z.heap.size Z own_len aft_len g1 (Nat.le_refl _) HLB.out).mono ?_
      rintro e Z ⟨P2, p2, rfl, m2⟩
      rw [HPK.out]
      rw [← HP.out] at m2 ⊢
      obtain ⟨_, _, e2, g2, o2, x2⟩ := made_shape m2
      cases e2
      have o2 := own_base o2 yZ.size
      try have kz := (x2.block gB (heap_lt kz)).trans kz
      have yZ := yZ.trans (x2.mono yZ.size)
      clear m2 x2 g2
      show K _ _
      refine hK.out _ _ yZ (fun hS => ?_)
      clear hK K
      try go_frame
      refine held_pure (i := 18) (oi := ⟨some 14, _, _, _, _, _⟩) rfl (by kernel_rfl) (by kernel_rfl) (by kernel_rfl) (fun _ _ _ h => h) (by rfl) (v := ?_) (fun w hSw => ?_) hS (fun hS => ?_)
      rotate_left
      · go_simp; try with_reducible rfl
      try go_frame
      refine held_pure (i := 19) (oi := ⟨some 33, _, _, _, _, _⟩) rfl (by kernel_rfl) (by kernel_rfl) (by kernel_rfl) (fun _ _ _ h => h) (by rfl) (v := ?_) (fun w hSw => ?_) hS (fun hS => ?_)
      rotate_left
      · go_simp; try with_reducible rfl
      try go_frame
      refine held_pure (i := 20) (oi := ⟨some 34, _, _, _, _, _⟩) rfl (by kernel_rfl) (by kernel_rfl) (by kernel_rfl) (fun _ _ _ h => h) (by rfl) (v := ?_) (fun w hSw => ?_) hS (fun hS => ?_)
      rotate_left
      · go_simp; try with_reducible rfl
      try go_frame
      refine wpAnyH_ready (rs := [22]) (by kernel_rfl) (by simp) (AllReadyH.cons (o := ⟨none, _, _, _, _, _⟩) rfl (fun K hK => ?_) AllReadyH.nil)
      rw [if_pos (by rfl)]
      refine wp_store_row 38 _ _ rfl gB (v6a P P2 p2) rfl rfl 38 _ kz (by rw [v6a_szR _ _ _ HPS.out HPD.out]; kernel_rfl) (by rw [v6a_szR _ _ _ HPS.out HPD.out]; rfl) (v6a_one _ _ _) ?_
      have kq := setRow_heap Z gB _ (v6a P P2 p2) _ _ kz
      have o4 := own_setRowR (cs' := v6a P P2 p2) o2 kz (by decide)
      have zq := heap_lt kq
      have y4 : Below W.heap.size W (Z.setRow gB (v6a P P2 p2)) := below_row yZ zB
      refine hK _ _ y4 (fun hS => ?_)
      clear hK K kz o2 yZ
      try clear g1
      generalize Z.setRow gB (v6a P P2 p2) = X at *
      try go_frame
      refine held_pure (i := 23) (oi := ⟨some 7, _, _, _, _, _⟩) rfl (by kernel_rfl) (by kernel_rfl) (by kernel_rfl) (fun _ _ _ h => h) (by rfl) (v := ?_) (fun w hSw => ?_) hS (fun hS => ?_)
      rotate_left
      · go_simp; try with_reducible rfl
      try go_frame
      refine wpAnyH_done (by kernel_rfl) ?_ _
      have at4 : At6 X gB P P2 p2 := range_hpR kq
      have b4 := hb.trans (y4.mono hb.size)
      have HF4 := Lib.hid (HF.out.below y4)
      have ow4 : Own6 X w.heap.size ⟨P, P2, p2, h6⟩ := ⟨h6, own_base o4 hb.size⟩
      clear KO KA KH KQ HF kq o4 y4 zB
      by_cases hs : size6 P ≤ m
      · have HCB : Hid (cutB m id P = [P]) := Lib.hid (by rw [cutB, if_pos hs])
        have HS0 := Lib.hid hs
        clear hs
        go_upto_region 7 with (first
          | ((with_reducible show wpList _ _ _ (Oper.mk _ (Op.load 38 _) _ _ _ _ :: _) _ _); refine wpList_val rfl (run_load_v6 rfl rfl at4 (v6l_len h6.1 h6.2)) ?_)
          | (go_at_call 91; refine (bcut_small HF4.out P P2 p2 w.heap.size ow4 b4.size HPL.out HS0.out).mono ?_; rintro e w5 ⟨v5, l5, rfl, r5, q5, x5⟩))
        have HQ5 : Hid (l5.map (·.q) = cutB m id P) := Lib.hid (by rw [HCB.out]; exact q5)
        have HF5 := Lib.hid (HF4.out.below x5)
        have K5 : Kept (fun i => i = x) w w5 := Kept.of_below (b4.trans (x5.mono b4.size))
        have HID : 0 ≤ id ∧ id < 4294967296 := HII.out
        have HCA := cutB_all HMM.out HII.out HPC.out HPN.out
        clear q5 x5 HCB HS0 at4
        have HL := Lib.hid HCA.1
        have HIDD := Lib.hid HID
        have HR5 := Lib.hid r5
        have HK5 := Lib.hid K5
        have hz5 : w.heap.size ≤ w5.heap.size := K5.size
        obtain ⟨n, hn⟩ : ∃ n, n = l5.length := ⟨_, rfl⟩
        have HN := Lib.hid hn
        obtain ⟨A5, c5, hv5⟩ : ∃ A5 c5, v5 = .slice A5 n c5 := by
          obtain ⟨A, c, e, _, _⟩ := r5.l6
          exact ⟨A, c, by rw [hn]; exact e⟩
        subst hv5
        have hn6 : n ≤ 1000000 := by
          have h1 : n = (cutB m id P).length := by rw [hn, ← HQ5.out, List.length_map]
          rw [h1]; exact cutB_len HLEN.out
        clear HCA HID r5 K5 hn
        go_wp2
        go_loopw [9, 49] (fun v i wr => ∃ (vv : Value) (j : Nat) (pre : List YB), vv = v ∧ j ≤ n ∧ i = .int .i64 (j : Int) ∧ Hid (wr.ownsRow w5.heap.size 22 1 v pre.length (pre.flatMap clY)) ∧ Hid (pre.length = j) ∧ Hid (∀ y ∈ pre, Own1 wr w5.heap.size y) ∧ Hid (pre.map (·.b) = (l5.take j).map (fun y => bld6 y.q)) ∧ Below w5.heap.size w5 wr) (fun _ i _ => n - (intOf i).toNat)
        case atStart => exact ⟨_, 0, [], rfl, Nat.zero_le _, rfl, Lib.hid (World.ownsRow_nil _ _ _ _), Lib.hid rfl, Lib.hid (fun y h => by cases h), Lib.hid rfl, Below.refl _ _⟩
        case round =>
          obtain ⟨vv, j, pre, rfl, hj, rfl, HRW, HPR, HBY, HMP, hB⟩ := hrel
          by_cases hlt : j < n
          · obtain ⟨y, hy⟩ : ∃ y, l5[j]? = some y := ⟨_, List.getElem?_eq_getElem (by rw [← HN.out]; exact hlt)⟩
            have hmem : y ∈ l5 := List.mem_of_getElem? hy
            have hCO : CutOk m P y.q := HL.out y.q (by rw [← HQ5.out]; exact List.mem_map_of_mem hmem)
            have HCK := Lib.hid hCO.chk
            have hyl : y.q.dat.length ≤ 1000000 := by have := (chk6_iff.1 hCO.chk).2; omega
            have HR := Lib.hid (HR5.out.below hB)
            obtain ⟨bb, oo, cc, ee, hr, hbb⟩ := HR.out.parts hy
            obtain ⟨rfl, _, rfl⟩ := Value.slice.inj ee
            have HYY := Lib.hid hy
            have HOY := Lib.hid (HR.out.2 y hmem)
            have HY6 := Lib.hid y.h6
            have hz := hB.size
            clear hmem hCO hy ee hj
            go_upto_region 11 with (first
              | ((with_reducible show wpList _ _ _ (Oper.mk _ (Op.load 38 _) _ _ _ _ :: _) _ _); refine wpList_val rfl (run_load_v6o rfl rfl hr (cl6_len y.h6)) ?_)
              | ((with_reducible show wpList _ _ _ (Oper.mk _ (Op.store 38 _ _) _ _ _ _ :: _) _ _); refine v6_store_new (cs := v6a y.q y.A y.c) rfl rfl rfl (by rw [v6a_szR _ _ _ HY6.out.1 HY6.out.2]) (v6a_one _ _ _) ?_))
            have kz := World.alloc_heap_new wr (.cells (v6a y.q y.A y.c) 38)
            have hV : Below wr.heap.size wr (wr.alloc (.cells (v6a y.q y.A y.c) 38)) := (Below.refl _ wr).alloc (Nat.le_refl _) _
            have hOV : Arg (wr.alloc (.cells (v6a y.q y.A y.c) 38)) wr.heap.size y.A y.c y.q.dat := (HOY.out.arg).below hV
            generalize wr.alloc (.cells (v6a y.q y.A y.c) 38) = V at *
            have atV : At6 V wr.heap.size y.q y.A y.c := range_hpR kz
            have h6y := y.h6
            clear kz hr
            go_wp2_with (first
              | ((with_reducible show wpList _ _ _ (Oper.mk _ (Op.load 38 _) _ _ _ _ :: _) _ _); refine wpList_val rfl (run_load_v6 rfl rfl atV (v6l_len h6y.1 h6y.2)) ?_)
              | (go_at_call 92; refine (c6build y.q y.A y.c V wr.heap.size HY6.out.1 HY6.out.2 hyl hOV hV.size).mono ?_; rintro e w7 ⟨v7, rfl, _, m7⟩; rw [HCK.out]; have m7 := m7 HCK.out; obtain ⟨P7, p7, rfl, g7, o7, x7⟩ := made_shape m7; have y7 : Below wr.heap.size wr w7 := hV.trans (x7.mono hV.size))
              | ((with_reducible show wpList _ _ _ (Oper.mk _ (Op.buildSlice _ _ _) _ _ _ _ :: _) _ _); refine wpList_growU rfl (run_bsY rfl rfl) ?_)
              | (at_builtin; refine append_by rfl _ _ rfl w5.heap.size _ pre rfl (own_below (own_below HRW.out y7) ((Below.refl _ w7).alloc (Nat.le_refl _) _)) w7.heap.size ⟨P7, p7, bld6 y.q⟩ rfl (cellC (World.alloc_heap_new w7 _) rfl) (by rw [HPR.out]; omega) (by have := y7.size; simp; omega) ?_; intro v8 w8 own8 grow8))
            have a7 := (Below.refl _ w7).alloc (Nat.le_refl _) (.cells #[.slice P7 (bld6 y.q).length p7] 22)
            have r7 := own_below (own_below HRW.out y7) a7
            have b7 : Below w5.heap.size w5 (w7.alloc (.cells #[.slice P7 (bld6 y.q).length p7] 22)) := (hB.trans (y7.mono hz)).trans (a7.mono (Nat.le_trans hz y7.size))
            have b8 : Below w5.heap.size w5 w8 := b7.grown grow8 (Nat.le_trans hz (Nat.le_trans y7.size a7.size)) (fun k hk => own_block_ge r7 k hk)
            have HO8 : Hid (∀ z ∈ pre ++ [(⟨P7, p7, bld6 y.q⟩ : YB)], Own1 w8 w5.heap.size z) := Lib.hid (fun z hzz => by
              have ho : Own1 (w7.alloc (.cells #[.slice P7 (bld6 y.q).length p7] 22)) w5.heap.size z := by
                rcases List.mem_append.1 hzz with h1 | h1
                · exact own_below (own_below (HBY.out z h1) y7) a7
                · rw [List.mem_singleton.1 h1]
                  exact own_below (own_base o7 (Nat.le_trans hz hV.size)) a7
              exact own_beside ho r7 (nat_ne (by kernel_rfl)) grow8)
            have H8 := Lib.hid own8
            clear own8 m7 o7 g7 r7 b7 a7 grow8
            go_roundw
            case rel => exact ⟨_, _, _, _, .int .i64 ((j + 1 : Nat) : Int), ⟨j + 1, by omega, rfl, pre ++ [⟨P7, p7, bld6 y.q⟩], H8, Lib.hid (by rw [List.length_append, HPR.out]; rfl), HO8, Lib.hid (by rw [List.map_append, HMP.out, List.map_take, List.take_add_one, List.getElem?_map, HYY.out]; rfl), b8⟩, rfl, rfl, rfl, rfl, by simp⟩
            case measure => simp [intOf]; omega
          · obtain rfl : n = j := by omega
            go_wp2
            refine bodyPost_ret (results_tmp2 rfl _ _ _) rfl ?_
            have hRY : RowY wr w5.heap.size vv pre := ⟨HRW.out, HBY.out⟩
            refine ⟨_, pre, Lib.hid rfl, hRY.base hz5, Lib.hid ?_, HK5.out.trans (Kept.of_below (S := fun i => i = x) (hB.mono (Nat.le_refl _))) (fun _ _ h => h), _, HIDD.out, HF5.out.below hB⟩
            rw [HMP.out, List.take_of_length_le (by have := HN.out; omega), ← HQ5.out, List.map_map]
            rfl
      · have HCB : Hid (cutB m id P = cutL6 P id m) := Lib.hid (by rw [cutB, if_neg hs])
        have HS0 := Lib.hid hs
        have HEE := Lib.hid (cutE6_zero HMM.out HII.out HPC.out)
        clear hs
        go_upto_region 7 with (first
          | ((with_reducible show wpList _ _ _ (Oper.mk _ (Op.load 38 _) _ _ _ _ :: _) _ _); refine wpList_val rfl (run_load_v6 rfl rfl at4 (v6l_len h6.1 h6.2)) ?_)
          | (go_at_call 91; refine (bcut_big HF4.out P P2 p2 w.heap.size ow4 b4.size HPL.out HS0.out HII.out HEE.out HX.out).mono ?_; rintro e w5 ⟨v5, l5, rfl, r5, q5, x5, f5⟩))
        have HQ5 : Hid (l5.map (·.q) = cutB m id P) := Lib.hid (by rw [HCB.out]; exact q5)
        have HF5 := Lib.hid f5
        have K5 : Kept (fun i => i = x) w w5 := (Kept.of_below b4).trans x5.kept (fun _ _ h => h)
        have HID : 0 ≤ (id + 1) % 4294967296 ∧ (id + 1) % 4294967296 < 4294967296 := by omega
        have HCA := cutB_all HMM.out HII.out HPC.out HPN.out
        clear q5 x5 HCB HS0 HEE at4 f5
        have HL := Lib.hid HCA.1
        have HIDD := Lib.hid HID
        have HR5 := Lib.hid r5
        have HK5 := Lib.hid K5
        have hz5 : w.heap.size ≤ w5.heap.size := K5.size
        obtain ⟨n, hn⟩ : ∃ n, n = l5.length := ⟨_, rfl⟩
        have HN := Lib.hid hn
        obtain ⟨A5, c5, hv5⟩ : ∃ A5 c5, v5 = .slice A5 n c5 := by
          obtain ⟨A, c, e, _, _⟩ := r5.l6
          exact ⟨A, c, by rw [hn]; exact e⟩
        subst hv5
        have hn6 : n ≤ 1000000 := by
          have h1 : n = (cutB m id P).length := by rw [hn, ← HQ5.out, List.length_map]
          rw [h1]; exact cutB_len HLEN.out
        clear HCA HID r5 K5 hn
        go_wp2
        go_loopw [9, 49] (fun v i wr => ∃ (vv : Value) (j : Nat) (pre : List YB), vv = v ∧ j ≤ n ∧ i = .int .i64 (j : Int) ∧ Hid (wr.ownsRow w5.heap.size 22 1 v pre.length (pre.flatMap clY)) ∧ Hid (pre.length = j) ∧ Hid (∀ y ∈ pre, Own1 wr w5.heap.size y) ∧ Hid (pre.map (·.b) = (l5.take j).map (fun y => bld6 y.q)) ∧ Below w5.heap.size w5 wr) (fun _ i _ => n - (intOf i).toNat)
        case atStart => exact ⟨_, 0, [], rfl, Nat.zero_le _, rfl, Lib.hid (World.ownsRow_nil _ _ _ _), Lib.hid rfl, Lib.hid (fun y h => by cases h), Lib.hid rfl, Below.refl _ _⟩
        case round =>
          obtain ⟨vv, j, pre, rfl, hj, rfl, HRW, HPR, HBY, HMP, hB⟩ := hrel
          by_cases hlt : j < n
          · obtain ⟨y, hy⟩ : ∃ y, l5[j]? = some y := ⟨_, List.getElem?_eq_getElem (by rw [← HN.out]; exact hlt)⟩
            have hmem : y ∈ l5 := List.mem_of_getElem? hy
            have hCO : CutOk m P y.q := HL.out y.q (by rw [← HQ5.out]; exact List.mem_map_of_mem hmem)
            have HCK := Lib.hid hCO.chk
            have hyl : y.q.dat.length ≤ 1000000 := by have := (chk6_iff.1 hCO.chk).2; omega
            have HR := Lib.hid (HR5.out.below hB)
            obtain ⟨bb, oo, cc, ee, hr, hbb⟩ := HR.out.parts hy
            obtain ⟨rfl, _, rfl⟩ := Value.slice.inj ee
            have HYY := Lib.hid hy
            have HOY := Lib.hid (HR.out.2 y hmem)
            have HY6 := Lib.hid y.h6
            have hz := hB.size
            clear hmem hCO hy ee hj
            go_upto_region 11 with (first
              | ((with_reducible show wpList _ _ _ (Oper.mk _ (Op.load 38 _) _ _ _ _ :: _) _ _); refine wpList_val rfl (run_load_v6o rfl rfl hr (cl6_len y.h6)) ?_)
              | ((with_reducible show wpList _ _ _ (Oper.mk _ (Op.store 38 _ _) _ _ _ _ :: _) _ _); refine v6_store_new (cs := v6a y.q y.A y.c) rfl rfl rfl (by rw [v6a_szR _ _ _ HY6.out.1 HY6.out.2]) (v6a_one _ _ _) ?_))
            have kz := World.alloc_heap_new wr (.cells (v6a y.q y.A y.c) 38)
            have hV : Below wr.heap.size wr (wr.alloc (.cells (v6a y.q y.A y.c) 38)) := (Below.refl _ wr).alloc (Nat.le_refl _) _
            have hOV : Arg (wr.alloc (.cells (v6a y.q y.A y.c) 38)) wr.heap.size y.A y.c y.q.dat := (HOY.out.arg).below hV
            generalize wr.alloc (.cells (v6a y.q y.A y.c) 38) = V at *
            have atV : At6 V wr.heap.size y.q y.A y.c := range_hpR kz
            have h6y := y.h6
            clear kz hr
            go_wp2_with (first
              | ((with_reducible show wpList _ _ _ (Oper.mk _ (Op.load 38 _) _ _ _ _ :: _) _ _); refine wpList_val rfl (run_load_v6 rfl rfl atV (v6l_len h6y.1 h6y.2)) ?_)
              | (go_at_call 92; refine (c6build y.q y.A y.c V wr.heap.size HY6.out.1 HY6.out.2 hyl hOV hV.size).mono ?_; rintro e w7 ⟨v7, rfl, _, m7⟩; rw [HCK.out]; have m7 := m7 HCK.out; obtain ⟨P7, p7, rfl, g7, o7, x7⟩ := made_shape m7; have y7 : Below wr.heap.size wr w7 := hV.trans (x7.mono hV.size))
              | ((with_reducible show wpList _ _ _ (Oper.mk _ (Op.buildSlice _ _ _) _ _ _ _ :: _) _ _); refine wpList_growU rfl (run_bsY rfl rfl) ?_)
              | (at_builtin; refine append_by rfl _ _ rfl w5.heap.size _ pre rfl (own_below (own_below HRW.out y7) ((Below.refl _ w7).alloc (Nat.le_refl _) _)) w7.heap.size ⟨P7, p7, bld6 y.q⟩ rfl (cellC (World.alloc_heap_new w7 _) rfl) (by rw [HPR.out]; omega) (by have := y7.size; simp; omega) ?_; intro v8 w8 own8 grow8))
            have a7 := (Below.refl _ w7).alloc (Nat.le_refl _) (.cells #[.slice P7 (bld6 y.q).length p7] 22)
            have r7 := own_below (own_below HRW.out y7) a7
            have b7 : Below w5.heap.size w5 (w7.alloc (.cells #[.slice P7 (bld6 y.q).length p7] 22)) := (hB.trans (y7.mono hz)).trans (a7.mono (Nat.le_trans hz y7.size))
            have b8 : Below w5.heap.size w5 w8 := b7.grown grow8 (Nat.le_trans hz (Nat.le_trans y7.size a7.size)) (fun k hk => own_block_ge r7 k hk)
            have HO8 : Hid (∀ z ∈ pre ++ [(⟨P7, p7, bld6 y.q⟩ : YB)], Own1 w8 w5.heap.size z) := Lib.hid (fun z hzz => by
              have ho : Own1 (w7.alloc (.cells #[.slice P7 (bld6 y.q).length p7] 22)) w5.heap.size z := by
                rcases List.mem_append.1 hzz with h1 | h1
                · exact own_below (own_below (HBY.out z h1) y7) a7
                · rw [List.mem_singleton.1 h1]
                  exact own_below (own_base o7 (Nat.le_trans hz hV.size)) a7
              exact own_beside ho r7 (nat_ne (by kernel_rfl)) grow8)
            have H8 := Lib.hid own8
            clear own8 m7 o7 g7 r7 b7 a7 grow8
            go_roundw
            case rel => exact ⟨_, _, _, _, .int .i64 ((j + 1 : Nat) : Int), ⟨j + 1, by omega, rfl, pre ++ [⟨P7, p7, bld6 y.q⟩], H8, Lib.hid (by rw [List.length_append, HPR.out]; rfl), HO8, Lib.hid (by rw [List.map_append, HMP.out, List.map_take, List.take_add_one, List.getElem?_map, HYY.out]; rfl), b8⟩, rfl, rfl, rfl, rfl, by simp⟩
            case measure => simp [intOf]; omega
          · obtain rfl : n = j := by omega
            go_wp2
            refine bodyPost_ret (results_tmp2 rfl _ _ _) rfl ?_
            have hRY : RowY wr w5.heap.size vv pre := ⟨HRW.out, HBY.out⟩
            refine ⟨_, pre, Lib.hid rfl, hRY.base hz5, Lib.hid ?_, HK5.out.trans (Kept.of_below (S := fun i => i = x) (hB.mono (Nat.le_refl _))) (fun _ _ h => h), _, HIDD.out, HF5.out.below hB⟩
            rw [HMP.out, List.take_of_length_le (by have := HN.out; omega), ← HQ5.out, List.map_map]
            rfl
  · rw [if_pos (by rfl)]
    go_simp
    have kz := World.alloc_heap_new Z (.cells (v6a p6z none 0) 38)
    have a1 : Below Z.heap.size Z (Z.alloc (.cells (v6a p6z none 0) 38)) := (Below.refl _ Z).alloc (Nat.le_refl _) _
    try have g1 := (g1.below a1).more a1.size
    try have o2 := own_below o2 a1
    have zB : W.heap.size ≤ Z.heap.size := yZ.size
    have yZ := yZ.alloc yZ.size (.cells (v6a p6z none 0) 38)
    show K _ (Z.alloc (.cells (v6a p6z none 0) 38))
    refine hK.out _ _ yZ (fun hS => ?_)
    clear hK K a1
    generalize Z.heap.size = gB at *
    generalize Z.alloc (.cells (v6a p6z none 0) 38) = Z at *
    try go_frame
    refine wpAnyH_ready (rs := [16]) (by kernel_rfl) (by simp) (AllReadyH.cons (o := ⟨some 31, _, _, _, _, _⟩) rfl (fun K hK => ?_) AllReadyH.nil)
    rw [if_pos (by rfl)]
    go_simp
    refine (bbuilt q A c A' c' w.heap.size Z (hO.below (yZ.mono hb.size)) (hD.below (yZ.mono hb.size)) (Nat.le_trans hb.size yZ.size) ho hd HC.out).mono ?_
    rintro e Z ⟨P1, p1, rfl, m1⟩
    obtain ⟨_, _, e1, g1, o1, x1⟩ := made_shape m1
    cases e1
    try have kz := (x1.block gB (heap_lt kz)).trans kz
    have yZ := yZ.trans (x1.mono yZ.size)
    clear m1 o1 x1
    show K _ _
    refine hK.out _ _ yZ (fun hS => ?_)
    clear hK K
    try go_frame
    refine wpAnyH_ready (rs := [17]) (by kernel_rfl) (by simp) (AllReadyH.cons (o := ⟨some 32, _, _, _, _, _⟩) rfl (fun K hK => ?_) AllReadyH.nil)
    rw [if_pos (by rfl)]
    go_simp
    refine (cWwrap ownQ aftQ 64 (bld4 q) P1 p1 Z.heap.size Z own_len aft_len g1 (Nat.le_refl _) HLB.out).mono ?_
    rintro e Z ⟨P2, p2, rfl, m2⟩
    rw [HPK.out]
    rw [← HP.out] at m2 ⊢
    obtain ⟨_, _, e2, g2, o2, x2⟩ := made_shape m2
    cases e2
    have o2 := own_base o2 yZ.size
    try have kz := (x2.block gB (heap_lt kz)).trans kz
    have yZ := yZ.trans (x2.mono yZ.size)
    clear m2 x2 g2
    show K _ _
    refine hK.out _ _ yZ (fun hS => ?_)
    clear hK K
    try go_frame
    refine held_pure (i := 18) (oi := ⟨some 14, _, _, _, _, _⟩) rfl (by kernel_rfl) (by kernel_rfl) (by kernel_rfl) (fun _ _ _ h => h) (by rfl) (v := ?_) (fun w hSw => ?_) hS (fun hS => ?_)
    rotate_left
    · go_simp; try with_reducible rfl
    try go_frame
    refine held_pure (i := 19) (oi := ⟨some 33, _, _, _, _, _⟩) rfl (by kernel_rfl) (by kernel_rfl) (by kernel_rfl) (fun _ _ _ h => h) (by rfl) (v := ?_) (fun w hSw => ?_) hS (fun hS => ?_)
    rotate_left
    · go_simp; try with_reducible rfl
    try go_frame
    refine held_pure (i := 20) (oi := ⟨some 34, _, _, _, _, _⟩) rfl (by kernel_rfl) (by kernel_rfl) (by kernel_rfl) (fun _ _ _ h => h) (by rfl) (v := ?_) (fun w hSw => ?_) hS (fun hS => ?_)
    rotate_left
    · go_simp; try with_reducible rfl
    try go_frame
    refine wpAnyH_ready (rs := [22]) (by kernel_rfl) (by simp) (AllReadyH.cons (o := ⟨none, _, _, _, _, _⟩) rfl (fun K hK => ?_) AllReadyH.nil)
    rw [if_pos (by rfl)]
    refine wp_store_row 38 _ _ rfl gB (v6a P P2 p2) rfl rfl 38 _ kz (by rw [v6a_szR _ _ _ HPS.out HPD.out]; kernel_rfl) (by rw [v6a_szR _ _ _ HPS.out HPD.out]; rfl) (v6a_one _ _ _) ?_
    have kq := setRow_heap Z gB _ (v6a P P2 p2) _ _ kz
    have o4 := own_setRowR (cs' := v6a P P2 p2) o2 kz (by decide)
    have zq := heap_lt kq
    have y4 : Below W.heap.size W (Z.setRow gB (v6a P P2 p2)) := below_row yZ zB
    refine hK _ _ y4 (fun hS => ?_)
    clear hK K kz o2 yZ
    try clear g1
    generalize Z.setRow gB (v6a P P2 p2) = X at *
    try go_frame
    refine held_pure (i := 23) (oi := ⟨some 7, _, _, _, _, _⟩) rfl (by kernel_rfl) (by kernel_rfl) (by kernel_rfl) (fun _ _ _ h => h) (by rfl) (v := ?_) (fun w hSw => ?_) hS (fun hS => ?_)
    rotate_left
    · go_simp; try with_reducible rfl
    try go_frame
    refine wpAnyH_done (by kernel_rfl) ?_ _
    have at4 : At6 X gB P P2 p2 := range_hpR kq
    have b4 := hb.trans (y4.mono hb.size)
    have HF4 := Lib.hid (HF.out.below y4)
    have ow4 : Own6 X w.heap.size ⟨P, P2, p2, h6⟩ := ⟨h6, own_base o4 hb.size⟩
    clear KO KA KH KQ HF kq o4 y4 zB
    by_cases hs : size6 P ≤ m
    · have HCB : Hid (cutB m id P = [P]) := Lib.hid (by rw [cutB, if_pos hs])
      have HS0 := Lib.hid hs
      clear hs
      go_upto_region 7 with (first
        | ((with_reducible show wpList _ _ _ (Oper.mk _ (Op.load 38 _) _ _ _ _ :: _) _ _); refine wpList_val rfl (run_load_v6 rfl rfl at4 (v6l_len h6.1 h6.2)) ?_)
        | (go_at_call 91; refine (bcut_small HF4.out P P2 p2 w.heap.size ow4 b4.size HPL.out HS0.out).mono ?_; rintro e w5 ⟨v5, l5, rfl, r5, q5, x5⟩))
      have HQ5 : Hid (l5.map (·.q) = cutB m id P) := Lib.hid (by rw [HCB.out]; exact q5)
      have HF5 := Lib.hid (HF4.out.below x5)
      have K5 : Kept (fun i => i = x) w w5 := Kept.of_below (b4.trans (x5.mono b4.size))
      have HID : 0 ≤ id ∧ id < 4294967296 := HII.out
      have HCA := cutB_all HMM.out HII.out HPC.out HPN.out
      clear q5 x5 HCB HS0 at4
      have HL := Lib.hid HCA.1
      have HIDD := Lib.hid HID
      have HR5 := Lib.hid r5
      have HK5 := Lib.hid K5
      have hz5 : w.heap.size ≤ w5.heap.size := K5.size
      obtain ⟨n, hn⟩ : ∃ n, n = l5.length := ⟨_, rfl⟩
      have HN := Lib.hid hn
      obtain ⟨A5, c5, hv5⟩ : ∃ A5 c5, v5 = .slice A5 n c5 := by
        obtain ⟨A, c, e, _, _⟩ := r5.l6
        exact ⟨A, c, by rw [hn]; exact e⟩
      subst hv5
      have hn6 : n ≤ 1000000 := by
        have h1 : n = (cutB m id P).length := by rw [hn, ← HQ5.out, List.length_map]
        rw [h1]; exact cutB_len HLEN.out
      clear HCA HID r5 K5 hn
      go_wp2
      go_loopw [9, 49] (fun v i wr => ∃ (vv : Value) (j : Nat) (pre : List YB), vv = v ∧ j ≤ n ∧ i = .int .i64 (j : Int) ∧ Hid (wr.ownsRow w5.heap.size 22 1 v pre.length (pre.flatMap clY)) ∧ Hid (pre.length = j) ∧ Hid (∀ y ∈ pre, Own1 wr w5.heap.size y) ∧ Hid (pre.map (·.b) = (l5.take j).map (fun y => bld6 y.q)) ∧ Below w5.heap.size w5 wr) (fun _ i _ => n - (intOf i).toNat)
      case atStart => exact ⟨_, 0, [], rfl, Nat.zero_le _, rfl, Lib.hid (World.ownsRow_nil _ _ _ _), Lib.hid rfl, Lib.hid (fun y h => by cases h), Lib.hid rfl, Below.refl _ _⟩
      case round =>
        obtain ⟨vv, j, pre, rfl, hj, rfl, HRW, HPR, HBY, HMP, hB⟩ := hrel
        by_cases hlt : j < n
        · obtain ⟨y, hy⟩ : ∃ y, l5[j]? = some y := ⟨_, List.getElem?_eq_getElem (by rw [← HN.out]; exact hlt)⟩
          have hmem : y ∈ l5 := List.mem_of_getElem? hy
          have hCO : CutOk m P y.q := HL.out y.q (by rw [← HQ5.out]; exact List.mem_map_of_mem hmem)
          have HCK := Lib.hid hCO.chk
          have hyl : y.q.dat.length ≤ 1000000 := by have := (chk6_iff.1 hCO.chk).2; omega
          have HR := Lib.hid (HR5.out.below hB)
          obtain ⟨bb, oo, cc, ee, hr, hbb⟩ := HR.out.parts hy
          obtain ⟨rfl, _, rfl⟩ := Value.slice.inj ee
          have HYY := Lib.hid hy
          have HOY := Lib.hid (HR.out.2 y hmem)
          have HY6 := Lib.hid y.h6
          have hz := hB.size
          clear hmem hCO hy ee hj
          go_upto_region 11 with (first
            | ((with_reducible show wpList _ _ _ (Oper.mk _ (Op.load 38 _) _ _ _ _ :: _) _ _); refine wpList_val rfl (run_load_v6o rfl rfl hr (cl6_len y.h6)) ?_)
            | ((with_reducible show wpList _ _ _ (Oper.mk _ (Op.store 38 _ _) _ _ _ _ :: _) _ _); refine v6_store_new (cs := v6a y.q y.A y.c) rfl rfl rfl (by rw [v6a_szR _ _ _ HY6.out.1 HY6.out.2]) (v6a_one _ _ _) ?_))
          have kz := World.alloc_heap_new wr (.cells (v6a y.q y.A y.c) 38)
          have hV : Below wr.heap.size wr (wr.alloc (.cells (v6a y.q y.A y.c) 38)) := (Below.refl _ wr).alloc (Nat.le_refl _) _
          have hOV : Arg (wr.alloc (.cells (v6a y.q y.A y.c) 38)) wr.heap.size y.A y.c y.q.dat := (HOY.out.arg).below hV
          generalize wr.alloc (.cells (v6a y.q y.A y.c) 38) = V at *
          have atV : At6 V wr.heap.size y.q y.A y.c := range_hpR kz
          have h6y := y.h6
          clear kz hr
          go_wp2_with (first
            | ((with_reducible show wpList _ _ _ (Oper.mk _ (Op.load 38 _) _ _ _ _ :: _) _ _); refine wpList_val rfl (run_load_v6 rfl rfl atV (v6l_len h6y.1 h6y.2)) ?_)
            | (go_at_call 92; refine (c6build y.q y.A y.c V wr.heap.size HY6.out.1 HY6.out.2 hyl hOV hV.size).mono ?_; rintro e w7 ⟨v7, rfl, _, m7⟩; rw [HCK.out]; have m7 := m7 HCK.out; obtain ⟨P7, p7, rfl, g7, o7, x7⟩ := made_shape m7; have y7 : Below wr.heap.size wr w7 := hV.trans (x7.mono hV.size))
            | ((with_reducible show wpList _ _ _ (Oper.mk _ (Op.buildSlice _ _ _) _ _ _ _ :: _) _ _); refine wpList_growU rfl (run_bsY rfl rfl) ?_)
            | (at_builtin; refine append_by rfl _ _ rfl w5.heap.size _ pre rfl (own_below (own_below HRW.out y7) ((Below.refl _ w7).alloc (Nat.le_refl _) _)) w7.heap.size ⟨P7, p7, bld6 y.q⟩ rfl (cellC (World.alloc_heap_new w7 _) rfl) (by rw [HPR.out]; omega) (by have := y7.size; simp; omega) ?_; intro v8 w8 own8 grow8))
          have a7 := (Below.refl _ w7).alloc (Nat.le_refl _) (.cells #[.slice P7 (bld6 y.q).length p7] 22)
          have r7 := own_below (own_below HRW.out y7) a7
          have b7 : Below w5.heap.size w5 (w7.alloc (.cells #[.slice P7 (bld6 y.q).length p7] 22)) := (hB.trans (y7.mono hz)).trans (a7.mono (Nat.le_trans hz y7.size))
          have b8 : Below w5.heap.size w5 w8 := b7.grown grow8 (Nat.le_trans hz (Nat.le_trans y7.size a7.size)) (fun k hk => own_block_ge r7 k hk)
          have HO8 : Hid (∀ z ∈ pre ++ [(⟨P7, p7, bld6 y.q⟩ : YB)], Own1 w8 w5.heap.size z) := Lib.hid (fun z hzz => by
            have ho : Own1 (w7.alloc (.cells #[.slice P7 (bld6 y.q).length p7] 22)) w5.heap.size z := by
              rcases List.mem_append.1 hzz with h1 | h1
              · exact own_below (own_below (HBY.out z h1) y7) a7
              · rw [List.mem_singleton.1 h1]
                exact own_below (own_base o7 (Nat.le_trans hz hV.size)) a7
            exact own_beside ho r7 (nat_ne (by kernel_rfl)) grow8)
          have H8 := Lib.hid own8
          clear own8 m7 o7 g7 r7 b7 a7 grow8
          go_roundw
          case rel => exact ⟨_, _, _, _, .int .i64 ((j + 1 : Nat) : Int), ⟨j + 1, by omega, rfl, pre ++ [⟨P7, p7, bld6 y.q⟩], H8, Lib.hid (by rw [List.length_append, HPR.out]; rfl), HO8, Lib.hid (by rw [List.map_append, HMP.out, List.map_take, List.take_add_one, List.getElem?_map, HYY.out]; rfl), b8⟩, rfl, rfl, rfl, rfl, by simp⟩
          case measure => simp [intOf]; omega
        · obtain rfl : n = j := by omega
          go_wp2
          refine bodyPost_ret (results_tmp2 rfl _ _ _) rfl ?_
          have hRY : RowY wr w5.heap.size vv pre := ⟨HRW.out, HBY.out⟩
          refine ⟨_, pre, Lib.hid rfl, hRY.base hz5, Lib.hid ?_, HK5.out.trans (Kept.of_below (S := fun i => i = x) (hB.mono (Nat.le_refl _))) (fun _ _ h => h), _, HIDD.out, HF5.out.below hB⟩
          rw [HMP.out, List.take_of_length_le (by have := HN.out; omega), ← HQ5.out, List.map_map]
          rfl
    · have HCB : Hid (cutB m id P = cutL6 P id m) := Lib.hid (by rw [cutB, if_neg hs])
      have HS0 := Lib.hid hs
      have HEE := Lib.hid (cutE6_zero HMM.out HII.out HPC.out)
      clear hs
      go_upto_region 7 with (first
        | ((with_reducible show wpList _ _ _ (Oper.mk _ (Op.load 38 _) _ _ _ _ :: _) _ _); refine wpList_val rfl (run_load_v6 rfl rfl at4 (v6l_len h6.1 h6.2)) ?_)
        | (go_at_call 91; refine (bcut_big HF4.out P P2 p2 w.heap.size ow4 b4.size HPL.out HS0.out HII.out HEE.out HX.out).mono ?_; rintro e w5 ⟨v5, l5, rfl, r5, q5, x5, f5⟩))
      have HQ5 : Hid (l5.map (·.q) = cutB m id P) := Lib.hid (by rw [HCB.out]; exact q5)
      have HF5 := Lib.hid f5
      have K5 : Kept (fun i => i = x) w w5 := (Kept.of_below b4).trans x5.kept (fun _ _ h => h)
      have HID : 0 ≤ (id + 1) % 4294967296 ∧ (id + 1) % 4294967296 < 4294967296 := by omega
      have HCA := cutB_all HMM.out HII.out HPC.out HPN.out
      clear q5 x5 HCB HS0 HEE at4 f5
      have HL := Lib.hid HCA.1
      have HIDD := Lib.hid HID
      have HR5 := Lib.hid r5
      have HK5 := Lib.hid K5
      have hz5 : w.heap.size ≤ w5.heap.size := K5.size
      obtain ⟨n, hn⟩ : ∃ n, n = l5.length := ⟨_, rfl⟩
      have HN := Lib.hid hn
      obtain ⟨A5, c5, hv5⟩ : ∃ A5 c5, v5 = .slice A5 n c5 := by
        obtain ⟨A, c, e, _, _⟩ := r5.l6
        exact ⟨A, c, by rw [hn]; exact e⟩
      subst hv5
      have hn6 : n ≤ 1000000 := by
        have h1 : n = (cutB m id P).length := by rw [hn, ← HQ5.out, List.length_map]
        rw [h1]; exact cutB_len HLEN.out
      clear HCA HID r5 K5 hn
      go_wp2
      go_loopw [9, 49] (fun v i wr => ∃ (vv : Value) (j : Nat) (pre : List YB), vv = v ∧ j ≤ n ∧ i = .int .i64 (j : Int) ∧ Hid (wr.ownsRow w5.heap.size 22 1 v pre.length (pre.flatMap clY)) ∧ Hid (pre.length = j) ∧ Hid (∀ y ∈ pre, Own1 wr w5.heap.size y) ∧ Hid (pre.map (·.b) = (l5.take j).map (fun y => bld6 y.q)) ∧ Below w5.heap.size w5 wr) (fun _ i _ => n - (intOf i).toNat)
      case atStart => exact ⟨_, 0, [], rfl, Nat.zero_le _, rfl, Lib.hid (World.ownsRow_nil _ _ _ _), Lib.hid rfl, Lib.hid (fun y h => by cases h), Lib.hid rfl, Below.refl _ _⟩
      case round =>
        obtain ⟨vv, j, pre, rfl, hj, rfl, HRW, HPR, HBY, HMP, hB⟩ := hrel
        by_cases hlt : j < n
        · obtain ⟨y, hy⟩ : ∃ y, l5[j]? = some y := ⟨_, List.getElem?_eq_getElem (by rw [← HN.out]; exact hlt)⟩
          have hmem : y ∈ l5 := List.mem_of_getElem? hy
          have hCO : CutOk m P y.q := HL.out y.q (by rw [← HQ5.out]; exact List.mem_map_of_mem hmem)
          have HCK := Lib.hid hCO.chk
          have hyl : y.q.dat.length ≤ 1000000 := by have := (chk6_iff.1 hCO.chk).2; omega
          have HR := Lib.hid (HR5.out.below hB)
          obtain ⟨bb, oo, cc, ee, hr, hbb⟩ := HR.out.parts hy
          obtain ⟨rfl, _, rfl⟩ := Value.slice.inj ee
          have HYY := Lib.hid hy
          have HOY := Lib.hid (HR.out.2 y hmem)
          have HY6 := Lib.hid y.h6
          have hz := hB.size
          clear hmem hCO hy ee hj
          go_upto_region 11 with (first
            | ((with_reducible show wpList _ _ _ (Oper.mk _ (Op.load 38 _) _ _ _ _ :: _) _ _); refine wpList_val rfl (run_load_v6o rfl rfl hr (cl6_len y.h6)) ?_)
            | ((with_reducible show wpList _ _ _ (Oper.mk _ (Op.store 38 _ _) _ _ _ _ :: _) _ _); refine v6_store_new (cs := v6a y.q y.A y.c) rfl rfl rfl (by rw [v6a_szR _ _ _ HY6.out.1 HY6.out.2]) (v6a_one _ _ _) ?_))
          have kz := World.alloc_heap_new wr (.cells (v6a y.q y.A y.c) 38)
          have hV : Below wr.heap.size wr (wr.alloc (.cells (v6a y.q y.A y.c) 38)) := (Below.refl _ wr).alloc (Nat.le_refl _) _
          have hOV : Arg (wr.alloc (.cells (v6a y.q y.A y.c) 38)) wr.heap.size y.A y.c y.q.dat := (HOY.out.arg).below hV
          generalize wr.alloc (.cells (v6a y.q y.A y.c) 38) = V at *
          have atV : At6 V wr.heap.size y.q y.A y.c := range_hpR kz
          have h6y := y.h6
          clear kz hr
          go_wp2_with (first
            | ((with_reducible show wpList _ _ _ (Oper.mk _ (Op.load 38 _) _ _ _ _ :: _) _ _); refine wpList_val rfl (run_load_v6 rfl rfl atV (v6l_len h6y.1 h6y.2)) ?_)
            | (go_at_call 92; refine (c6build y.q y.A y.c V wr.heap.size HY6.out.1 HY6.out.2 hyl hOV hV.size).mono ?_; rintro e w7 ⟨v7, rfl, _, m7⟩; rw [HCK.out]; have m7 := m7 HCK.out; obtain ⟨P7, p7, rfl, g7, o7, x7⟩ := made_shape m7; have y7 : Below wr.heap.size wr w7 := hV.trans (x7.mono hV.size))
            | ((with_reducible show wpList _ _ _ (Oper.mk _ (Op.buildSlice _ _ _) _ _ _ _ :: _) _ _); refine wpList_growU rfl (run_bsY rfl rfl) ?_)
            | (at_builtin; refine append_by rfl _ _ rfl w5.heap.size _ pre rfl (own_below (own_below HRW.out y7) ((Below.refl _ w7).alloc (Nat.le_refl _) _)) w7.heap.size ⟨P7, p7, bld6 y.q⟩ rfl (cellC (World.alloc_heap_new w7 _) rfl) (by rw [HPR.out]; omega) (by have := y7.size; simp; omega) ?_; intro v8 w8 own8 grow8))
          have a7 := (Below.refl _ w7).alloc (Nat.le_refl _) (.cells #[.slice P7 (bld6 y.q).length p7] 22)
          have r7 := own_below (own_below HRW.out y7) a7
          have b7 : Below w5.heap.size w5 (w7.alloc (.cells #[.slice P7 (bld6 y.q).length p7] 22)) := (hB.trans (y7.mono hz)).trans (a7.mono (Nat.le_trans hz y7.size))
          have b8 : Below w5.heap.size w5 w8 := b7.grown grow8 (Nat.le_trans hz (Nat.le_trans y7.size a7.size)) (fun k hk => own_block_ge r7 k hk)
          have HO8 : Hid (∀ z ∈ pre ++ [(⟨P7, p7, bld6 y.q⟩ : YB)], Own1 w8 w5.heap.size z) := Lib.hid (fun z hzz => by
            have ho : Own1 (w7.alloc (.cells #[.slice P7 (bld6 y.q).length p7] 22)) w5.heap.size z := by
              rcases List.mem_append.1 hzz with h1 | h1
              · exact own_below (own_below (HBY.out z h1) y7) a7
              · rw [List.mem_singleton.1 h1]
                exact own_below (own_base o7 (Nat.le_trans hz hV.size)) a7
            exact own_beside ho r7 (nat_ne (by kernel_rfl)) grow8)
          have H8 := Lib.hid own8
          clear own8 m7 o7 g7 r7 b7 a7 grow8
          go_roundw
          case rel => exact ⟨_, _, _, _, .int .i64 ((j + 1 : Nat) : Int), ⟨j + 1, by omega, rfl, pre ++ [⟨P7, p7, bld6 y.q⟩], H8, Lib.hid (by rw [List.length_append, HPR.out]; rfl), HO8, Lib.hid (by rw [List.map_append, HMP.out, List.map_take, List.take_add_one, List.getElem?_map, HYY.out]; rfl), b8⟩, rfl, rfl, rfl, rfl, by simp⟩
          case measure => simp [intOf]; omega
        · obtain rfl : n = j := by omega
          go_wp2
          refine bodyPost_ret (results_tmp2 rfl _ _ _) rfl ?_
          have hRY : RowY wr w5.heap.size vv pre := ⟨HRW.out, HBY.out⟩
          refine ⟨_, pre, Lib.hid rfl, hRY.base hz5, Lib.hid ?_, HK5.out.trans (Kept.of_below (S := fun i => i = x) (hB.mono (Nat.le_refl _))) (fun _ _ h => h), _, HIDD.out, HF5.out.below hB⟩
          rw [HMP.out, List.take_of_length_le (by have := HN.out; omega), ← HQ5.out, List.map_map]
          rfl
end Go.Proofs.YtjoaaabdcfcdiaaGreat
namespace Go.Proofs.YtjoaaabdcfcdiaaGreat
open Go.RowKit
structure Sent (q : P4) : Prop where
  chk : chk4 q = 0
  opt : q.opt = []
  host : hostB q.src = true
  len : q.dat.length ≤ 60000
theorem Sent.back {q : P4} (h : Sent q) : prsE (bld4 q) false = 0 ∧ prsV (bld4 q) false = q := by
  have := back_ok (more := []) h.chk
  rwa [List.append_nil] at this
theorem Sent.bl {q : P4} (h : Sent q) : (bld4 q).length = 20 + q.dat.length := by rw [bld4_len, h.opt]; rfl
theorem Sent.hop {q : P4} (h : Sent q) (h1 : 1 < q.ttl) : Sent { q with ttl := q.ttl - 1 } := by
  obtain ⟨ha, h0, h2⟩ := chk4_zero h.chk
  refine ⟨?_, h.opt, h.host, h.len⟩
  have hsz : size4 { q with ttl := q.ttl - 1 } = size4 q := rfl
  have ha' : arg4 { q with ttl := q.ttl - 1 } := by
    obtain ⟨b0, b1, b2, b3, b4, b5, b6, b7, b8, b9, b10, b11, b12, b13, b14, b15, b16, b17⟩ := ha
    exact ⟨b0, b1, (by show 0 ≤ q.ttl - 1; omega), (by show q.ttl - 1 ≤ 255; omega), b4, b5, b6, b7, b8, b9, b10, b11, b12, b13, b14, b15, b16, b17⟩
  have hc := h.chk
  unfold chk4 at hc ⊢
  rw [if_pos ha] at hc
  rw [if_pos ha', hsz]
  exact hc
set_option maxRecDepth 100000 in
set_option maxHeartbeats 4000000 in
theorem bup {B0 : Nat} {w : World} {x t bm k N : Nat} {m now id : Int} {S : List Bu} {T : List Bf} {L : List Int} (h : Bf4 B0 w x t bm k m now id N S T L) (q : P4) (A : Option Addr) (c : Nat) (hA : Arg w w.heap.size A c (bld4 q)) (hq : Sent q) (ht : (Lit.int .i64 q.ttl).wf = true) (h1 : 1 < q.ttl) (hm : 1280 ≤ m ∧ m ≤ 65535) (hid : 0 ≤ id ∧ id < 4294967296) :
    Calls Tryz.prog 28 #[.pointer (some ⟨x, 0, none⟩), .slice A (bld4 q).length c] w fun e w' => ∃ v l, Hid (e = .returned (.tuple #[v, .slice none 0 0, .int .i64 0])) ∧ RowY w' w.heap.size v l ∧ Hid (l.map (·.b) = (cutB m id (wrV ownQ aftQ 64 (bld4 { q with ttl := q.ttl - 1 }))).map bld6) ∧ Kept (fun i => i = x) w w' ∧ ∃ id', (0 ≤ id' ∧ id' < 4294967296) ∧ Bf4 B0 w' x t bm k m now id' N S T L := by
  have hbl := hq.bl
  have hL : (bld4 q).length ≤ 1000000 := by have := hq.len; omega
  have HE := Lib.hid hq.back.1
  have HV := Lib.hid hq.back.2
  have HO := Lib.hid hq.opt
  have HQ := Lib.hid hq
  have HD := Lib.hid (show q.dat.length ≤ 900000 by have := hq.len; omega)
  have HF := Lib.hid h
  have HT := Lib.hid ht
  have HMM := Lib.hid hm
  have HII := Lib.hid hid
  have hq' := hq.hop h1
  obtain ⟨r, hr⟩ : ∃ r, r = ({ q with ttl := q.ttl - 1 } : P4) := ⟨_, rfl⟩
  have HR : Hid (hpV q = r) := Lib.hid (by rw [hpV, if_pos h1, hr])
  have HB : Hid (hpB q = true) := Lib.hid (decide_eq_true h1)
  rw [← hr] at hq' ⊢
  have HRS := Lib.hid hq'
  have HRO := Lib.hid hq'.opt
  have HRL := Lib.hid (show r.dat.length ≤ 900000 by have := hq'.len; omega)
  have HRB := Lib.hid (show (bld4 r).length ≤ 65535 by have := hq'.bl; have := hq'.len; omega)
  have hx := heap_lt h.obj
  clear h hq ht hm hid h1 hq' hr hbl
  go_enter Tryz.func28, Tryz.ntmps28
  go_upto_region 2 with (first
    | (go_at_call 54; refine (c4parse (bld4 q) A c w w.heap.size hA (Nat.le_refl _) hL).mono ?_; rintro e w1 ⟨P1, p1, P2, p2, rfl, ma, mb⟩; rw [HE.out]; rw [HV.out] at ma mb ⊢)
    | ((with_reducible show wpList _ _ _ (Oper.mk _ (Op.store 46 _ _) _ _ _ _ :: _) _ _); refine v4_store_new (cs := v4a q P1 p1 P2 p2) rfl rfl rfl rfl (v4a_one _ _ _ _ _) ?_))
  obtain ⟨_, _, ea, ga, _, xa⟩ := made_shape ma
  obtain ⟨_, _, eb, gb, _, _⟩ := made_shape mb
  cases ea
  cases eb
  have kz := World.alloc_heap_new w1 (.cells (v4a q P1 p1 P2 p2) 46)
  have a1 : Below w1.heap.size w1 (w1.alloc (.cells (v4a q P1 p1 P2 p2) 46)) := (Below.refl _ w1).alloc (Nat.le_refl _) _
  have y1 := xa.alloc xa.size (.cells (v4a q P1 p1 P2 p2) 46)
  have ga := ga.below a1
  have gb := gb.below a1
  have zw : w.heap.size ≤ w1.heap.size := xa.size
  generalize w1.alloc (.cells (v4a q P1 p1 P2 p2) 46) = W at *
  generalize w1.heap.size = g at *
  have zg := heap_lt kz
  have at1 := ofhE kz
  have k5 := at1.src
  clear ma mb xa a1
  go_upto_region 6 with (go_at_call 55; refine (c3host q.src W).mono ?_; rintro e w2 ⟨rfl, x2⟩; rw [HQ.out.host])
  have kz2 := (x2.block g zg).trans kz
  have at2 := ofhE kz2
  have ga2 := ga.below (x2.mono (Nat.le_of_lt zg))
  have gb2 := gb.below (x2.mono (Nat.le_of_lt zg))
  have hO0 : q.opt.length ≤ 1000000 := by rw [HO.out]; decide
  have y2 := y1.trans (x2.mono y1.size)
  have zg2 := Nat.le_trans (Nat.le_of_lt zg) x2.size
  clear kz at1 k5 ga gb x2 y1
  go_upto_region 7 with (first
    | ((with_reducible show wpList _ _ _ (Oper.mk _ (Op.load 46 _) _ _ _ _ :: _) _ _); refine wpList_val rfl (run_load_v4 rfl rfl at2 rfl) ?_)
    | (go_at_call 56; refine (cWhop q P1 p1 P2 p2 w2 hO0 HD.out HT.out g ga2 gb2 zg2).mono ?_; rintro e w3 ⟨P3, p3, P4', p4', rfl, mc, md⟩; rw [HB.out]; rw [HR.out] at mc md ⊢; obtain ⟨_, _, ed, gd, od, xd⟩ := made_shape md; cases ed; have kz3 := (xd.block g (heap_lt kz2)).trans kz2)
    | ((with_reducible show wpList _ _ _ (Oper.mk _ (Op.store 46 _ _) _ _ _ _ :: _) _ _); refine v4_store (cs := v4a r P3 p3 P4' p4') rfl rfl kz3 rfl rfl (v4a_one _ _ _ _ _) ?_))
  have kq := setRow_heap w3 g _ (v4a r P3 p3 P4' p4') _ _ kz3
  have oD := own_setRowR (cs' := v4a r P3 p3 P4' p4') od kz3 (nat_ne (by kernel_rfl))
  have y3 := y2.trans (xd.mono y2.size)
  have y4 : Below w.heap.size w (w3.setRow g (v4a r P3 p3 P4' p4')) := below_row y3 zw
  obtain ⟨_, _, ec, gc, _, _⟩ := made_shape mc
  cases ec
  clear mc md od kz2 at2 ga2 gb2 kz3 xd y2 y3
  generalize w3.setRow g (v4a r P3 p3 P4' p4') = X at *
  have at4 := ofhE kq
  have hO4 : Arg X X.heap.size P3 p3 r.opt := ⟨fun h => absurd h (by rw [HRO.out]; simp), gc.cap, gc.none_⟩
  have hD4 : Arg X X.heap.size P4' p4' r.dat := arg_own oD
  have HF4 := Lib.hid (HF.out.below y4)
  have hz4 := y4.size
  clear HF
  go_wp2_with (first
    | ((with_reducible show wpList _ _ _ (Oper.mk _ (Op.load 46 _) _ _ _ _ :: _) _ _); refine wpList_val rfl (run_load_v4 rfl rfl at4 rfl) ?_)
    | (go_at_call 58; refine (binto HF4.out r P3 p3 P4' p4' hO4 hD4 (by rw [HRO.out]; decide) (by have := HRL.out; omega) HRS.out.chk HRB.out HMM.out HII.out _ rfl).mono ?_; rintro e w5 ⟨v5, l5, he, r5, q5, k5, id5, hid5, f5⟩; obtain rfl := he.out; clear he))
  refine bodyPost_ret (results_tmp3 rfl _ _ _) rfl ?_
  exact ⟨_, l5, Lib.hid rfl, r5.base hz4, q5, (Kept.of_below y4).trans k5 (fun i hi h => h), _, hid5, f5⟩
set_option linter.unusedVariables false in
set_option maxRecDepth 100000 in
set_option maxHeartbeats 4000000 in
theorem bup_over {B0 : Nat} {w : World} {x t bm k N : Nat} {m now id : Int} {S : List Bu} {T : List Bf} {L : List Int} (h : Bf4 B0 w x t bm k m now id N S T L) (q : P4) (A : Option Addr) (c : Nat) (hA : Arg w w.heap.size A c (bld4 q)) (hq : Sent q) (ht : (Lit.int .i64 q.ttl).wf = true) (h1 : ¬ 1 < q.ttl)
    (hm : mkE 3221225474 11 0 0 (bld4 q) = 0) (h4 : chk4 (mkV 3221225474 11 0 0 (bld4 q)) = 0) (hd : (mkV 3221225474 11 0 0 (bld4 q)).dat.length ≤ 1000000) :
    Calls Tryz.prog 28 #[.pointer (some ⟨x, 0, none⟩), .slice A (bld4 q).length c] w fun e w' => ∃ g, e = .returned (.tuple #[.slice none 0 0, .slice (some ⟨g, 0, none⟩) 1 1, .int .i64 3]) ∧ Below w.heap.size w w' := by
  have hbl := hq.bl
  have hL : (bld4 q).length ≤ 900000 := by have := hq.len; omega
  have HE := Lib.hid hq.back.1
  have HV := Lib.hid hq.back.2
  have HO := Lib.hid hq.opt
  have HQ := Lib.hid hq
  have HD := Lib.hid (show q.dat.length ≤ 900000 by have := hq.len; omega)
  have HT := Lib.hid ht
  have HB : Hid (hpB q = false) := Lib.hid (decide_eq_false h1)
  have HM := Lib.hid hm
  have H4 := Lib.hid h4
  have HDD := Lib.hid hd
  have HA := Lib.hid hA
  clear h hq ht hm h4 hd h1 hbl hA
  go_enter Tryz.func28, Tryz.ntmps28
  go_upto_region 2 with (first
    | (go_at_call 54; refine (c4parse (bld4 q) A c w w.heap.size HA.out (Nat.le_refl _) (by omega)).mono ?_; rintro e w1 ⟨P1, p1, P2, p2, rfl, ma, mb⟩; rw [HE.out]; rw [HV.out] at ma mb ⊢)
    | ((with_reducible show wpList _ _ _ (Oper.mk _ (Op.store 46 _ _) _ _ _ _ :: _) _ _); refine v4_store_new (cs := v4a q P1 p1 P2 p2) rfl rfl rfl rfl (v4a_one _ _ _ _ _) ?_))
  obtain ⟨_, _, ea, ga, _, xa⟩ := made_shape ma
  obtain ⟨_, _, eb, gb, _, _⟩ := made_shape mb
  cases ea
  cases eb
  have kz := World.alloc_heap_new w1 (.cells (v4a q P1 p1 P2 p2) 46)
  have a1 : Below w1.heap.size w1 (w1.alloc (.cells (v4a q P1 p1 P2 p2) 46)) := (Below.refl _ w1).alloc (Nat.le_refl _) _
  have y1 := xa.alloc xa.size (.cells (v4a q P1 p1 P2 p2) 46)
  have ga := ga.below a1
  have gb := gb.below a1
  have zw : w.heap.size ≤ w1.heap.size := xa.size
  generalize w1.alloc (.cells (v4a q P1 p1 P2 p2) 46) = W at *
  generalize w1.heap.size = g at *
  have zg := heap_lt kz
  have at1 := ofhE kz
  have k5 := at1.src
  clear ma mb xa a1
  go_upto_region 6 with (go_at_call 55; refine (c3host q.src W).mono ?_; rintro e w2 ⟨rfl, x2⟩; rw [HQ.out.host])
  have kz2 := (x2.block g zg).trans kz
  have at2 := ofhE kz2
  have ga2 := ga.below (x2.mono (Nat.le_of_lt zg))
  have gb2 := gb.below (x2.mono (Nat.le_of_lt zg))
  have hO0 : q.opt.length ≤ 1000000 := by rw [HO.out]; decide
  have y2 := y1.trans (x2.mono y1.size)
  have zg2 := Nat.le_trans (Nat.le_of_lt zg) x2.size
  obtain ⟨r, hr⟩ : ∃ r, r = hpV q := ⟨_, rfl⟩
  have HR := Lib.hid hr.symm
  clear kz at1 k5 ga gb x2 y1 hr
  go_upto_region 7 with (first
    | ((with_reducible show wpList _ _ _ (Oper.mk _ (Op.load 46 _) _ _ _ _ :: _) _ _); refine wpList_val rfl (run_load_v4 rfl rfl at2 rfl) ?_)
    | (go_at_call 56; refine (cWhop q P1 p1 P2 p2 w2 hO0 HD.out HT.out g ga2 gb2 zg2).mono ?_; rintro e w3 ⟨P3, p3, P4', p4', rfl, mc, md⟩; rw [HB.out]; rw [HR.out] at mc md ⊢; obtain ⟨_, _, ed, gd, od, xd⟩ := made_shape md; cases ed; have kz3 := (xd.block g (heap_lt kz2)).trans kz2)
    | ((with_reducible show wpList _ _ _ (Oper.mk _ (Op.store 46 _ _) _ _ _ _ :: _) _ _); refine v4_store (cs := v4a r P3 p3 P4' p4') rfl rfl kz3 rfl rfl (v4a_one _ _ _ _ _) ?_))
  have y3 := y2.trans (xd.mono y2.size)
  have y4 : Below w.heap.size w (w3.setRow g (v4a r P3 p3 P4' p4')) := below_row y3 zw
  clear mc md od kz2 at2 ga2 gb2 kz3 xd y2 y3 gd
  generalize w3.setRow g (v4a r P3 p3 P4' p4') = X at *
  go_wp2_with (go_at_call 57; refine (bover (bld4 q) A c w.heap.size X (HA.out.below y4) y4.size hL HM.out H4.out HDD.out).mono ?_; rintro e w5 ⟨g5, rfl, x5⟩)
  refine bodyPost_ret (results_tmp3 rfl _ _ _) rfl ?_
  exact ⟨_, rfl, y4.trans (x5.mono y4.size)⟩
section
variable {B0 : Nat} {w w' : World} {x t bm k N : Nat} {m now id : Int} {S : List Bu} {T : List Bf} {L : List Int}
set_option maxRecDepth 100000 in
theorem bmade (h : Bf4 B0 w x t bm k m now id N S T L) : Calls Tryz.prog 27 #[.pointer (some ⟨x, 0, none⟩)] w fun e w' => e = .returned (.bool true) ∧ w = w' := by
  have k0 := h.cell 37 _ rfl
  clear h
  go_enter Tryz.func27, Tryz.ntmps27
  go_wp2
  go_ret
  exact ⟨rfl, rfl⟩
theorem Bf4.count (h : Bf4 B0 w x t bm k m now id N S T L) (r : Int) (hc : Cn w' k (upC L r)) (o : OneC k w w') : Bf4 B0 w' x t bm k m now id (N + 1) S T (upC L r) :=
  ⟨(o.block (heap_lt h.obj) h.ne).trans h.obj, (h.jv.one h.cn.obj (.inr rfl) o.kept).mono (Nat.le_succ _), h.sm, hc, bdC_up h.bd h.cn.n r, h.bx, h.bk, Nat.le_trans h.be o.size⟩
theorem RowY.one {base : Nat} {v : Value} {l : List YB} (h : RowY w base v l) {x : Nat} {cs : Array Value} {ty : TypeId} {fr : Nat × Nat} (hx : w.heap[x]? = some (.cells cs ty fr)) (ht : T32 ty) (k : Kept (fun i => i = x) w w') : RowY w' base v l :=
  ⟨own_one h.1 hx ht t32_no.2.2.2.2.2.2 k, fun y hy => own_one (h.2 y hy) hx ht t32_no.2.2.2.1 k⟩
def KB (x k : Nat) (w w' : World) : Prop := Kept (fun i => i = x ∨ i = k) w w'
theorem KB.below {B : Nat} (h : KB x k w w') (hx : B ≤ x) (hk : B ≤ k) (hB : B ≤ w.heap.size) : Below B w w' := by
  refine ⟨h.os, h.tape, h.output, h.size, fun i hi => h.block i (by omega) (fun e => by omega)⟩
set_option maxRecDepth 100000 in
set_option maxHeartbeats 4000000 in
theorem bhost (h : Bf4 B0 w x t bm k m now id N S T L) (hN : N ≤ 1000000000) (q : P4) (A : Option Addr) (c : Nat) (hA : Arg w w.heap.size A c (bld4 q)) (hq : Sent q) (ht : (Lit.int .i64 q.ttl).wf = true) (h1 : 1 < q.ttl) (hm : 1280 ≤ m ∧ m ≤ 65535) (hid : 0 ≤ id ∧ id < 4294967296) :
    Calls Tryz.prog 10 #[.pointer (some ⟨x, 0, none⟩), .slice A (bld4 q).length c] w fun e w' => ∃ v l, Hid (e = .returned (.tuple #[v, .slice none 0 0, .int .i64 0])) ∧ RowY w' w.heap.size v l ∧ Hid (l.map (·.b) = (cutB m id (wrV ownQ aftQ 64 (bld4 { q with ttl := q.ttl - 1 }))).map bld6) ∧ KB x k w w' ∧ ∃ id', (0 ≤ id' ∧ id' < 4294967296) ∧ Bf4 B0 w' x t bm k m now id' (N + 1) S T L := by
  have HF := Lib.hid h
  have HU := Lib.hid (bup h q A c hA hq ht h1 hm hid)
  obtain ⟨M, hM⟩ : ∃ M, M = (cutB m id (wrV ownQ aftQ 64 (bld4 { q with ttl := q.ttl - 1 }))).map bld6 := ⟨_, rfl⟩
  rw [← hM] at HU ⊢
  have HBd := Lib.hid h.bd
  clear h hA hq ht h1 hm hid hM
  go_enter Tryz.func10, Tryz.ntmps10
  go_upto_region 4 with (first
    | (go_at_call 27; refine (bmade HF.out).mono ?_; rintro e w1 ⟨rfl, rfl⟩)
    | (go_at_call 28; refine HU.out.mono ?_; rintro e w2 ⟨v2, l2, he, r2, q2, k2, id2, hid2, f2⟩; obtain rfl := he.out; clear he))
  have HF2 := Lib.hid f2
  have c38 := f2.cell 38 _ rfl
  have HR2 := Lib.hid r2
  clear f2 r2
  go_wp2_with (go_at_call 29; refine (cnadd HF2.out.cn HF2.out.bd hN 0).mono ?_; rintro e w3 ⟨rfl, c3, o3⟩)
  refine bodyPost_ret (results_tmp3 rfl _ _ _) rfl ?_
  have hu : upC L 0 = L := rfl
  have f3 := HF2.out.count 0 c3 o3
  rw [hu] at f3
  refine ⟨_, l2, Lib.hid rfl, HR2.out.one HF2.out.cn.obj (.inr rfl) o3.kept, q2, ?_, id2, hid2, f3⟩
  exact (k2.mono (fun i _ e => .inl e)).trans (o3.kept.mono (fun i _ e => (.inr e : i = x ∨ i = k))) (fun _ _ h => h)
theorem bhost_over (h : Bf4 B0 w x t bm k m now id N S T L) (hN : N ≤ 1000000000) (q : P4) (A : Option Addr) (c : Nat) (hA : Arg w w.heap.size A c (bld4 q)) (hq : Sent q) (ht : (Lit.int .i64 q.ttl).wf = true) (h1 : ¬ 1 < q.ttl)
    (hm : mkE 3221225474 11 0 0 (bld4 q) = 0) (h4 : chk4 (mkV 3221225474 11 0 0 (bld4 q)) = 0) (hd : (mkV 3221225474 11 0 0 (bld4 q)).dat.length ≤ 1000000) :
    Calls Tryz.prog 10 #[.pointer (some ⟨x, 0, none⟩), .slice A (bld4 q).length c] w fun e w' => ∃ g, e = .returned (.tuple #[.slice none 0 0, .slice (some ⟨g, 0, none⟩) 1 1, .int .i64 3]) ∧ KB x k w w' := by
  have HF := Lib.hid h
  have HU := Lib.hid (bup_over h q A c hA hq ht h1 hm h4 hd)
  clear h hA hq ht h1 hm h4 hd
  go_enter Tryz.func10, Tryz.ntmps10
  go_upto_region 4 with (first
    | (go_at_call 27; refine (bmade HF.out).mono ?_; rintro e w1 ⟨rfl, rfl⟩)
    | (go_at_call 28; refine HU.out.mono ?_; rintro e w2 ⟨g2, rfl, x2⟩))
  have HF2 := Lib.hid (HF.out.below x2)
  have c38 := HF2.out.cell 38 _ rfl
  go_wp2_with (go_at_call 29; refine (cnadd HF2.out.cn HF2.out.bd hN 3).mono ?_; rintro e w3 ⟨rfl, c3, o3⟩)
  refine bodyPost_ret (results_tmp3 rfl _ _ _) rfl ?_
  exact ⟨_, rfl, (Kept.of_below (S := fun i => i = x ∨ i = k) x2).trans (o3.kept.mono (fun i _ e => (.inr e : i = x ∨ i = k))) (fun _ _ h => h)⟩
end
end Go.Proofs.YtjoaaabdcfcdiaaGreat
