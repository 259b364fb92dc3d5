/-
  Contracts and lemmas on which the proofs of this seat stand (several texts in one). Conditions are each theorem's own.
-/
import Derived.Test.YtjoaaabdcfcdiaaGreatMb17
import Derived.Test.YtjoaaabdcfcdiaaGreatMb9
import Derived.Test.YtjoaaabdcfcdiaaGreatMb7
import Derived.Test.YtjoaaabdcfcdiaaGreatMb11
namespace Go.Proofs.YtjoaaabdcfcdiaaGreat
open Go.RowKit
theorem baddr (w : World) : Calls Tryz.prog 21 #[] w fun e w' => e = .returned (.int .i64 3221225474) ∧ w = w' := by
  go_enter Tryz.func21, Tryz.ntmps21
  go_wp2
  go_ret
  exact ⟨rfl, rfl⟩
set_option maxRecDepth 100000 in
set_option maxHeartbeats 4000000 in
theorem bbuilt (q : P4) (A : Option Addr) (c : Nat) (A' : Option Addr) (c' B : Nat) (w : World) (hO : Arg w B A c q.opt) (hD : Arg w B A' c' q.dat) (hB0 : B ≤ w.heap.size) (ho : q.opt.length ≤ 1000000) (hd : q.dat.length ≤ 1000000) (h4 : chk4 q = 0) :
    Calls Tryz.prog 89 #[.agg (v4a q A c A' c')] w fun e w' => ∃ P p, e = .returned (.slice P (bld4 q).length p) ∧ Made w w' (.slice P (bld4 q).length p) (bld4 q) := by
  have hb := (Below.refl _ w).alloc (Nat.le_refl _) (.cells (v4a q A c A' c') 46)
  have k0 := World.alloc_heap_new w (.cells (v4a q A c A' c') 46)
  have HC := Lib.hid h4
  clear h4
  go_enter Tryz.func89, Tryz.ntmps89
  go_upto_region 1 with fail
  generalize w.alloc (.cells (v4a q A c A' c') 46) = W at *
  have at0 := ofhE k0
  have hO := hO.below (hb.mono hB0)
  have hD := hD.below (hb.mono hB0)
  go_wp2_with (first
    | ((with_reducible show wpList _ _ _ (Oper.mk _ (Op.load 46 _) _ _ _ _ :: _) _ _); refine wpList_val rfl (run_load_v4 rfl rfl at0 rfl) ?_)
    | (go_at_call 122; refine (c4build q A c A' c' W B hO hD (Nat.le_trans hB0 hb.size) ho hd).mono ?_; rintro e w1 ⟨v, rfl, _, m1⟩; rw [HC.out]; have m1 := m1 HC.out; obtain ⟨P, p, rfl, g1, o1, x1⟩ := made_shape m1))
  go_ret
  exact ⟨P, p, rfl, Made.of_own (own_base o1 hb.size) (hb.trans (x1.mono hb.size))⟩
set_option maxRecDepth 100000 in
set_option maxHeartbeats 4000000 in
theorem bover (b : List UInt8) (A : Option Addr) (c B : Nat) (w : World) (hA : Arg w B A c b) (hB : B ≤ w.heap.size) (hl : b.length ≤ 900000) (hm : mkE 3221225474 11 0 0 b = 0) (h4 : chk4 (mkV 3221225474 11 0 0 b) = 0) (hd : (mkV 3221225474 11 0 0 b).dat.length ≤ 1000000) :
    Calls Tryz.prog 57 #[.slice A b.length c] w fun e w' => ∃ g, e = .returned (.slice (some ⟨g, 0, none⟩) 1 1) ∧ Below w.heap.size w w' := by
  obtain ⟨q, hq⟩ : ∃ q, q = mkV 3221225474 11 0 0 b := ⟨_, rfl⟩
  have hqo : q.opt = [] := by rw [hq, mkV]; split <;> rfl
  have HM := Lib.hid hm
  have HQ := Lib.hid hq
  have HC := Lib.hid (show chk4 q = 0 by rw [hq]; exact h4)
  have HL := Lib.hid (show q.dat.length ≤ 1000000 by rw [hq]; exact hd)
  have HO := Lib.hid hqo
  clear hm hq h4 hd hqo
  go_enter Tryz.func57, Tryz.ntmps57
  go_upto_region 2 with (first
    | (go_at_call 21; refine (baddr _).mono ?_; rintro e w0 ⟨rfl, rfl⟩)
    | (go_at_call 88; refine (cEmake 3221225474 11 0 0 b A c B w hA hB hl).mono ?_; rintro e w1 ⟨P1, p1, rfl, m1⟩; rw [HM.out]; rw [← HQ.out] at m1 ⊢)
    | ((with_reducible show wpList _ _ _ (Oper.mk _ (Op.store 46 _ _) _ _ _ _ :: _) _ _); refine v4_store_new (cs := v4a q none 0 P1 p1) rfl rfl rfl rfl (v4a_one _ _ _ _ _) ?_))
  obtain ⟨_, _, e1, g1, _, x1⟩ := made_shape m1
  cases e1
  have kz1 := World.alloc_heap_new w1 (.cells (v4a q none 0 P1 p1) 46)
  have u1 : Below w1.heap.size w1 (w1.alloc (.cells (v4a q none 0 P1 p1) 46)) := (Below.refl _ w1).alloc (Nat.le_refl _) _
  generalize w1.alloc (.cells (v4a q none 0 P1 p1) 46) = W1 at *
  have y1 := x1.trans (u1.mono x1.size)
  have g1 := g1.below u1
  have at1 := ofhE kz1
  have hn : Arg W1 w1.heap.size none 0 q.opt := by rw [HO.out]; exact Arg.nil _ _
  have hn0 : q.opt.length ≤ 1000000 := by rw [HO.out]; decide
  clear m1
  go_wp2_with (first
    | ((with_reducible show wpList _ _ _ (Oper.mk _ (Op.load 46 _) _ _ _ _ :: _) _ _); refine wpList_val rfl (run_load_v4 rfl rfl at1 rfl) ?_)
    | (go_at_call 89; refine (bbuilt q none 0 P1 p1 w1.heap.size W1 hn g1 u1.size hn0 HL.out HC.out).mono ?_; rintro e w2 ⟨P, p, rfl, m2⟩; obtain ⟨_, _, e2, g2, _, x2⟩ := made_shape m2; cases e2; clear m2))
  go_ret
  exact ⟨_, rfl, (y1.trans (x2.mono y1.size)).alloc (Nat.le_trans y1.size x2.size) _⟩
end Go.Proofs.YtjoaaabdcfcdiaaGreat
namespace Go.Proofs.YtjoaaabdcfcdiaaGreat
open Go.RowKit
theorem fg6_mem (q : P6) (id mtu : Int) : ∀ (f off : Nat), ∀ p ∈ fg6 q id mtu f off, ∃ d, p = { q with next := 44, dat := d }
  | 0, off, p, hp => by cases hp
  | f + 1, off, p, hp => by
    rw [fg6] at hp
    split at hp
    · rcases List.mem_cons.1 hp with rfl | hp
      · exact ⟨_, rfl⟩
      · exact fg6_mem q id mtu f _ p hp
    · rcases List.mem_singleton.1 hp with rfl
      exact ⟨_, rfl⟩
def cutB (m id : Int) (q : P6) : List P6 := if size6 q ≤ m then [q] else cutL6 q id m
def pieceB (p : P6) : List UInt8 := if prtO p = true then prtB p else p.dat
theorem chk6_iff {q : P6} : chk6 q = 0 ↔ arg6 q ∧ (q.dat.length : Int) ≤ 65535 := by
  unfold chk6
  split
  · rename_i ha
    split
    · constructor
      · intro h; cases h
      · intro h; omega
    · exact ⟨fun _ => ⟨ha, by omega⟩, fun _ => rfl⟩
  · rename_i ha
    exact ⟨fun h => (by cases h), fun h => absurd h.1 ha⟩
theorem cutE6_zero {q : P6} {id m : Int} (hm : 1280 ≤ m ∧ m ≤ 65535) (hi : 0 ≤ id ∧ id < 4294967296) (hc : chk6 q = 0) : cutE6 q id m = 0 := by
  rw [cutE6, if_neg (by omega), hc]
structure CutOk (m : Int) (q p : P6) : Prop where
  chk : chk6 p = 0
  src : p.src = q.src
  dst : p.dst = q.dst
  hop : p.hop = q.hop
  size : size6 p ≤ m
theorem cutB_all {q : P6} {id m : Int} (hm : 1280 ≤ m ∧ m ≤ 65535) (hi : 0 ≤ id ∧ id < 4294967296) (hc : chk6 q = 0) (hn : q.next = 4) :
    (∀ p ∈ cutB m id q, CutOk m q p) ∧ (cutB m id q).flatMap pieceB = q.dat ∧ (size6 q ≤ m → cutB m id q = [q]) := by
  have hE := cutE6_zero hm hi hc
  unfold cutB
  by_cases hs : size6 q ≤ m
  · rw [if_pos hs]
    refine ⟨fun p hp => ?_, ?_, fun _ => rfl⟩
    · rw [List.mem_singleton.1 hp]; exact ⟨hc, rfl, rfl, rfl, hs⟩
    · rw [List.flatMap_cons, List.flatMap_nil, List.append_nil, pieceB, if_neg (by rw [prtO, hn]; simp)]
  · rw [if_neg hs]
    have hl : (cutL6 q id m).length ≠ 1 := fun h => hs (cut6_one hE h).2
    have hF := cut6_many hE hl
    have hrst : cutL6 q id m = rst6 q id m 0 := by rw [cutL6, if_pos hE, if_neg hs]
    refine ⟨fun p hp => ?_, ?_, fun h => absurd h hs⟩
    · have hp2 := hp
      rw [hrst] at hp2
      obtain ⟨d, hd⟩ := fg6_mem q id m _ _ p hp2
      clear hp2
      obtain ⟨i, hi', rfl⟩ := List.getElem_of_mem hp
      obtain ⟨g1, g2, g3, g4, g5, g6, g7, g8, g9⟩ := hF.at_ i hi'
      refine ⟨chk6_iff.2 ⟨?_, ?_⟩, g7, g8, g9, g2⟩
      · obtain ⟨a0, a1, _, _, a4, a5, a6, a7⟩ := (chk6_iff.1 hc).1
        rw [hd]
        exact ⟨a0, a1, (by show (0 : Int) ≤ 44; decide), (by show (44 : Int) ≤ 255; decide), a4, a5, a6, a7⟩
      · have := g2
        unfold size6 at this
        omega
    · have e : ∀ l : List P6, (∀ p ∈ l, prtO p = true) → l.flatMap pieceB = behs l := by
        intro l
        induction l with
        | nil => intro _; rfl
        | cons p l ih =>
          intro h
          rw [List.flatMap_cons, ih (fun x hx => h x (List.mem_cons_of_mem _ hx)), pieceB, if_pos (h p (List.mem_cons_self ..))]
          rfl
      rw [e _ (fun p hp => by obtain ⟨i, hi', rfl⟩ := List.getElem_of_mem hp; exact (hF.at_ i hi').1), hF.all, List.drop_zero]
theorem cutB_len {q : P6} {id m : Int} (h : q.dat.length ≤ 65535) : (cutB m id q).length ≤ 1000000 := by
  unfold cutB cutL6
  have := rst6_len q id m 0
  repeat' split
  all_goals first | (simp; done) | omega
end Go.Proofs.YtjoaaabdcfcdiaaGreat
namespace Go.Proofs.YtjoaaabdcfcdiaaGreat
open Go.RowKit
theorem OneC.kept {k : Nat} {w w' : World} (h : OneC k w w') : Kept (fun i => i = k) w w' := by
  obtain ⟨v, hv, rfl | ⟨q, u, rfl⟩⟩ := h
  · exact Kept.of_below hv
  · exact (Kept.of_below hv).trans (Kept.setCell v k q u) (fun _ _ h => h)
def T32 (ty : TypeId) : Prop := ty = 60 ∨ ty = 97
theorem t32_no : ¬ T32 94 ∧ ¬ T32 182 ∧ ¬ T32 207 ∧ ¬ T32 5 ∧ ¬ T32 124 ∧ ¬ T32 38 ∧ ¬ T32 22 := by
  refine ⟨?_, ?_, ?_, ?_, ?_, ?_, ?_⟩ <;> (rintro (h | h) <;> exact absurd h (nat_ne (by kernel_rfl)))
theorem away32 {w : World} {x : Nat} {cs : Array Value} {ty : TypeId} {fr : Nat × Nat} (hx : w.heap[x]? = some (.cells cs ty fr)) (ht : T32 ty) : AwayT w (fun i => i = x) T32 := fun j hj cs' ty' fr' hg => by
  subst hj
  rw [hx] at hg
  injection hg with hg
  injection hg with _ e2 _
  rw [← e2]; exact ht
theorem Jv.one {w w' : World} {B0 t bm : Nat} {mb my wt : Int} {N : Nat} {S : List Bu} (h : Jv w B0 t bm mb my wt N S) {x : Nat} {cs : Array Value} {ty : TypeId} {fr : Nat × Nat} (hx : w.heap[x]? = some (.cells cs ty fr)) (ht : T32 ty) (k : Kept (fun i => i = x) w w') : Jv w' B0 t bm mb my wt N S := by
  refine ⟨h.tx.awayP k (away32 hx ht) t32_no.1 t32_no.2.1 t32_no.2.2.1 t32_no.2.2.2.1 t32_no.2.2.2.2.1 (fun e => ?_), h.z, h.by_, h.n, h.l⟩
  obtain ⟨es, hm, _⟩ := h.tx.map
  rw [← e] at hx
  exact map_is hm hx
theorem own_one {w w' : World} {base e sz n : Nat} {v : Value} {xs : List Value} (h : w.ownsRow base e sz v n xs) {x : Nat} {cs : Array Value} {ty : TypeId} {fr : Nat × Nat} (hx : w.heap[x]? = some (.cells cs ty fr)) (ht : T32 ty) (he : ¬ T32 e) (k : Kept (fun i => i = x) w w') : w'.ownsRow base e sz v n xs :=
  own_keptA h k (away32 hx ht) he
section
variable {B0 : Nat} {w w' : World} {x t bm k N : Nat} {m now id : Int} {S : List Bu} {T : List Bf} {L : List Int}
theorem Bf4.setId (h : Bf4 B0 w x t bm k m now id N S T L) (id' : Int) : Bf4 B0 (w.setCell ⟨x, 40, none⟩ (.int .i64 id')) x t bm k m now id' N S T L := by
  have hx := h.obj
  refine ⟨?_, h.jv.one hx (.inl rfl) (Kept.setCell w x 40 _), h.sm, h.cn.keep (heap_setCell_other w ⟨x, 40, none⟩ k _ (Ne.symm h.ne)), h.bd, h.bx, h.bk, by simpa using h.be⟩
  have := heap_setCell_same w x 40 _ _ (.int .i64 id') hx
  rw [this]
  rfl
end
set_option maxRecDepth 100000 in
set_option maxHeartbeats 4000000 in
theorem bcut_small {B0 : Nat} {w : World} {x t bm k N : Nat} {m now id : Int} {S : List Bu} {T : List Bf} {L : List Int} (h : Bf4 B0 w x t bm k m now id N S T L) (q : P6) (A : Option Addr) (c base : Nat) {H6 : ok6 q} (ho : Own6 w base ⟨q, A, c, H6⟩) (hbase : base ≤ w.heap.size) (hdl : q.dat.length ≤ 1000000) (hs : size6 q ≤ m) :
    Calls Tryz.prog 91 #[.pointer (some ⟨x, 0, none⟩), .agg (v6a q A c)] w fun e w' => ∃ v l, e = .returned (.tuple #[v, .int .i64 0]) ∧ Row6 w' base v l ∧ l.map (·.q) = [q] ∧ Below w.heap.size w w' := by
  have d1 : decide (size6 q ≤ m) = true := decide_eq_true hs
  clear hs
  have hb := (Below.refl _ w).alloc (Nat.le_refl _) (.cells (v6a q A c) 38)
  have k0 := World.alloc_heap_new w (.cells (v6a q A c) 38)
  have zg := heap_lt k0
  have HF := Lib.hid (h.below hb)
  have h6 := ho.1
  have hD : Arg (w.alloc (.cells (v6a q A c) 38)) w.heap.size A c q.dat := (ho.arg).below hb
  have HO := Lib.hid (own_below ho.2 hb)
  clear h ho
  go_enter Tryz.func91, Tryz.ntmps91
  go_upto_region 1 with fail
  generalize w.alloc (.cells (v6a q A c) 38) = W at *
  have KQ : Hid (∀ V, Below W.heap.size W V → At6 V w.heap.size q A c) := Lib.hid (fun V hV => range_hpR ((hV.block _ zg).trans k0))
  have KM : Hid (∀ V, Below W.heap.size W V → V.cell? ⟨x, 32, none⟩ = some (.int .i64 m)) := Lib.hid (fun V hV => (HF.out.below hV).cell 32 _ rfl)
  refine wp_region_held_drew (S := fun V => Below W.heap.size W V) (by kernel_rfl) (Below.refl _ W).drew (fun hS => ?_)
  refine held_pure (i := 0) (oi := ⟨some 8, _, _, _, _, _⟩) rfl (by kernel_rfl) (by kernel_rfl) (by kernel_rfl) (fun _ _ _ h => h) (by rfl) (fun w hSw => run_load_v6 rfl rfl (KQ.out w hSw) (v6l_len h6.1 h6.2)) hS (fun hS => ?_)
  try go_frame
  refine held_pure (i := 2) (oi := ⟨some 10, _, _, _, _, _⟩) rfl (by kernel_rfl) (by kernel_rfl) (by kernel_rfl) (fun _ _ _ h => h) (by rfl) (v := ?_) (fun w hSw => ?_) hS (fun hS => ?_)
  rotate_left
  · go_simp; try with_reducible rfl
  try go_frame
  refine held_pure (i := 3) (oi := ⟨some 11, _, _, _, _, _⟩) rfl (by kernel_rfl) (by kernel_rfl) (by kernel_rfl) (fun _ _ _ h => h) (by rfl) (v := ?_) (fun w hSw => ?_) hS (fun hS => ?_)
  rotate_left
  · go_simp; try with_reducible rfl
  try go_frame
  refine held_pure (i := 4) (oi := ⟨some 12, _, _, _, _, _⟩) rfl (by kernel_rfl) (by kernel_rfl) (by kernel_rfl) (fun _ _ _ h => h) (by rfl) (v := ?_) (fun w hSw => ?_) hS (fun hS => ?_)
  rotate_left
  · go_simp; try with_reducible rfl
  try go_frame
  refine held_pure (i := 5) (oi := ⟨some 13, _, _, _, _, _⟩) rfl (by kernel_rfl) (by kernel_rfl) (by kernel_rfl) (fun _ _ _ h => h) (by rfl) (v := ?_) (fun w hSw => ?_) hS (fun hS => ?_)
  rotate_left
  · go_simp; try with_reducible rfl
  try go_frame
  refine held_pure (i := 6) (oi := ⟨some 14, _, _, _, _, _⟩) rfl (by kernel_rfl) (by kernel_rfl) (by kernel_rfl) (fun _ _ _ h => h) (by rfl) (fun w hSw => run_load_int rfl rfl (KM.out w hSw)) hS (fun hS => ?_)
  try go_frame
  refine wpAnyH_ready (rs := [1]) (by kernel_rfl) (by simp) (AllReadyH.cons (o := ⟨some 9, _, _, _, _, _⟩) rfl (fun K hK => ?_) AllReadyH.nil)
  rw [if_pos (by rfl)]
  go_simp
  refine (c6size q A c W.drew h6.1 h6.2 hdl).mono ?_
  rintro e w1 ⟨rfl, x1⟩
  have y1 : Below W.heap.size W w1 := ((Below.refl _ W).drew).trans x1
  show K _ _
  refine hK.out _ _ y1 (fun hS => ?_)
  clear hK K
  try go_frame
  refine held_pure (i := 7) (oi := ⟨some 15, _, _, _, _, _⟩) rfl (by kernel_rfl) (by kernel_rfl) (by kernel_rfl) (fun _ _ _ h => h) (by rfl) (v := ?_) (fun w hSw => ?_) hS (fun hS => ?_)
  rotate_left
  · go_simp; try with_reducible rfl
  try go_frame
  refine wpAnyH_done (by kernel_rfl) ?_ _
  have at1 := KQ.out _ y1
  go_wp2_with (first
    | ((with_reducible show wpList _ _ _ (Oper.mk _ (Op.load 38 _) _ _ _ _ :: _) _ _); refine wpList_val rfl (run_load_v6 rfl rfl at1 (v6l_len h6.1 h6.2)) ?_)
    | ((with_reducible show wpList _ _ _ (Oper.mk _ (Op.buildSlice _ _ _) _ _ _ _ :: _) _ _); refine wpList_growU rfl (run_bs6 (cs := v6a q A c) rfl rfl (v6a_size h6)) ?_))
  refine bodyPost_ret (results_tmp2 rfl _ _ _) rfl ?_
  have hB1 := hb.trans (y1.mono hb.size)
  have rowN := World.ownsRow_lit (base := base) (e := 38) (size := 37) w1 (v6a q A c) 1 (Nat.le_trans hbase hB1.size) (by decide) (v6a_size h6)
  have eN : [(⟨q, A, c, h6⟩ : X6)].flatMap cl6 = (v6a q A c).toList := by simp [cl6, v6a]
  rw [← eN] at rowN
  have hNew : Below w1.heap.size w1 (w1.alloc (.cells (v6a q A c) 38)) := (Below.refl _ _).alloc (Nat.le_refl _) _
  exact ⟨_, rfl, _, ⟨rowN, fun y hy => by rw [List.mem_singleton.1 hy]; exact ⟨h6, own_below (own_below HO.out y1) hNew⟩⟩, ⟨_, rfl, rfl⟩, hB1.alloc hB1.size _⟩
set_option maxRecDepth 100000 in
set_option maxHeartbeats 4000000 in
theorem bcut_big {B0 : Nat} {w : World} {x t bm k N : Nat} {m now id : Int} {S : List Bu} {T : List Bf} {L : List Int} (h : Bf4 B0 w x t bm k m now id N S T L) (q : P6) (A : Option Addr) (c base : Nat) {H6 : ok6 q} (ho : Own6 w base ⟨q, A, c, H6⟩) (hbase : base ≤ w.heap.size) (hdl : q.dat.length ≤ 1000000) (hs : ¬ size6 q ≤ m)
    (hid : 0 ≤ id ∧ id < 4294967296) (hE : cutE6 q id m = 0) (hx : x < base) :
    Calls Tryz.prog 91 #[.pointer (some ⟨x, 0, none⟩), .agg (v6a q A c)] w fun e w' => ∃ v l, e = .returned (.tuple #[v, .int .i64 0]) ∧ Row6 w' base v l ∧ l.map (·.q) = cutL6 q id m ∧ OneC x w w' ∧ Bf4 B0 w' x t bm k m now ((id + 1) % 4294967296) N S T L := by
  have d1 : decide (size6 q ≤ m) = false := decide_eq_false hs
  have HE := Lib.hid hE
  have HI := Lib.hid hid
  have hB0 : w.heap.size ≤ w.heap.size := Nat.le_refl _
  clear hs hE hid
  have hb := (Below.refl _ w).alloc (Nat.le_refl _) (.cells (v6a q A c) 38)
  have k0 := World.alloc_heap_new w (.cells (v6a q A c) 38)
  have zg := heap_lt k0
  have HF := Lib.hid (h.below hb)
  have h6 := ho.1
  have hD : Arg (w.alloc (.cells (v6a q A c) 38)) w.heap.size A c q.dat := (ho.arg).below hb
  have HO := Lib.hid (own_below ho.2 hb)
  clear h ho
  go_enter Tryz.func91, Tryz.ntmps91
  go_upto_region 1 with fail
  generalize w.alloc (.cells (v6a q A c) 38) = W at *
  have KQ : Hid (∀ V, Below W.heap.size W V → At6 V w.heap.size q A c) := Lib.hid (fun V hV => range_hpR ((hV.block _ zg).trans k0))
  have KM : Hid (∀ V, Below W.heap.size W V → V.cell? ⟨x, 32, none⟩ = some (.int .i64 m)) := Lib.hid (fun V hV => (HF.out.below hV).cell 32 _ rfl)
  refine wp_region_held_drew (S := fun V => Below W.heap.size W V) (by kernel_rfl) (Below.refl _ W).drew (fun hS => ?_)
  refine held_pure (i := 0) (oi := ⟨some 8, _, _, _, _, _⟩) rfl (by kernel_rfl) (by kernel_rfl) (by kernel_rfl) (fun _ _ _ h => h) (by rfl) (fun w hSw => run_load_v6 rfl rfl (KQ.out w hSw) (v6l_len h6.1 h6.2)) hS (fun hS => ?_)
  try go_frame
  refine held_pure (i := 2) (oi := ⟨some 10, _, _, _, _, _⟩) rfl (by kernel_rfl) (by kernel_rfl) (by kernel_rfl) (fun _ _ _ h => h) (by rfl) (v := ?_) (fun w hSw => ?_) hS (fun hS => ?_)
  rotate_left
  · go_simp; try with_reducible rfl
  try go_frame
  refine held_pure (i := 3) (oi := ⟨some 11, _, _, _, _, _⟩) rfl (by kernel_rfl) (by kernel_rfl) (by kernel_rfl) (fun _ _ _ h => h) (by rfl) (v := ?_) (fun w hSw => ?_) hS (fun hS => ?_)
  rotate_left
  · go_simp; try with_reducible rfl
  try go_frame
  refine held_pure (i := 4) (oi := ⟨some 12, _, _, _, _, _⟩) rfl (by kernel_rfl) (by kernel_rfl) (by kernel_rfl) (fun _ _ _ h => h) (by rfl) (v := ?_) (fun w hSw => ?_) hS (fun hS => ?_)
  rotate_left
  · go_simp; try with_reducible rfl
  try go_frame
  refine held_pure (i := 5) (oi := ⟨some 13, _, _, _, _, _⟩) rfl (by kernel_rfl) (by kernel_rfl) (by kernel_rfl) (fun _ _ _ h => h) (by rfl) (v := ?_) (fun w hSw => ?_) hS (fun hS => ?_)
  rotate_left
  · go_simp; try with_reducible rfl
  try go_frame
  refine held_pure (i := 6) (oi := ⟨some 14, _, _, _, _, _⟩) rfl (by kernel_rfl) (by kernel_rfl) (by kernel_rfl) (fun _ _ _ h => h) (by rfl) (fun w hSw => run_load_int rfl rfl (KM.out w hSw)) hS (fun hS => ?_)
  try go_frame
  refine wpAnyH_ready (rs := [1]) (by kernel_rfl) (by simp) (AllReadyH.cons (o := ⟨some 9, _, _, _, _, _⟩) rfl (fun K hK => ?_) AllReadyH.nil)
  rw [if_pos (by rfl)]
  go_simp
  refine (c6size q A c W.drew h6.1 h6.2 hdl).mono ?_
  rintro e w1 ⟨rfl, x1⟩
  have y1 : Below W.heap.size W w1 := ((Below.refl _ W).drew).trans x1
  show K _ _
  refine hK.out _ _ y1 (fun hS => ?_)
  clear hK K
  try go_frame
  refine held_pure (i := 7) (oi := ⟨some 15, _, _, _, _, _⟩) rfl (by kernel_rfl) (by kernel_rfl) (by kernel_rfl) (fun _ _ _ h => h) (by rfl) (v := ?_) (fun w hSw => ?_) hS (fun hS => ?_)
  rotate_left
  · go_simp; try with_reducible rfl
  try go_frame
  refine wpAnyH_done (by kernel_rfl) ?_ _
  have at1 := KQ.out _ y1
  have HF1 := Lib.hid (HF.out.below y1)
  have hD1 : Arg w1.drew w.heap.size A c q.dat := (hD.below (y1.mono hb.size)).below (Below.refl _ w1).drew
  have KQ2 : Hid (∀ V, Below w1.heap.size w1 V → At6 V w.heap.size q A c) := Lib.hid (fun V hV => KQ.out _ (y1.trans (hV.mono y1.size)))
  have KM2 : Hid (∀ V, Below w1.heap.size w1 V → V.cell? ⟨x, 32, none⟩ = some (.int .i64 m)) := Lib.hid (fun V hV => KM.out _ (y1.trans (hV.mono y1.size)))
  have KI : Hid (∀ V, Below w1.heap.size w1 V → V.cell? ⟨x, 40, none⟩ = some (.int .i64 id)) := Lib.hid (fun V hV => (HF1.out.below hV).cell 40 _ rfl)
  go_upto_region 3 with fail
  refine wp_region_held_drew (S := fun V => Below w1.heap.size w1 V) (by kernel_rfl) (Below.refl _ w1).drew (fun hS => ?_)
  refine held_pure (i := 0) (oi := ⟨some 19, _, _, _, _, _⟩) rfl (by kernel_rfl) (by kernel_rfl) (by kernel_rfl) (fun _ _ _ h => h) (by rfl) (fun w hSw => run_load_v6 rfl rfl (KQ2.out w hSw) (v6l_len h6.1 h6.2)) hS (fun hS => ?_)
  try go_frame
  refine held_pure (i := 1) (oi := ⟨some 20, _, _, _, _, _⟩) rfl (by kernel_rfl) (by kernel_rfl) (by kernel_rfl) (fun _ _ _ h => h) (by rfl) (v := ?_) (fun w hSw => ?_) hS (fun hS => ?_)
  rotate_left
  · go_simp; try with_reducible rfl
  try go_frame
  refine held_pure (i := 2) (oi := ⟨some 21, _, _, _, _, _⟩) rfl (by kernel_rfl) (by kernel_rfl) (by kernel_rfl) (fun _ _ _ h => h) (by rfl) (v := ?_) (fun w hSw => ?_) hS (fun hS => ?_)
  rotate_left
  · go_simp; try with_reducible rfl
  try go_frame
  refine held_pure (i := 3) (oi := ⟨some 22, _, _, _, _, _⟩) rfl (by kernel_rfl) (by kernel_rfl) (by kernel_rfl) (fun _ _ _ h => h) (by rfl) (v := ?_) (fun w hSw => ?_) hS (fun hS => ?_)
  rotate_left
  · go_simp; try with_reducible rfl
  try go_frame
  refine held_pure (i := 4) (oi := ⟨some 23, _, _, _, _, _⟩) rfl (by kernel_rfl) (by kernel_rfl) (by kernel_rfl) (fun _ _ _ h => h) (by rfl) (fun w hSw => run_load_int rfl rfl (KI.out w hSw)) hS (fun hS => ?_)
  try go_frame
  refine held_pure (i := 5) (oi := ⟨some 24, _, _, _, _, _⟩) rfl (by kernel_rfl) (by kernel_rfl) (by kernel_rfl) (fun _ _ _ h => h) (by rfl) (v := ?_) (fun w hSw => ?_) hS (fun hS => ?_)
  rotate_left
  · go_simp; try with_reducible rfl
  try go_frame
  refine held_pure (i := 6) (oi := ⟨some 25, _, _, _, _, _⟩) rfl (by kernel_rfl) (by kernel_rfl) (by kernel_rfl) (fun _ _ _ h => h) (by rfl) (v := ?_) (fun w hSw => ?_) hS (fun hS => ?_)
  rotate_left
  · go_simp; try with_reducible rfl
  try go_frame
  refine held_pure (i := 7) (oi := ⟨some 26, _, _, _, _, _⟩) rfl (by kernel_rfl) (by kernel_rfl) (by kernel_rfl) (fun _ _ _ h => h) (by rfl) (v := ?_) (fun w hSw => ?_) hS (fun hS => ?_)
  rotate_left
  · go_simp; try with_reducible rfl
  try go_frame
  refine held_pure (i := 8) (oi := ⟨some 27, _, _, _, _, _⟩) rfl (by kernel_rfl) (by kernel_rfl) (by kernel_rfl) (fun _ _ _ h => h) (by rfl) (v := ?_) (fun w hSw => ?_) hS (fun hS => ?_)
  rotate_left
  · go_simp; try with_reducible rfl
  try go_frame
  refine held_pure (i := 9) (oi := ⟨some 28, _, _, _, _, _⟩) rfl (by kernel_rfl) (by kernel_rfl) (by kernel_rfl) (fun _ _ _ h => h) (by rfl) (fun w hSw => run_load_int rfl rfl (KM2.out w hSw)) hS (fun hS => ?_)
  try go_frame
  refine wpAnyH_ready (rs := [10]) (by kernel_rfl) (by simp) (AllReadyH.cons (o := ⟨some 29, _, _, _, _, _⟩) rfl (fun K hK => ?_) AllReadyH.nil)
  rw [if_pos (by rfl)]
  go_simp
  refine (c14cut q A c id m w.heap.size w1.drew h6 hD1 (Nat.le_trans (Nat.le_refl _) (Nat.le_trans hb.size y1.size)) hdl).mono ?_
  rintro e w3 ⟨v3, l3, rfl, r3, q3, x3⟩
  rw [HE.out]
  have y3 : Below w1.heap.size w1 w3 := ((Below.refl _ w1).drew).trans x3
  show K _ _
  refine hK.out _ _ y3 (fun hS => ?_)
  clear hK K
  try go_frame
  refine held_pure (i := 11) (oi := ⟨some 18, _, _, _, _, _⟩) rfl (by kernel_rfl) (by kernel_rfl) (by kernel_rfl) (fun _ _ _ h => h) (by rfl) (v := ?_) (fun w hSw => ?_) hS (fun hS => ?_)
  rotate_left
  · go_simp; try with_reducible rfl
  try go_frame
  refine held_pure (i := 12) (oi := ⟨some 30, _, _, _, _, _⟩) rfl (by kernel_rfl) (by kernel_rfl) (by kernel_rfl) (fun _ _ _ h => h) (by rfl) (v := ?_) (fun w hSw => ?_) hS (fun hS => ?_)
  rotate_left
  · go_simp; try with_reducible rfl
  try go_frame
  refine held_pure (i := 13) (oi := ⟨some 31, _, _, _, _, _⟩) rfl (by kernel_rfl) (by kernel_rfl) (by kernel_rfl) (fun _ _ _ h => h) (by rfl) (v := ?_) (fun w hSw => ?_) hS (fun hS => ?_)
  rotate_left
  · go_simp; try with_reducible rfl
  try go_frame
  refine held_pure (i := 14) (oi := ⟨some 6, _, _, _, _, _⟩) rfl (by kernel_rfl) (by kernel_rfl) (by kernel_rfl) (fun _ _ _ h => h) (by rfl) (v := ?_) (fun w hSw => ?_) hS (fun hS => ?_)
  rotate_left
  · go_simp; try with_reducible rfl
  try go_frame
  refine held_pure (i := 15) (oi := ⟨some 7, _, _, _, _, _⟩) rfl (by kernel_rfl) (by kernel_rfl) (by kernel_rfl) (fun _ _ _ h => h) (by rfl) (v := ?_) (fun w hSw => ?_) hS (fun hS => ?_)
  rotate_left
  · go_simp; try with_reducible rfl
  try go_frame
  refine wpAnyH_done (by kernel_rfl) ?_ _
  have HF3 := Lib.hid (HF1.out.below y3)
  have k40 := HF3.out.cell 40 _ rfl
  have f40 := HF3.out.fr 40
  have q3' : IntKind.i64.wrap (id + 1) = id + 1 := IntWalk.i64_in _ (by have := HI.out; omega)
  have hm3 : (id + 1).tmod 4294967296 = (id + 1) % 4294967296 := Int.tmod_eq_emod_of_nonneg (by have := HI.out; omega)
  go_wp2_with fail
  refine bodyPost_ret (results_tmp2 rfl _ _ _) rfl ?_
  have hB3 : Below w.heap.size w w3 := (hb.trans (y1.mono hb.size)).trans (y3.mono (Nat.le_trans hb.size y1.size))
  have hz3 : base ≤ w1.drew.heap.size := Nat.le_trans hbase (Nat.le_trans hb.size y1.size)
  exact ⟨_, rfl, l3, ⟨own_setCell (own_base r3.1 hz3) (p := ⟨x, 40, none⟩) hx, fun y hy => ⟨(r3.2 y hy).1, own_setCell (own_base (r3.2 y hy).2 hz3) (p := ⟨x, 40, none⟩) hx⟩⟩, q3, ⟨w3, hB3, .inr ⟨_, _, rfl⟩⟩, HF3.out.setId _⟩
end Go.Proofs.YtjoaaabdcfcdiaaGreat
