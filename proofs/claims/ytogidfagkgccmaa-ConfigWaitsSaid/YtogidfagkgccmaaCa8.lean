/-
  Contracts and lemmas on which the proofs of this seat stand (several texts in one). Conditions are each theorem's own.
-/
import Derived.Test.YtogidfagkgccmaaCa6
import Derived.Test.YtogidfagkgccmaaCa7
import Derived.Test.YtogidfagkgccmaaCa5
import Derived.Test.YtogidfagkgccmaaCa3
import Derived.Test.YtogidfagkgccmaaCa2
import Derived.Deep.Cut
import Derived.Deep.CutRange
import Derived.Laws.CopyOwn
import Derived.Deep.Upon
import Derived.Deep.Slices

/-
  Which softwire has an address (layer 20): the code and the document.  Conditions are each theorem's own.
-/
namespace Go.Proofs.Ytogidfagkgccmaa
open Go.RowKit Go.Shelf
def fnd (a : List UInt8) : List (List UInt8) → Nat → Int
  | [], _ => -1
  | x :: r, k => if x = a then (k : Int) else fnd a r (k + 1)
theorem fnd_bound (a : List UInt8) : ∀ (l : List (List UInt8)) (k : Nat), fnd a l k = -1 ∨ (0 ≤ fnd a l k ∧ fnd a l k < k + l.length)
  | [], k => .inl rfl
  | x :: r, k => by
    rw [fnd]
    split
    · right; simp only [List.length_cons]; omega
    · rcases fnd_bound a r (k + 1) with h | ⟨h1, h2⟩
      · exact .inl h
      · right; refine ⟨h1, ?_⟩; simp only [List.length_cons]; omega
def softI (q : Cfg) (a : List UInt8) : Int := if 0 ≤ fnd a q.sws 0 then fnd a q.sws 0 else 0
def softB (q : Cfg) (a : List UInt8) : Bool := decide (0 ≤ fnd a q.sws 0)
set_option maxRecDepth 100000 in
set_option maxHeartbeats 1000000 in
theorem idxV (A : Option Addr) (c : Nat) (l : List (List UInt8)) (a : List UInt8) (B : Nat) (w : World) (hr : RdS row 16 w B A l) (hB : B ≤ w.heap.size) (hl : l.length ≤ 100000) (hv : ∀ x ∈ l, x.length = 16) (ha : a.length = 16) :
    Calls Try.prog 79 #[.slice A l.length c, .agg (row a).toArray] w fun e w' => e = .returned (.int .i64 (fnd a l 0)) ∧ Below w.heap.size w w' := by
  obtain ⟨n, hn⟩ : ∃ n, n = l.length := ⟨_, rfl⟩
  have HN := Lib.hid hn
  have HR := Lib.hid hr
  have HV := Lib.hid hv
  rw [← hn] at hl ⊢
  clear hn hr hv
  have hra : (row a).length = 16 := by rw [row_length]; exact ha
  obtain ⟨W, hW⟩ : ∃ W, W = w.alloc (.cells (row a).toArray 70) := ⟨_, rfl⟩
  have hb0 : W.rangeAt w.heap.size 0 (row a) := by rw [hW]; exact AtNew
  have hBW : Below w.heap.size w W := by rw [hW]; exact (Below.refl _ w).alloc (Nat.le_refl _) _
  have hz : w.heap.size < W.heap.size := by rw [hW]; simp
  have hW' := hW.symm
  clear hW
  go_enter Try.func79, Try.ntmps79
  go_wp2
  try rw [hW']
  clear hW'
  go_loopw [5, 8] (fun _ s8 wr => ∃ kk : Nat, kk ≤ n ∧ s8 = .int .i64 kk ∧ Hid (fnd a l 0 = fnd a (l.drop kk) kk) ∧ Below W.heap.size W wr) (fun _ i _ => n - (intOf i).toNat)
  case atStart => exact ⟨0, Nat.zero_le _, rfl, Lib.hid rfl, Below.refl _ W⟩
  case round =>
    obtain ⟨kk, hkk, rfl, HE, hbel⟩ := hrel
    by_cases hlt : kk < n
    · obtain ⟨x, hx⟩ : ∃ x, l[kk]? = some x := ⟨_, List.getElem?_eq_getElem (by rw [← HN.out]; exact hlt)⟩
      have hxv := HV.out x (List.mem_of_getElem? hx)
      obtain ⟨b1, o1, rfl, hb1, hr1⟩ := rds_row HR.out hx
      have hbW := hBW.trans (hbel.mono hBW.size)
      have hrow := range_below hr1 hb1 (hbW.mono hB)
      have hbx := range_below hb0 hz hbel
      have hxl : (row x).length = 16 := by rw [row_length]; exact hxv
      have hzr : w.heap.size < wr.heap.size := Nat.lt_of_lt_of_le hz hbel.size
      have hb1' : b1 < wr.heap.size := by omega
      have HXD : Hid (l.drop kk = x :: l.drop (kk + 1)) := Lib.hid (by
        have hk : kk < l.length := by rw [← HN.out]; exact hlt
        rw [List.drop_eq_getElem_cons hk]
        rw [List.getElem?_eq_getElem hk] at hx
        rw [Option.some.inj hx])
      clear hx hr1
      obtain ⟨E, hE⟩ : ∃ E, E = decide (a = x) := ⟨_, rfl⟩
      have eS : ∀ w, (Op.equalIn 10000 70 (.agg (row a).toArray) (.agg (row x).toArray)).run Try.prog w = .ok E w := fun w => by rw [hE]; exact six_eq _ _ ha hxv w
      have HEE := Lib.hid hE
      clear hE
      have hbxS := fun V (hV : Below wr.heap.size wr V) => range_below hbx hzr hV
      have hrowS := fun V (hV : Below wr.heap.size wr V) => range_below hrow hb1' hV
      go_upto_region 4 with fail
      refine wp_region_held_drew (S := fun w' => Below wr.heap.size wr w') (by kernel_rfl) (Below.refl _ wr).drew (fun hS => ?_)
      refine held_pure (i := 0) (oi := ⟨some 11, _, _, _, _, _⟩) rfl (by kernel_rfl) (by kernel_rfl) (by kernel_rfl) (fun _ _ _ h => h) (by rfl) (fun w hSw => ld_six rfl rfl (hbxS _ hSw) hra) hS (fun hS => ?_)
      try go_frame
      refine held_pure (i := 1) (oi := ⟨some 12, _, _, _, _, _⟩) rfl (by kernel_rfl) (by kernel_rfl) (by kernel_rfl) (fun _ _ _ h => h) (by rfl) (v := ?_) (fun w hSw => ?_) hS (fun hS => ?_)
      rotate_left
      · go_simp; try with_reducible rfl
      try go_frame
      refine held_pure (i := 2) (oi := ⟨some 13, _, _, _, _, _⟩) rfl (by kernel_rfl) (by kernel_rfl) (by kernel_rfl) (fun _ _ _ h => h) (by rfl) (v := ?_) (fun w hSw => ?_) hS (fun hS => ?_)
      rotate_left
      · go_simp; try with_reducible rfl
      try go_frame
      refine held_pure (i := 3) (oi := ⟨some 14, _, _, _, _, _⟩) rfl (by kernel_rfl) (by kernel_rfl) (by kernel_rfl) (fun _ _ _ h => h) (by rfl) (v := ?_) (fun w hSw => ?_) hS (fun hS => ?_)
      rotate_left
      · go_simp; try with_reducible rfl
      try go_frame
      refine held_pure (i := 4) (oi := ⟨some 15, _, _, _, _, _⟩) rfl (by kernel_rfl) (by kernel_rfl) (by kernel_rfl) (fun _ _ _ h => h) (by rfl) (fun w hSw => ld_six rfl rfl (hrowS _ hSw) hxl) hS (fun hS => ?_)
      try go_frame
      refine held_pure (i := 5) (oi := ⟨some 16, _, _, _, _, _⟩) rfl (by kernel_rfl) (by kernel_rfl) (by kernel_rfl) (fun _ _ _ h => h) (by rfl) (v := .bool E) (fun w hSw => by go_simp) hS (fun hS => ?_)
      try go_frame
      refine wpAnyH_done (by kernel_rfl) ?_ _
      cases E with
      | true =>
        go_wp2_with fail
        go_ret
        exact ⟨by rw [HE.out, HXD.out, fnd, if_pos (of_decide_eq_true HEE.out.symm).symm]; rfl, hbW.trans (hS.mono hbW.size)⟩
      | false =>
        have hne := of_decide_eq_false HEE.out.symm
        have HNE := Lib.hid hne
        clear hne
        go_wp2_with fail
        go_roundw
        case rel => exact ⟨kk + 1, by omega, by simp, Lib.hid (by rw [HE.out, HXD.out, fnd, if_neg (fun e => HNE.out e.symm)]), hbel.trans (hS.mono hbel.size)⟩
        case measure => simp [intOf]; omega
    · obtain rfl : n = kk := by omega
      go_wp2
      go_ret
      exact ⟨by rw [HE.out, List.drop_eq_nil_of_le (by rw [← HN.out]; exact Nat.le_refl _)]; rfl, hBW.trans (hbel.mono hBW.size)⟩
set_option maxRecDepth 100000 in
theorem c20soft (a : List UInt8) (ha : a.length = 16) (q : Cfg) (B : Nat) (w : World) (hq : Fits q) (hm : MemC w B q) (hB : B ≤ w.heap.size) :
    Calls Try.prog 35 #[.agg (cfa q), .agg (row a).toArray] w fun e w' => e = .returned (.tuple #[.int .i64 (softI q a), .bool (softB q a)]) ∧ Below w.heap.size w w' := by
  have hW00 := BoxC.mk' w q
  have hW01 : Below (w.alloc (.cells (cfa q) 74)).heap.size (w.alloc (.cells (cfa q) 74)) ((w.alloc (.cells (cfa q) 74)).alloc (.cells (row a).toArray 70)) := (Below.refl _ _).alloc (Nat.le_refl _) _
  have hS0 := AtNew (w := w.alloc (.cells (cfa q) 74)) (cs := row a) (t := 70)
  have hz1 : w.heap.size + 1 < ((w.alloc (.cells (cfa q) 74)).alloc (.cells (row a).toArray 70)).heap.size := by simp
  rw [World.size_alloc] at hS0
  have hW0 := hW00.more hW01
  clear hW00 hW01
  generalize hWW : (w.alloc (.cells (cfa q) 74)).alloc (.cells (row a).toArray 70) = W at hW0 hS0 hz1
  have hz := hW0.lt
  have a16 := hq.aftr
  have hra : (row a).length = 16 := by rw [row_length]; exact ha
  have k1 : W.cell? ⟨w.heap.size, 16, none⟩ = some (.slice q.A1 q.sws.length q.c1) := hW0.at_.at_ a16 (j := 0) rfl
  have l1 := hq.n1
  have hcall := Lib.hid (idxV q.A1 q.c1 q.sws a B W (hW0.mem hm hB).sws (Nat.le_trans hB hW0.bel.size) (by omega) hq.sws ha)
  have hbd := fnd_bound a q.sws 0
  obtain ⟨K, hK⟩ : ∃ K, K = fnd a q.sws 0 := ⟨_, rfl⟩
  have e1 : softI q a = if 0 ≤ K then K else 0 := by rw [softI, ← hK]
  have e2 : softB q a = decide (0 ≤ K) := by rw [softB, ← hK]
  rw [e1, e2]
  rw [← hK] at hcall hbd
  clear hK e1 e2
  have ARM := hcall
  rcases hbd with hb | ⟨hb1, hb2⟩
  · subst hb
    go_enter Try.func35, Try.ntmps35
    go_wp2_with (first
      | ((with_reducible show wpList _ _ _ (Oper.mk _ (Op.load 70 _) _ _ _ _ :: _) _ _); (try rw [hWW]); refine wpList_val rfl (ld_six rfl rfl hS0 hra) ?_)
      | (go_at_call 79; refine hcall.out.mono ?_; rintro e w1 ⟨rfl, b1⟩))
    exact bodyPost_ret (results_tmp2 rfl _ _ _) rfl ⟨rfl, hW0.bel.trans (b1.mono hW0.bel.size)⟩
  · have hk : K ≤ 1000 := by omega
    go_enter Try.func35, Try.ntmps35
    go_wp2_with (first
      | ((with_reducible show wpList _ _ _ (Oper.mk _ (Op.load 70 _) _ _ _ _ :: _) _ _); (try rw [hWW]); refine wpList_val rfl (ld_six rfl rfl hS0 hra) ?_)
      | (go_at_call 79; refine hcall.out.mono ?_; rintro e w1 ⟨rfl, b1⟩))
    exact bodyPost_ret (results_tmp2 rfl _ _ _) rfl ⟨rfl, hW0.bel.trans (b1.mono hW0.bel.size)⟩
set_option maxRecDepth 100000 in
set_option maxHeartbeats 1000000 in
theorem r20soft (a : List UInt8) (ha : a.length = 16) (q : Cfg) (B : Nat) (w : World) (hq : Fits q) (hm : MemC w B q) (hB : B ≤ w.heap.size) :
    Calls Try.prog 36 #[.agg (cfa q), .agg (row a).toArray] w fun e w' => e = .returned (.tuple #[.int .i64 (softI q a), .bool (softB q a)]) ∧ Below w.heap.size w w' := by
  have hW00 := BoxC.mk' w q
  have hW01 : Below (w.alloc (.cells (cfa q) 74)).heap.size (w.alloc (.cells (cfa q) 74)) ((w.alloc (.cells (cfa q) 74)).alloc (.cells (row a).toArray 70)) := (Below.refl _ _).alloc (Nat.le_refl _) _
  have hS0 := AtNew (w := w.alloc (.cells (cfa q) 74)) (cs := row a) (t := 70)
  have hz1 : w.heap.size + 1 < ((w.alloc (.cells (cfa q) 74)).alloc (.cells (row a).toArray 70)).heap.size := by simp
  rw [World.size_alloc] at hS0
  have hW0 := hW00.more hW01
  clear hW00 hW01
  generalize hWW : (w.alloc (.cells (cfa q) 74)).alloc (.cells (row a).toArray 70) = W at hW0 hS0 hz1
  have hz := hW0.lt
  have a16 := hq.aftr
  have hra : (row a).length = 16 := by rw [row_length]; exact ha
  have k1 : W.cell? ⟨w.heap.size, 16, none⟩ = some (.slice q.A1 q.sws.length q.c1) := hW0.at_.at_ a16 (j := 0) rfl
  have l1 := hq.n1
  have hm1 := Lib.hid (hW0.mem hm hB).sws
  obtain ⟨n, hn⟩ : ∃ n, n = q.sws.length := ⟨_, rfl⟩
  have HN := Lib.hid hn
  rw [← hn] at k1 l1
  clear hn
  go_enter Try.func36, Try.ntmps36
  go_wp2
  try rw [hWW]
  clear hWW
  go_loopw [6] (fun s6 wr => ∃ kk : Nat, kk ≤ n ∧ s6 = .int .i64 kk ∧ Hid (fnd a q.sws 0 = fnd a (q.sws.drop kk) kk) ∧ Below W.heap.size W wr) (fun i _ => n - (intOf i).toNat)
  case atStart => exact ⟨0, Nat.zero_le _, rfl, Lib.hid rfl, Below.refl _ W⟩
  case round =>
    obtain ⟨kk, hkk, rfl, HE, hbel⟩ := hrel
    have kr1 := (hbel.cell (p := ⟨w.heap.size, 16, none⟩) hz).trans k1
    by_cases hlt : kk < n
    · obtain ⟨x, hx⟩ : ∃ x, q.sws[kk]? = some x := ⟨_, List.getElem?_eq_getElem (by rw [← HN.out]; exact hlt)⟩
      have hxv := hq.sws x (List.mem_of_getElem? hx)
      obtain ⟨b1, o1, ea, hb1, hr1⟩ := rds_row hm1.out hx
      have hBW := Nat.le_trans hB hW0.bel.size
      rw [ea] at kr1
      have hrow := range_below hr1 hb1 (hbel.mono hBW)
      have hbx := range_below hS0 hz1 hbel
      have hxl : (row x).length = 16 := by rw [row_length]; exact hxv
      have hzr : w.heap.size + 1 < wr.heap.size := Nat.lt_of_lt_of_le hz1 hbel.size
      have hzr0 : w.heap.size < wr.heap.size := by omega
      have hb1' : b1 < wr.heap.size := Nat.lt_of_lt_of_le hb1 (Nat.le_trans hBW hbel.size)
      have HXD : Hid (q.sws.drop kk = x :: q.sws.drop (kk + 1)) := Lib.hid (by
        have hk : kk < q.sws.length := by rw [← HN.out]; exact hlt
        rw [List.drop_eq_getElem_cons hk]
        rw [List.getElem?_eq_getElem hk] at hx
        rw [Option.some.inj hx])
      clear hx hr1 ea
      obtain ⟨E, hE⟩ : ∃ E, E = decide (x = a) := ⟨_, rfl⟩
      have eS : ∀ w, (Op.equalIn 10000 70 (.agg (row x).toArray) (.agg (row a).toArray)).run Try.prog w = .ok E w := fun w => by rw [hE]; exact six_eq _ _ hxv ha w
      have HEE := Lib.hid hE
      clear hE k1
      have hbxS := fun V (hV : Below wr.heap.size wr V) => range_below hbx hzr hV
      have hrowS := fun V (hV : Below wr.heap.size wr V) => range_below hrow hb1' hV
      have kr1S := fun V (hV : Below wr.heap.size wr V) => (hV.cell (p := ⟨w.heap.size, 16, none⟩) hzr0).trans kr1
      go_upto_region 4 with fail
      refine wp_region_held_drew (S := fun w' => Below wr.heap.size wr w') (by kernel_rfl) (Below.refl _ wr).drew (fun hS => ?_)
      refine held_pure (i := 0) (oi := ⟨some 14, _, _, _, _, _⟩) rfl (by kernel_rfl) (by kernel_rfl) (by kernel_rfl) (fun _ _ _ h => h) (by rfl) (v := ?_) (fun w hSw => ?_) hS (fun hS => ?_)
      rotate_left
      · go_simp; try with_reducible rfl
      try go_frame
      refine held_pure (i := 1) (oi := ⟨some 15, _, _, _, _, _⟩) rfl (by kernel_rfl) (by kernel_rfl) (by kernel_rfl) (fun _ _ _ h => h) (by rfl) (fun w hSw => ld_slX rfl rfl (kr1S _ hSw)) hS (fun hS => ?_)
      try go_frame
      refine held_pure (i := 2) (oi := ⟨some 16, _, _, _, _, _⟩) rfl (by kernel_rfl) (by kernel_rfl) (by kernel_rfl) (fun _ _ _ h => h) (by rfl) (v := ?_) (fun w hSw => ?_) hS (fun hS => ?_)
      rotate_left
      · go_simp; try with_reducible rfl
      try go_frame
      refine held_pure (i := 3) (oi := ⟨some 17, _, _, _, _, _⟩) rfl (by kernel_rfl) (by kernel_rfl) (by kernel_rfl) (fun _ _ _ h => h) (by rfl) (v := ?_) (fun w hSw => ?_) hS (fun hS => ?_)
      rotate_left
      · go_simp; try with_reducible rfl
      try go_frame
      refine held_pure (i := 4) (oi := ⟨some 18, _, _, _, _, _⟩) rfl (by kernel_rfl) (by kernel_rfl) (by kernel_rfl) (fun _ _ _ h => h) (by rfl) (fun w hSw => ld_six rfl rfl (hrowS _ hSw) hxl) hS (fun hS => ?_)
      try go_frame
      refine held_pure (i := 5) (oi := ⟨some 19, _, _, _, _, _⟩) rfl (by kernel_rfl) (by kernel_rfl) (by kernel_rfl) (fun _ _ _ h => h) (by rfl) (fun w hSw => ld_six rfl rfl (hbxS _ hSw) hra) hS (fun hS => ?_)
      try go_frame
      refine held_pure (i := 6) (oi := ⟨some 20, _, _, _, _, _⟩) rfl (by kernel_rfl) (by kernel_rfl) (by kernel_rfl) (fun _ _ _ h => h) (by rfl) (v := .bool E) (fun w hSw => by go_simp) hS (fun hS => ?_)
      try go_frame
      refine wpAnyH_done (by kernel_rfl) ?_ _
      cases E with
      | true =>
        go_wp2_with fail
        refine bodyPost_ret (results_tmp2 rfl _ _ _) rfl ⟨?_, hW0.bel.trans ((hbel.trans (hS.mono hbel.size)).mono hW0.bel.size)⟩
        have hf : fnd a q.sws 0 = kk := by rw [HE.out, HXD.out, fnd, if_pos (of_decide_eq_true HEE.out.symm)]
        rw [softI, softB, hf, if_pos (by omega), decide_eq_true (by omega)]; rfl
      | false =>
        have hne := of_decide_eq_false HEE.out.symm
        have HNE := Lib.hid hne
        clear hne
        go_wp2_with fail
        go_roundw
        case rel => exact ⟨kk + 1, by omega, by simp, Lib.hid (by rw [HE.out, HXD.out, fnd, if_neg HNE.out]), hbel.trans (hS.mono hbel.size)⟩
        case measure => simp [intOf]; omega
    · obtain rfl : n = kk := by omega
      go_wp2
      refine bodyPost_ret (results_tmp2 rfl _ _ _) rfl ⟨?_, hW0.bel.trans (hbel.mono hW0.bel.size)⟩
      have hf : fnd a q.sws 0 = -1 := by rw [HE.out, List.drop_eq_nil_of_le (by rw [← HN.out]; exact Nat.le_refl _)]; rfl
      rw [softI, softB, hf]; rfl
end Go.Proofs.Ytogidfagkgccmaa

/-
  The ordinary config of layer 20, the code and the document. Conditions are each theorem's own.
-/
namespace Go.Proofs.Ytogidfagkgccmaa
open Go.RowKit Go.Shelf
theorem setRow_other (w : World) (g k : Nat) (cs : Array Value) (h : k ≠ g) : (w.setRow g cs).heap[k]? = w.heap[k]? := by
  unfold World.setRow
  rw [Array.getElem?_modify, if_neg (fun e => h e.symm)]
def bA : List UInt8 := [32, 1, 13, 184, 0, 0, 0, 0, 0, 0, 0, 0, 0, 0, 0, 1]
def bB : List UInt8 := [32, 1, 13, 184, 0, 1, 0, 0, 0, 0, 0, 0, 0, 0, 0, 1]
def bC : List UInt8 := [32, 1, 13, 184, 0, 2, 0, 0, 0, 0, 0, 0, 0, 0, 0, 1]
def cfb (A1 A2 : Option Addr) : Cfg := ⟨bA, A1, 2, [bB, bC], A2, 1, [3325256705], 1024, 65535, 16, 64, 128, 8, 1048576, 1500, 1500, 64, 0, 2, 300, 7440, 240, 60, 60, none, 0, []⟩
theorem of_A : Value.agg (cel (of6 [8193, 3512, 0, 0, 0, 0, 0, 1])) = .agg #[Value.int .u8 32, Value.int .u8 1, Value.int .u8 13, Value.int .u8 184, Value.int .u8 0, Value.int .u8 0, Value.int .u8 0, Value.int .u8 0, Value.int .u8 0, Value.int .u8 0, Value.int .u8 0, Value.int .u8 0, Value.int .u8 0, Value.int .u8 0, Value.int .u8 0, Value.int .u8 1] := rfl
theorem of_B : Value.agg (cel (of6 [8193, 3512, 1, 0, 0, 0, 0, 1])) = .agg #[Value.int .u8 32, Value.int .u8 1, Value.int .u8 13, Value.int .u8 184, Value.int .u8 0, Value.int .u8 1, Value.int .u8 0, Value.int .u8 0, Value.int .u8 0, Value.int .u8 0, Value.int .u8 0, Value.int .u8 0, Value.int .u8 0, Value.int .u8 0, Value.int .u8 0, Value.int .u8 1] := rfl
theorem of_C : Value.agg (cel (of6 [8193, 3512, 2, 0, 0, 0, 0, 1])) = .agg #[Value.int .u8 32, Value.int .u8 1, Value.int .u8 13, Value.int .u8 184, Value.int .u8 0, Value.int .u8 2, Value.int .u8 0, Value.int .u8 0, Value.int .u8 0, Value.int .u8 0, Value.int .u8 0, Value.int .u8 0, Value.int .u8 0, Value.int .u8 0, Value.int .u8 0, Value.int .u8 1] := rfl
theorem newI (w : World) (zs : List Int) (cells : Array Value) (t : TypeId) (hc : cells.toList = zs.map (Value.int .i64)) : RdI (w.alloc (.cells cells t)) (w.heap.size + 1) (some ⟨w.heap.size, 0, none⟩) zs := fun _ =>
  ⟨_, 0, rfl, by omega, fun j hj => by
    rw [Nat.zero_add, World.cell?_alloc_new, ← Array.getElem?_toList, hc, List.getElem?_map, List.getElem?_eq_getElem hj, List.getD_eq_getElem?_getD, List.getElem?_eq_getElem hj]; rfl⟩
theorem cfb_fits (A1 A2 : Option Addr) (h : A1 ≠ none) : Fits (cfb A1 A2) where
  aftr := rfl
  sws := by intro a ha; simp [cfb] at ha; rcases ha with rfl | rfl <;> rfl
  n1 := by simp [cfb]
  n2 := by simp [cfb]
  n3 := by simp [cfb]
  i2 := by intro n hn; simp [cfb] at hn; subst hn; decide
  i3 := by intro s hs; simp [cfb] at hs
  ints := by intro n hn; simp [Cfg.ints, cfb] at hn; rcases hn with rfl | rfl | rfl | rfl | rfl | rfl | rfl | rfl | rfl | rfl | rfl | rfl | rfl | rfl | rfl | rfl <;> decide
  l1 := by simp [cfb]
  l2 := by simp [cfb]
  l3 := by simp [cfb]
  m1 := by simp [cfb, maxLen]
  m2 := by simp [cfb, maxLen]
  m3 := by simp [cfb]
  z1 := by intro e; exact absurd e h
/-- The ordinary config lies in w'. -/
structure BaseAt (w' : World) (B g1 g2 : Nat) : Prop where
  lo1 : B ≤ g1
  lo2 : B ≤ g2
  ne : g1 ≠ g2
  h1 : w'.heap[g1]? = some (.cells (row bB ++ row bC).toArray 70 (0, 0))
  h2 : w'.heap[g2]? = some (.cells #[.int .i64 3325256705] 3 (0, 0))
theorem BaseAt.mem {w' : World} {B g1 g2 : Nat} (h : BaseAt w' B g1 g2) : MemC w' w'.heap.size (cfb (some ⟨g1, 0, none⟩) (some ⟨g2, 0, none⟩)) where
  sws := fun _ => ⟨g1, 0, rfl, heap_lt h.h1, fun j x hx i v hv => by
    have := flat_at (cl := row) (sz := 16) [bB, bC] (fun y hy => by simp at hy; rcases hy with rfl | rfl <;> rfl) j x hx i v hv
    rw [cell_of_row w' g1 _ _ _ _ h.h1, Nat.zero_add, List.getElem?_toArray]
    simpa using this⟩
  pool := fun _ => ⟨g2, 0, rfl, heap_lt h.h2, fun j hj => by
    have hj' : j = 0 := by simp [cfb] at hj; omega
    subst hj'
    rw [cell_of_row w' g2 _ _ _ _ h.h2]; rfl⟩
  stat := fun hn => by simp [cfb] at hn
theorem BaseAt.below {w w' : World} {B g1 g2 : Nat} (h : BaseAt w B g1 g2) (hb : Below w.heap.size w w') : BaseAt w' B g1 g2 :=
  ⟨h.lo1, h.lo2, h.ne, (hb.block _ (heap_lt h.h1)).trans h.h1, (hb.block _ (heap_lt h.h2)).trans h.h2⟩
set_option maxRecDepth 100000 in
theorem chk_base (A1 A2 : Option Addr) : chkB (cfb A1 A2) = 0 := by
  have h1 : (numB (cfb A1 A2) && lisB (cfb A1 A2)) = true := by rfl
  have h2 : twB (cfb A1 A2) = false := by
    rw [← two_code _ (by show (0 : Int) ≤ 16; decide)]; rfl
  rw [chkB, if_pos h1, h2]; rfl
theorem cfa_base (g1 g2 : Nat) : cfa (cfb (some ⟨g1, 0, none⟩) (some ⟨g2, 0, none⟩)) = #[.int .u8 32, .int .u8 1, .int .u8 13, .int .u8 184, .int .u8 0, .int .u8 0, .int .u8 0, .int .u8 0, .int .u8 0, .int .u8 0, .int .u8 0, .int .u8 0, .int .u8 0, .int .u8 0, .int .u8 0, .int .u8 1, .slice (some ⟨g1, 0, none⟩) 2 2, .slice (some ⟨g2, 0, none⟩) 1 1, .int .i64 1024, .int .i64 65535, .int .i64 16, .int .i64 64, .int .i64 128, .int .i64 8, .int .i64 1048576, .int .i64 1500, .int .i64 1500, .int .i64 64, .int .i64 0, .int .i64 2, .int .i64 300, .int .i64 7440, .int .i64 240, .int .i64 60, .int .i64 60, .slice none 0 0] := rfl
theorem baseCells : (row bB ++ row bC).toArray = #[Value.int .u8 32, Value.int .u8 1, Value.int .u8 13, Value.int .u8 184, Value.int .u8 0, Value.int .u8 1, Value.int .u8 0, Value.int .u8 0, Value.int .u8 0, Value.int .u8 0, Value.int .u8 0, Value.int .u8 0, Value.int .u8 0, Value.int .u8 0, Value.int .u8 0, Value.int .u8 1, Value.int .u8 32, Value.int .u8 1, Value.int .u8 13, Value.int .u8 184, Value.int .u8 0, Value.int .u8 2, Value.int .u8 0, Value.int .u8 0, Value.int .u8 0, Value.int .u8 0, Value.int .u8 0, Value.int .u8 0, Value.int .u8 0, Value.int .u8 0, Value.int .u8 0, Value.int .u8 1] := rfl
set_option maxRecDepth 100000 in
set_option maxHeartbeats 4000000 in
theorem c20base (w : World) : Calls Try.prog 41 #[] w fun e w' => (∃ g1 g2, e = .returned (.agg (cfa (cfb (some ⟨g1, 0, none⟩) (some ⟨g2, 0, none⟩)))) ∧ BaseAt w' w.heap.size g1 g2) ∧ Below w.heap.size w w' := by
  obtain ⟨Z, hZ⟩ : ∃ Z : Array Value, Z = #[.int .u8 0, .int .u8 0, .int .u8 0, .int .u8 0, .int .u8 0, .int .u8 0, .int .u8 0, .int .u8 0, .int .u8 0, .int .u8 0, .int .u8 0, .int .u8 0, .int .u8 0, .int .u8 0, .int .u8 0, .int .u8 0, .slice none 0 0, .slice none 0 0, .int .i64 0, .int .i64 0, .int .i64 0, .int .i64 0, .int .i64 0, .int .i64 0, .int .i64 0, .int .i64 0, .int .i64 0, .int .i64 0, .int .i64 0, .int .i64 0, .int .i64 0, .int .i64 0, .int .i64 0, .int .i64 0, .int .i64 0, .slice none 0 0] := ⟨_, rfl⟩
  have hZs : Z.size = 36 := by rw [hZ]; rfl
  obtain ⟨W, hW⟩ : ∃ W, W = w.alloc (.cells Z 74) := ⟨_, rfl⟩
  have hbW : Below w.heap.size w W := by rw [hW]; exact (Below.refl _ w).alloc (Nat.le_refl _) _
  have hgW : W.heap[w.heap.size]? = some (.cells Z 74 (0, 0)) := by rw [hW]; exact World.alloc_heap_new w _
  have hzW : w.heap.size < W.heap.size := by rw [hW]; simp
  have HG : Hid (∀ w1 w2 w3 O1 O2, Below W.heap.size W w1 → Below w1.heap.size w1 w2 → Below w2.heap.size w2 w3 → ((w3.alloc O1).alloc O2).heap[w.heap.size]? = some (.cells Z 74 (0, 0))) := Lib.hid (by
    intro w1 w2 w3 O1 O2 x1 x2 x3
    have z1 := x1.size
    have z2 := x2.size
    have z3 := x3.size
    rw [Below.heap_alloc _ _ _ (by simp; omega), Below.heap_alloc _ _ _ (by omega), x3.block _ (by omega), x2.block _ (by omega), x1.block _ hzW]; exact hgW)
  rw [hZ] at hW
  have hW' := hW.symm
  clear hW
  clear hZ
  go_enter Try.func41, Try.ntmps41
  go_upto_region 1 with fail
  try rw [hW']
  clear hW'
  go_wp2_with (first
    | (go_at_call 89; (refine (c4of (some ⟨w2.heap.size, 0, none⟩) [8193, 3512, 2, 0, 0, 0, 0, 1] 8 (w2.heap.size + 1) _ (newI w2 [8193, 3512, 2, 0, 0, 0, 0, 1] _ _ rfl) (by simp) (by decide) (by decide)).mono ?_; rintro e w3 ⟨rfl, yw3⟩; rw [of_C]; have xw3 : Below w2.heap.size w2 w3 := ((Below.refl _ w2).alloc (Nat.le_refl _) _).trans (yw3.mono (by simp)); clear yw3))
    | (go_at_call 89; (refine (c4of (some ⟨w1.heap.size, 0, none⟩) [8193, 3512, 1, 0, 0, 0, 0, 1] 8 (w1.heap.size + 1) _ (newI w1 [8193, 3512, 1, 0, 0, 0, 0, 1] _ _ rfl) (by simp) (by decide) (by decide)).mono ?_; rintro e w2 ⟨rfl, yw2⟩; rw [of_B]; have xw2 : Below w1.heap.size w1 w2 := ((Below.refl _ w1).alloc (Nat.le_refl _) _).trans (yw2.mono (by simp)); clear yw2))
    | (go_at_call 89; (refine (c4of (some ⟨W.heap.size, 0, none⟩) [8193, 3512, 0, 0, 0, 0, 0, 1] 8 (W.heap.size + 1) _ (newI W [8193, 3512, 0, 0, 0, 0, 0, 1] _ _ rfl) (by simp) (by decide) (by decide)).mono ?_; rintro e w1 ⟨rfl, yw1⟩; rw [of_A]; have xw1 : Below W.heap.size W w1 := ((Below.refl _ W).alloc (Nat.le_refl _) _).trans (yw1.mono (by simp)); clear yw1))
    | ((with_reducible show wpList _ _ _ (Oper.mk none (Op.store 74 _ _) _ _ _ _ :: _) _ _); have hgV := fun O1 O2 => HG.out w1 w2 w3 O1 O2 xw1 xw2 xw3; (refine str_cfg (g := w.heap.size) (t := 74) (old := Z) rfl rfl (hgV _ _) hZs rfl (by rw [← cfa_base]; exact cfa_one _) ?_)))
  have zx1 := xw1.size
  have zx2 := xw2.size
  have zx3 := xw3.size
  have hb3 : Below w.heap.size w w3 := hbW.trans ((xw1.trans ((xw2.trans (xw3.mono zx2)).mono zx1)).mono hbW.size)
  refine bodyPost_ret (res_cfg rfl rfl (setRow_heap _ _ _ _ _ _ (hgV _ _)) rfl) rfl ⟨⟨w3.heap.size, w3.heap.size + 1, by rw [cfa_base], ⟨by omega, by omega, by omega, ?_, ?_⟩⟩, ?_⟩
  · rw [setRow_other _ _ _ _ (by omega), Below.heap_alloc _ _ _ (by simp), World.alloc_heap_new, baseCells]
  · have := World.alloc_heap_new (w3.alloc (.cells (row bB ++ row bC).toArray 70)) (.cells #[.int .i64 3325256705] 3)
    rw [setRow_other _ _ _ _ (by omega)]
    rw [World.size_alloc] at this
    rw [baseCells] at this
    exact this
  · exact below_setRow ((hb3.alloc hb3.size _).alloc (by simp; exact Nat.le_succ_of_le hb3.size) _) (Nat.le_refl _) _
set_option maxRecDepth 100000 in
set_option maxHeartbeats 4000000 in
theorem r20base (w : World) : Calls Try.prog 42 #[] w fun e w' => (∃ g1 g2, e = .returned (.agg (cfa (cfb (some ⟨g1, 0, none⟩) (some ⟨g2, 0, none⟩)))) ∧ BaseAt w' w.heap.size g1 g2) ∧ Below w.heap.size w w' := by
  obtain ⟨Z, hZ⟩ : ∃ Z : Array Value, Z = #[.int .u8 0, .int .u8 0, .int .u8 0, .int .u8 0, .int .u8 0, .int .u8 0, .int .u8 0, .int .u8 0, .int .u8 0, .int .u8 0, .int .u8 0, .int .u8 0, .int .u8 0, .int .u8 0, .int .u8 0, .int .u8 0, .slice none 0 0, .slice none 0 0, .int .i64 0, .int .i64 0, .int .i64 0, .int .i64 0, .int .i64 0, .int .i64 0, .int .i64 0, .int .i64 0, .int .i64 0, .int .i64 0, .int .i64 0, .int .i64 0, .int .i64 0, .int .i64 0, .int .i64 0, .int .i64 0, .int .i64 0, .slice none 0 0] := ⟨_, rfl⟩
  have hZs : Z.size = 36 := by rw [hZ]; rfl
  obtain ⟨W, hW⟩ : ∃ W, W = w.alloc (.cells Z 74) := ⟨_, rfl⟩
  have hbW : Below w.heap.size w W := by rw [hW]; exact (Below.refl _ w).alloc (Nat.le_refl _) _
  have hgW : W.heap[w.heap.size]? = some (.cells Z 74 (0, 0)) := by rw [hW]; exact World.alloc_heap_new w _
  have hzW : w.heap.size < W.heap.size := by rw [hW]; simp
  have HG : Hid (∀ w1 w2 w3 O1 O2, Below W.heap.size W w1 → Below w1.heap.size w1 w2 → Below w2.heap.size w2 w3 → ((w3.alloc O1).alloc O2).heap[w.heap.size]? = some (.cells Z 74 (0, 0))) := Lib.hid (by
    intro w1 w2 w3 O1 O2 x1 x2 x3
    have z1 := x1.size
    have z2 := x2.size
    have z3 := x3.size
    rw [Below.heap_alloc _ _ _ (by simp; omega), Below.heap_alloc _ _ _ (by omega), x3.block _ (by omega), x2.block _ (by omega), x1.block _ hzW]; exact hgW)
  rw [hZ] at hW
  have hW' := hW.symm
  clear hW
  clear hZ
  go_enter Try.func42, Try.ntmps42
  go_upto_region 1 with fail
  try rw [hW']
  clear hW'
  go_wp2_with (first
    | (go_at_call 90; (refine (r4of (some ⟨w2.heap.size, 0, none⟩) [8193, 3512, 2, 0, 0, 0, 0, 1] 8 (w2.heap.size + 1) _ (newI w2 [8193, 3512, 2, 0, 0, 0, 0, 1] _ _ rfl) (by simp) (by decide)).mono ?_; rintro e w3 ⟨rfl, yw3⟩; rw [of_C]; have xw3 : Below w2.heap.size w2 w3 := ((Below.refl _ w2).alloc (Nat.le_refl _) _).trans (yw3.mono (by simp)); clear yw3))
    | (go_at_call 90; (refine (r4of (some ⟨w1.heap.size, 0, none⟩) [8193, 3512, 1, 0, 0, 0, 0, 1] 8 (w1.heap.size + 1) _ (newI w1 [8193, 3512, 1, 0, 0, 0, 0, 1] _ _ rfl) (by simp) (by decide)).mono ?_; rintro e w2 ⟨rfl, yw2⟩; rw [of_B]; have xw2 : Below w1.heap.size w1 w2 := ((Below.refl _ w1).alloc (Nat.le_refl _) _).trans (yw2.mono (by simp)); clear yw2))
    | (go_at_call 90; (refine (r4of (some ⟨W.heap.size, 0, none⟩) [8193, 3512, 0, 0, 0, 0, 0, 1] 8 (W.heap.size + 1) _ (newI W [8193, 3512, 0, 0, 0, 0, 0, 1] _ _ rfl) (by simp) (by decide)).mono ?_; rintro e w1 ⟨rfl, yw1⟩; rw [of_A]; have xw1 : Below W.heap.size W w1 := ((Below.refl _ W).alloc (Nat.le_refl _) _).trans (yw1.mono (by simp)); clear yw1))
    | ((with_reducible show wpList _ _ _ (Oper.mk none (Op.store 74 _ _) _ _ _ _ :: _) _ _); have hgV := fun O1 O2 => HG.out w1 w2 w3 O1 O2 xw1 xw2 xw3; (refine str_cfg (g := w.heap.size) (t := 74) (old := Z) rfl rfl (hgV _ _) hZs rfl (by rw [← cfa_base]; exact cfa_one _) ?_)))
  have zx1 := xw1.size
  have zx2 := xw2.size
  have zx3 := xw3.size
  have hb3 : Below w.heap.size w w3 := hbW.trans ((xw1.trans ((xw2.trans (xw3.mono zx2)).mono zx1)).mono hbW.size)
  refine bodyPost_ret (res_cfg rfl rfl (setRow_heap _ _ _ _ _ _ (hgV _ _)) rfl) rfl ⟨⟨w3.heap.size, w3.heap.size + 1, by rw [cfa_base], ⟨by omega, by omega, by omega, ?_, ?_⟩⟩, ?_⟩
  · rw [setRow_other _ _ _ _ (by omega), Below.heap_alloc _ _ _ (by simp), World.alloc_heap_new, baseCells]
  · have := World.alloc_heap_new (w3.alloc (.cells (row bB ++ row bC).toArray 70)) (.cells #[.int .i64 3325256705] 3)
    rw [setRow_other _ _ _ _ (by omega)]
    rw [World.size_alloc] at this
    rw [baseCells] at this
    exact this
  · exact below_setRow ((hb3.alloc hb3.size _).alloc (by simp; exact Nat.le_succ_of_le hb3.size) _) (Nat.le_refl _) _
end Go.Proofs.Ytogidfagkgccmaa

/-
  awake of layer 20. Conditions are each theorem's own.
-/
namespace Go.Proofs.Ytogidfagkgccmaa
open Go.RowKit Go.Shelf
theorem wpList_gval {P : Program} {ops : Array Oper} {rest : List Oper} {o : Oper} {a : Act} {w : World} {Q : Exit → Act → World → Prop} {v : Value} (hg : Region.wanted o (yielded ops a.tmps) = true) (hrun : (execOp a.eval o).run P w = .ok (.value v) w)
    (h : wpList P ops Q rest (a.put o.dst v) w) : wpList P ops Q (o :: rest) a w :=
  wpList_step fun K hK => by rw [if_pos hg]; unfold Oper.wp; rw [hrun]; exact hK _ _ h
theorem cfb_at {W : World} {g g1 g2 : Nat} (h : AtC W g (cfb (some ⟨g1, 0, none⟩) (some ⟨g2, 0, none⟩))) : W.cell? ⟨g, 16, none⟩ = some (.slice (some ⟨g1, 0, none⟩) 2 2) := h.at_ rfl (j := 0) rfl
theorem soft_base (A1 A2 : Option Addr) : softI (cfb A1 A2) bC = 1 ∧ softB (cfb A1 A2) bC = true := ⟨rfl, rfl⟩
theorem wait_base (A1 A2 : Option Addr) : waitB (cfb A1 A2) 6 3 = 7440 := rfl
set_option maxRecDepth 100000 in
set_option maxHeartbeats 2000000 in
theorem awake20 (w : World) : Calls Try.prog 34 #[] w fun e w' => e = .returned (.bool true) ∧ Below w.heap.size w w' := by
  go_enter Try.func34, Try.ntmps34
  go_upto_region 1 with fail
  go_upto_region 2 with (first
    | (go_at_call 41; refine (c20base w).mono ?_; rintro e w1 ⟨⟨g1, g2, rfl, hb⟩, b1⟩)
    | ((with_reducible show wpList _ _ _ (Oper.mk none (Op.store 74 _ _) _ _ _ _ :: _) _ _); refine strn_cfg rfl rfl rfl (by rw [cfa_base]; rfl) (cfa_one _) ?_))
  obtain ⟨q, hq0⟩ : ∃ q, q = cfb (some ⟨g1, 0, none⟩) (some ⟨g2, 0, none⟩) := ⟨_, rfl⟩
  have hfit : Fits q := by rw [hq0]; exact cfb_fits _ _ (by simp)
  have hsoft : softI q bC = 1 ∧ softB q bC = true := by rw [hq0]; exact soft_base _ _
  have hwait : waitB q 6 3 = 7440 := by rw [hq0]; exact wait_base _ _
  have hchk : chkB q = 0 := by rw [hq0]; exact chk_base _ _
  rw [← hq0]
  obtain ⟨W, hW⟩ : ∃ W, W = w1.alloc (.cells (cfa q) 74) := ⟨_, rfl⟩
  have hbW : Below w1.heap.size w1 W := by rw [hW]; exact (Below.refl _ w1).alloc (Nat.le_refl _) _
  have hAt : AtC W w1.heap.size q := by rw [hW]; exact AtC.new _ _ _
  have hzW : w1.heap.size < W.heap.size := by rw [hW]; simp
  rw [← hW]
  clear hW
  have hB2 := hb.below hbW
  have hm : MemC W W.heap.size q := by rw [hq0]; exact hB2.mem
  have k1 : W.cell? ⟨w1.heap.size, 16, none⟩ = some (.slice (some ⟨g1, 0, none⟩) 2 2) := by rw [hq0] at hAt; exact cfb_at hAt
  have hrC : W.rangeAt g1 16 (row bC) := fun j v hj => by
    rw [cell_of_row W g1 _ _ _ _ hB2.h1, List.getElem?_toArray, List.getElem?_append_right (by show 16 ≤ 16 + j; omega)]
    show (row bC)[16 + j - 16]? = _
    rw [show 16 + j - 16 = j by omega]; exact hj
  have hg1 := heap_lt hB2.h1
  have hcl : (cfl q).length = 36 := cfl_len hfit.aftr
  have hl6 : (row bC).length = 16 := rfl
  have hbw : Below w.heap.size w W := b1.trans (hbW.mono b1.size)
  clear hq0 hb hB2
  go_upto_region 4 with fail
  have kS := fun V (hV : Below W.heap.size W V) => (hV.cell (p := ⟨w1.heap.size, 16, none⟩) hzW).trans k1
  have cS := fun V (hV : Below W.heap.size W V) => hAt.below hV hzW
  have rS := fun V (hV : Below W.heap.size W V) => range_below hrC hg1 hV
  refine wp_region_held_drew (S := fun w' => Below W.heap.size W w') (by kernel_rfl) (Below.refl _ W).drew (fun hS => ?_)
  refine held_pure (i := 0) (oi := ⟨some 10, _, _, _, _, _⟩) rfl (by kernel_rfl) (by kernel_rfl) (by kernel_rfl) (fun _ _ _ h => h) (by rfl) (fun w hSw => ld_cfg rfl rfl (cS _ hSw) hcl) hS (fun hS => ?_)
  try go_frame
  refine held_pure (i := 1) (oi := ⟨some 11, _, _, _, _, _⟩) rfl (by kernel_rfl) (by kernel_rfl) (by kernel_rfl) (fun _ _ _ h => h) (by rfl) (v := ?_) (fun w hSw => ?_) hS (fun hS => ?_)
  rotate_left
  · go_simp; try with_reducible rfl
  try go_frame
  refine held_pure (i := 2) (oi := ⟨some 12, _, _, _, _, _⟩) rfl (by kernel_rfl) (by kernel_rfl) (by kernel_rfl) (fun _ _ _ h => h) (by rfl) (fun w hSw => ld_slX rfl rfl (kS _ hSw)) hS (fun hS => ?_)
  try go_frame
  refine held_pure (i := 3) (oi := ⟨some 13, _, _, _, _, _⟩) rfl (by kernel_rfl) (by kernel_rfl) (by kernel_rfl) (fun _ _ _ h => h) (by rfl) (v := ?_) (fun w hSw => ?_) hS (fun hS => ?_)
  rotate_left
  · go_simp; try with_reducible rfl
  try go_frame
  refine held_pure (i := 4) (oi := ⟨some 14, _, _, _, _, _⟩) rfl (by kernel_rfl) (by kernel_rfl) (by kernel_rfl) (fun _ _ _ h => h) (by rfl) (fun w hSw => ld_six rfl rfl (rS _ hSw) hl6) hS (fun hS => ?_)
  try go_frame
  refine wpAnyH_ready (rs := [5]) (by kernel_rfl) (by simp) (AllReadyH.cons (o := ⟨some 15, _, _, _, _, _⟩) rfl (fun K hK => ?_) AllReadyH.nil)
  rw [if_pos (by rfl)]
  go_simp
  refine (c20soft bC rfl q W.heap.size _ hfit (hm.below hS) hS.size).mono ?_
  rintro e w5 ⟨rfl, x5⟩
  rw [hsoft.1, hsoft.2]
  show K _ _
  refine hK.out _ _ (below_step hS x5) (fun hS => ?_)
  clear hK K
  try go_frame
  refine held_pure (i := 6) (oi := ⟨some 9, _, _, _, _, _⟩) rfl (by kernel_rfl) (by kernel_rfl) (by kernel_rfl) (fun _ _ _ h => h) (by rfl) (v := ?_) (fun w hSw => ?_) hS (fun hS => ?_)
  rotate_left
  · go_simp; try with_reducible rfl
  try go_frame
  refine held_pure (i := 7) (oi := ⟨some 16, _, _, _, _, _⟩) rfl (by kernel_rfl) (by kernel_rfl) (by kernel_rfl) (fun _ _ _ h => h) (by rfl) (v := ?_) (fun w hSw => ?_) hS (fun hS => ?_)
  rotate_left
  · go_simp; try with_reducible rfl
  try go_frame
  refine held_pure (i := 8) (oi := ⟨some 17, _, _, _, _, _⟩) rfl (by kernel_rfl) (by kernel_rfl) (by kernel_rfl) (fun _ _ _ h => h) (by rfl) (v := ?_) (fun w hSw => ?_) hS (fun hS => ?_)
  rotate_left
  · go_simp; try with_reducible rfl
  try go_frame
  refine held_pure (i := 9) (oi := ⟨some 2, _, _, _, _, _⟩) rfl (by kernel_rfl) (by kernel_rfl) (by kernel_rfl) (fun _ _ _ h => h) (by rfl) (v := ?_) (fun w hSw => ?_) hS (fun hS => ?_)
  rotate_left
  · go_simp; try with_reducible rfl
  try go_frame
  refine held_pure (i := 10) (oi := ⟨some 3, _, _, _, _, _⟩) rfl (by kernel_rfl) (by kernel_rfl) (by kernel_rfl) (fun _ _ _ h => h) (by rfl) (v := ?_) (fun w hSw => ?_) hS (fun hS => ?_)
  rotate_left
  · go_simp; try with_reducible rfl
  try go_frame
  refine wpAnyH_done (by kernel_rfl) ?_ _
  go_wp2_with (first
    | ((with_reducible show wpList _ _ _ (Oper.mk (some 18) (Op.load 74 _) _ _ _ _ :: _) _ _); (refine wpList_val rfl (ld_cfg rfl rfl (cS _ hS) hcl) ?_))
    | (go_at_call 37; (refine (c20check q W.heap.size _ hfit (hm.below hS) hS.size).mono ?_; rintro e w7 ⟨rfl, b7⟩; rw [hchk]; have hS7 := hS.trans (b7.mono hS.size)))
    | ((with_reducible show wpList _ _ _ (Oper.mk (some 29) (Op.load 74 _) _ _ _ _ :: _) _ _); refine wpList_gval (by rfl) (ld_cfg rfl rfl (cS _ hS7) hcl) ?_)
    | (go_at_call 39; (refine (c20wait 6 3 q _ hfit).mono ?_; rintro e w8 ⟨rfl, b8⟩; rw [hwait])))
  go_ret
  exact ⟨rfl, hbw.trans ((hS7.trans (b8.mono hS7.size)).mono hbw.size)⟩
end Go.Proofs.Ytogidfagkgccmaa

/-
  The document's plain answer of layer 20: Check. Conditions are each theorem's own.
-/
namespace Go.Proofs.Ytogidfagkgccmaa
open Go.RowKit Go.Shelf
set_option maxRecDepth 100000 in
set_option maxHeartbeats 2000000 in
theorem r20check (q : Cfg) (B : Nat) (w : World) (hq : Fits q) (hm : MemC w B q) (hB : B ≤ w.heap.size) :
    Calls Try.prog 38 #[.agg (cfa q)] w fun e w' => e = .returned (.int .i64 (chkB q)) ∧ Below w.heap.size w w' := by
  have hW0 := BoxC.mk' w q
  generalize hWW : w.alloc (.cells (cfa q) 74) = W at hW0
  have hz := hW0.lt
  have a16 := hq.aftr
  have hcl : (cfl q).length = 36 := cfl_len a16
  rcases h0 : numB q with _ | _
  · have H0 := Lib.hid h0
    have HR : Hid (chkB q = 1) := Lib.hid (by rw [chkB, h0]; rfl)
    clear h0
    go_enter Try.func38, Try.ntmps38
    go_upto_region 1 with fail
    try rw [hWW]
    clear hWW
    go_wp2_with (first
      | ((with_reducible show wpList _ _ _ (Oper.mk (some 3) (Op.load 74 _) _ _ _ _ :: _) _ _); refine wpList_val rfl (ld_cfg rfl rfl hW0.at_ hcl) ?_)
      | (go_at_call 86; refine (r20numbers q W hq).mono ?_; rintro e w1 ⟨rfl, b1⟩; rw [H0.out]; have hW1 := hW0.more b1))
    go_ret
    exact ⟨by rw [HR.out]; rfl, hW1.bel⟩
  · have H0 := Lib.hid h0
    rcases h1 : lisB q with _ | _
    · have H1 := Lib.hid h1
      have HR : Hid (chkB q = 1) := Lib.hid (by rw [chkB, h0, h1]; rfl)
      clear h0 h1
      go_enter Try.func38, Try.ntmps38
      go_upto_region 1 with fail
      try rw [hWW]
      clear hWW
      go_wp2_with (first
        | ((with_reducible show wpList _ _ _ (Oper.mk (some 3) (Op.load 74 _) _ _ _ _ :: _) _ _); refine wpList_val rfl (ld_cfg rfl rfl hW0.at_ hcl) ?_)
        | (go_at_call 86; refine (r20numbers q W hq).mono ?_; rintro e w1 ⟨rfl, b1⟩; rw [H0.out]; have hW1 := hW0.more b1)
        | ((with_reducible show wpList _ _ _ (Oper.mk (some 7) (Op.load 74 _) _ _ _ _ :: _) _ _); refine wpList_gval (by rfl) (ld_cfg rfl rfl hW1.at_ hcl) ?_)
        | (go_at_call 87; refine (r20lists q B w1 hq (hW1.mem hm hB) (Nat.le_trans hB hW1.bel.size)).mono ?_; rintro e w2 ⟨rfl, b2⟩; rw [H1.out]; have hW2 := hW1.more b2))
      go_ret
      exact ⟨by rw [HR.out]; rfl, hW2.bel⟩
    · have H1 := Lib.hid h1
      have hq0 : 0 ≤ q.quota := by
        simp only [numB, inn, Bool.and_eq_true, decide_eq_true_eq] at h0
        omega
      have HQ := Lib.hid hq0
      rcases h2 : twB q with _ | _
      · have H2 := Lib.hid h2
        have HR : Hid (chkB q = 0) := Lib.hid (by rw [chkB, h0, h1, h2]; rfl)
        clear h0 h1 h2 hq0
        go_enter Try.func38, Try.ntmps38
        go_upto_region 1 with fail
        try rw [hWW]
        clear hWW
        go_wp2_with (first
          | ((with_reducible show wpList _ _ _ (Oper.mk (some 3) (Op.load 74 _) _ _ _ _ :: _) _ _); refine wpList_val rfl (ld_cfg rfl rfl hW0.at_ hcl) ?_)
          | (go_at_call 86; refine (r20numbers q W hq).mono ?_; rintro e w1 ⟨rfl, b1⟩; rw [H0.out]; have hW1 := hW0.more b1)
          | ((with_reducible show wpList _ _ _ (Oper.mk (some 7) (Op.load 74 _) _ _ _ _ :: _) _ _); refine wpList_gval (by rfl) (ld_cfg rfl rfl hW1.at_ hcl) ?_)
          | (go_at_call 87; refine (r20lists q B w1 hq (hW1.mem hm hB) (Nat.le_trans hB hW1.bel.size)).mono ?_; rintro e w2 ⟨rfl, b2⟩; rw [H1.out]; have hW2 := hW1.more b2)
          | ((with_reducible show wpList _ _ _ (Oper.mk (some 11) (Op.load 74 _) _ _ _ _ :: _) _ _); refine wpList_val rfl (ld_cfg rfl rfl hW2.at_ hcl) ?_)
          | (go_at_call 88; refine (r20twice q B w2 hq (hW2.mem hm hB) (Nat.le_trans hB hW2.bel.size) HQ.out).mono ?_; rintro e w3 ⟨rfl, b3⟩; rw [H2.out]; have hW3 := hW2.more b3))
        go_ret
        exact ⟨by rw [HR.out]; rfl, hW3.bel⟩
      · have H2 := Lib.hid h2
        have HR : Hid (chkB q = 9) := Lib.hid (by rw [chkB, h0, h1, h2]; rfl)
        clear h0 h1 h2 hq0
        go_enter Try.func38, Try.ntmps38
        go_upto_region 1 with fail
        try rw [hWW]
        clear hWW
        go_wp2_with (first
          | ((with_reducible show wpList _ _ _ (Oper.mk (some 3) (Op.load 74 _) _ _ _ _ :: _) _ _); refine wpList_val rfl (ld_cfg rfl rfl hW0.at_ hcl) ?_)
          | (go_at_call 86; refine (r20numbers q W hq).mono ?_; rintro e w1 ⟨rfl, b1⟩; rw [H0.out]; have hW1 := hW0.more b1)
          | ((with_reducible show wpList _ _ _ (Oper.mk (some 7) (Op.load 74 _) _ _ _ _ :: _) _ _); refine wpList_gval (by rfl) (ld_cfg rfl rfl hW1.at_ hcl) ?_)
          | (go_at_call 87; refine (r20lists q B w1 hq (hW1.mem hm hB) (Nat.le_trans hB hW1.bel.size)).mono ?_; rintro e w2 ⟨rfl, b2⟩; rw [H1.out]; have hW2 := hW1.more b2)
          | ((with_reducible show wpList _ _ _ (Oper.mk (some 11) (Op.load 74 _) _ _ _ _ :: _) _ _); refine wpList_val rfl (ld_cfg rfl rfl hW2.at_ hcl) ?_)
          | (go_at_call 88; refine (r20twice q B w2 hq (hW2.mem hm hB) (Nat.le_trans hB hW2.bel.size) HQ.out).mono ?_; rintro e w3 ⟨rfl, b3⟩; rw [H2.out]; have hW3 := hW2.more b3))
        go_ret
        exact ⟨by rw [HR.out]; rfl, hW3.bel⟩
end Go.Proofs.Ytogidfagkgccmaa

/-
  Packets of IPv6 in a block of their own; laws for loads out of it. Conditions are each theorem's own.
-/
namespace Go.Proofs.Ytogidfagkgccmaa
open Go.RowKit

def v6a (q : P6) (A : Option Addr) (c : Nat) : Array Value := (v6l q A c).toArray
def At6 (W : World) (g : Nat) (q : P6) (A : Option Addr) (c : Nat) : Prop := W.rangeAt g 0 (v6l q A c)
section
variable {W : World} {g : Nat} {q : P6} {A : Option Addr} {c : Nat}
theorem At6.below {w : World} {B : Nat} (h : At6 W g q A c) (hb : Below B W w) (hg : g < B) : At6 w g q A c := range_below h hg hb
theorem At6.traffic (h : At6 W g q A c) : W.cell? ⟨g, 0, none⟩ = some (.int .i64 q.traffic) := h 0 _ rfl
theorem At6.flow (h : At6 W g q A c) : W.cell? ⟨g, 1, none⟩ = some (.int .i64 q.flow) := h 1 _ rfl
theorem At6.next (h : At6 W g q A c) : W.cell? ⟨g, 2, none⟩ = some (.int .i64 q.next) := h 2 _ rfl
theorem At6.hop (h : At6 W g q A c) : W.cell? ⟨g, 3, none⟩ = some (.int .i64 q.hop) := h 3 _ rfl
theorem v6l_src (j : Nat) (v : Value) (hj : (row q.src)[j]? = some v) : (v6l q A c)[4 + j]? = some v := by
  have hl : j < (row q.src).length := (List.getElem?_eq_some_iff.1 hj).1
  rw [v6l, List.append_assoc, List.append_assoc, List.getElem?_append_right (by simp)]
  rw [show 4 + j - [Value.int .i64 q.traffic, .int .i64 q.flow, .int .i64 q.next, .int .i64 q.hop].length = j from by simp]
  rw [List.getElem?_append_left hl]; exact hj
theorem v6l_dst (hs : q.src.length = 16) (j : Nat) (v : Value) (hj : (row q.dst)[j]? = some v) : (v6l q A c)[20 + j]? = some v := by
  have hl : j < (row q.dst).length := (List.getElem?_eq_some_iff.1 hj).1
  have e : ([Value.int .i64 q.traffic, .int .i64 q.flow, .int .i64 q.next, .int .i64 q.hop] ++ row q.src).length = 20 := by simp [row_length, hs]
  rw [v6l, List.append_assoc, List.getElem?_append_right (by rw [e]; omega), e, show 20 + j - 20 = j from by omega, List.getElem?_append_left hl]; exact hj
theorem v6l_dat (hs : q.src.length = 16) (hd : q.dst.length = 16) : (v6l q A c)[36]? = some (.slice A q.dat.length c) := by
  have e : ([Value.int .i64 q.traffic, .int .i64 q.flow, .int .i64 q.next, .int .i64 q.hop] ++ row q.src ++ row q.dst).length = 36 := by simp [row_length, hs, hd]
  rw [v6l, List.getElem?_append_right (by rw [e]; omega), e]; rfl
theorem v6l_len (hs : q.src.length = 16) (hd : q.dst.length = 16) : (v6l q A c).length = 37 := by simp [v6l, row_length, hs, hd]
theorem At6.src (h : At6 W g q A c) : W.rangeAt g 4 (row q.src) := fun j v hj => by
  have := h (4 + j) v (v6l_src j v hj); rwa [Nat.zero_add] at this
theorem At6.dst (h : At6 W g q A c) (hs : q.src.length = 16) : W.rangeAt g 20 (row q.dst) := fun j v hj => by
  have := h (20 + j) v (v6l_dst hs j v hj); rwa [Nat.zero_add] at this
theorem At6.dat (h : At6 W g q A c) (hs : q.src.length = 16) (hd : q.dst.length = 16) : W.cell? ⟨g, 36, none⟩ = some (.slice A q.dat.length c) := h 36 _ (v6l_dat hs hd)
end
theorem run_load_six {o : Oper} {a : Act} {w : World} {x : Operand} {g i : Nat} {cs : List UInt8} (ho : o.op = .load 70 x) (hx : a.eval x = .pointer (some ⟨g, i, none⟩)) (hr : w.rangeAt g i (row cs)) (hl : cs.length = 16) :
    (execOp a.eval o).run Try.prog w = .ok (.value (.agg (cel cs))) w := by
  have h := run_loadVar_mid (P := Try.prog) w g i 70 (row cs) _ hr Try.underlying70 rfl (by rw [row_length, hl]; kernel_rfl)
  unfold execOp
  simp only [ho, hx, Instr.loadAt, Instr.sureAddr, Sem.run_bind, Sem.run_pure, Result.andThen_ok, h, cel]
/-- An operation that yields a value and is wanted. -/
theorem wpList_valg {P : Program} {ops : Array Oper} {rest : List Oper} {o : Oper} {a : Act} {w : World} {Q : Exit → Act → World → Prop} {v : Value} (hw : Region.wanted o (yielded ops a.tmps) = true) (hrun : (execOp a.eval o).run P w = .ok (.value v) w)
    (h : wpList P ops Q rest (a.put o.dst v) w) : wpList P ops Q (o :: rest) a w :=
  wpList_step fun K hK => by rw [if_pos hw]; unfold Oper.wp; rw [hrun]; exact hK _ _ h
def flowB (q : P6) : Bool := decide (0 ≤ q.flow) && decide (q.flow < 1048576)
theorem arg6_iff (q : P6) : arg6 q ↔ (fitsB q.traffic 1 = true ∧ fitsB q.next 1 = true ∧ fitsB q.hop 1 = true ∧ flowB q = true) := by
  unfold arg6 flowB
  simp only [Bool.and_eq_true, fitsB_iff, decide_eq_true_eq, pw]
  constructor
  · rintro ⟨a1, a2, a3, a4, a5, a6, a7, a8⟩
    refine ⟨⟨?_, ?_, ?_, ?_⟩, ⟨?_, ?_, ?_, ?_⟩, ⟨?_, ?_, ?_, ?_⟩, ?_, ?_⟩ <;> (try simp) <;> omega
  · rintro ⟨⟨_, _, f1, f2⟩, ⟨_, _, g1, g2⟩, ⟨_, _, h1, h2⟩, m1, m2⟩
    simp at f2 g2 h2
    refine ⟨?_, ?_, ?_, ?_, ?_, ?_, ?_, ?_⟩ <;> omega
section
variable (q : P6) (A : Option Addr) (c : Nat) (w : World)
end
end Go.Proofs.Ytogidfagkgccmaa

/-
  Contracts of Check, numbers and Same of layer 6, the program's and the document's. Conditions are each theorem's own.
-/
namespace Go.Proofs.Ytogidfagkgccmaa
open Go.RowKit

/-- Integers in an array. -/
def zat (zs : List Int) (i : Nat) : Int := zs.getD i 0
def ivs (zs : List Int) : Array Value := (zs.map (Value.int .i64)).toArray
theorem ivs_get (zs : List Int) {j : Nat} (h : j < zs.length) : (ivs zs)[j]? = some (.int .i64 (zat zs j)) := by
  simp [ivs, zat, h]
theorem ints_items (a b : List Int) (d : Nat) (w : World) : ∀ is : List Nat, (∀ i ∈ is, i < a.length ∧ i < b.length) →
    (Op.eqItems (d + 1) 3 1 (ivs a) (ivs b) is).run Try.prog w = .ok (decide (∀ i ∈ is, zat a i = zat b i)) w
  | [], _ => by simp [Op.eqItems]
  | i :: is, h => by
    have hp : Try.prog.plainKey 3 = true := by kernel_rfl
    obtain ⟨h1, h2⟩ := h i (by simp)
    have p1 := run_part_plain (P := Try.prog) w hp (off := i * 1) (by rw [Nat.mul_one]; exact ivs_get a h1)
    have p2 := run_part_plain (P := Try.prog) w hp (off := i * 1) (by rw [Nat.mul_one]; exact ivs_get b h2)
    have p3 := run_equalIn_int w d 3 .i64 .i64 (zat a i) (zat b i) Try.underlying3
    have ih := ints_items a b d w is (fun j hj => h j (by simp [hj]))
    simp only [Op.eqItems, Sem.run_bind, p1, p2, p3, Result.andThen_ok]
    by_cases he : zat a i = zat b i
    · simp [he, ih]
    · simp [he]
set_option maxRecDepth 100000 in
theorem ints_eq (T : TypeId) (n : Nat) (hT : Try.prog.underlying T = some (.array n 3)) (a b : List Int) (ha : a.length = n) (hb : b.length = n) (w : World) :
    (Op.equalIn 10000 T (.agg (ivs a)) (.agg (ivs b))).run Try.prog w = .ok (decide (a = b)) w := by
  have hi : ∃ i, Try.prog.info? 3 = some i := Option.isSome_iff_exists.1 (by kernel_rfl)
  obtain ⟨i, hi⟩ := hi
  have hc : Try.prog.cellsOf 3 = 1 := by kernel_rfl
  rw [show (10000 : Nat) = 9998 + 1 + 1 from rfl, run_equalIn_array w 9999 (ivs a) (ivs b) hT hi, hc, ints_items a b 9998 w _ (by simp; omega)]
  congr 1
  rw [decide_eq_decide]
  constructor
  · intro h
    refine List.ext_getElem (by omega) fun i h1 h2 => ?_
    have := h i (by simp; omega)
    simpa [zat, List.getD_eq_getElem?_getD, h1, h2] using this
  · rintro rfl i _; rfl
section
variable (q : P6) (A : Option Addr) (c : Nat) (w : World)
end
end Go.Proofs.Ytogidfagkgccmaa

/-
  Contracts of numbers and Same of layer 6, the program's and the document's. Conditions are each theorem's own.
-/
namespace Go.Proofs.Ytogidfagkgccmaa
open Go.RowKit

section
variable (q r : P6) (A : Option Addr) (c : Nat) (X : Option Addr) (d B : Nat) (w : World)
end
end Go.Proofs.Ytogidfagkgccmaa

/-
  Laws for copy into a row of bytes of the call's own, and for slices of arrays. Conditions are each theorem's own.
-/
namespace Go.Proofs.Ytogidfagkgccmaa
open Go.RowKit

theorem row_splice (cur bs : List UInt8) (off : Nat) : splice (row cur) off (row bs) = row (splice cur off bs) := by
  simp [splice, row, List.map_take, List.map_drop]
theorem Rd.of_range {w : World} {g i B : Nat} {bs : List UInt8} (h : w.rangeAt g i (row bs)) (hg : g < B) : Rd w B (some ⟨g, i, none⟩) bs := fun _ =>
  ⟨g, i, rfl, hg, fun j hj => h j _ (row_get bs hj)⟩
section
variable {ops : Array Oper} {o : Oper} {a : Act} {w : World} {Q : Exit → Act → World → Prop}
theorem copy_wp {K : Act → World → Prop} (d s : Operand) (ho : o.op = .call { callee := .builtin .copy, args := #[d, s], argTypes := #[32, 32] })
    (g off dLen dCap : Nat) (dp A : Option Addr) (bs : List UInt8) (c B : Nat) (hd : a.eval d = .slice dp dLen dCap) (hdp : 0 < bs.length → dp = some ⟨g, off, none⟩) (hs : a.eval s = .slice A bs.length c)
    (cur : List UInt8) (hg : w.heap[g]? = some (.cells (row cur).toArray 5 (0, 0))) (hn : bs.length ≤ dLen) (hr : Rd w B A bs) (hfit : off + bs.length ≤ cur.length)
    (w0 : World) (B0 : Nat) (hb : Below B0 w0 w) (hBg : B0 ≤ g) (cur' : List UInt8) (hc' : cur' = splice cur off bs)
    (h : ∀ w', Hid (w'.heap[g]? = some (.cells (row cur').toArray 5 (0, 0))) → Below B0 w0 w' → w'.heap.size = w.heap.size → K (a.put o.dst (goInt bs.length)) w') : Oper.wp Try.prog o a w K Q := by
  subst hc'
  by_cases h0 : bs.length = 0
  · obtain rfl : bs = [] := List.eq_nil_of_length_eq_zero h0
    have hrun := run_copy_none (P := Try.prog) w 32 32 o.type 5 dp A dLen dCap 0 c Try.underlying32 size_u8 (Nat.zero_min _)
    unfold Oper.wp
    simp [execOp, ho, resolve, invoke, builtin, hd, hs, hrun, Result.andThen]
    exact h w (Lib.hid (by rw [hg]; simp [splice])) hb rfl
  · obtain ⟨b, of, rfl, hbB, hc⟩ := hr (by omega)
    have hrun := run_copy_row (P := Try.prog) w 32 32 o.type 5 g off dLen dCap ⟨b, of, none⟩ bs.length c (row cur).toArray 5 (row bs) Try.underlying32 size_u8 hg (by rw [row_length]; exact (Nat.min_eq_left hn).symm)
      (fun j v hj => by
        have hj' : j < bs.length := by have := (List.getElem?_eq_some_iff.1 hj).1; rwa [row_length] at this
        rw [row_getD bs hj' hj, add_off]; exact hc j hj') (by simp [row_length]; omega) (row_one bs)
    have hdp' := hdp (by omega)
    subst hdp'
    rw [row_length] at hrun
    unfold Oper.wp
    simp [execOp, ho, resolve, invoke, builtin, hd, hs, hrun, Result.andThen]
    change K (a.put o.dst (goInt (bs.length : Int))) _
    refine h _ (Lib.hid ?_) (below_setRow hb hBg _) (by simp)
    rw [setRow_heap _ _ _ _ _ _ hg, ← row_splice, splice, row_length]
theorem copy_wl {rest : List Oper} (hgd : o.guard = none) (d s : Operand) (ho : o.op = .call { callee := .builtin .copy, args := #[d, s], argTypes := #[32, 32] })
    (g off dLen dCap : Nat) (dp A : Option Addr) (bs : List UInt8) (c B : Nat) (hd : a.eval d = .slice dp dLen dCap) (hdp : 0 < bs.length → dp = some ⟨g, off, none⟩) (hs : a.eval s = .slice A bs.length c)
    (cur : List UInt8) (hg : w.heap[g]? = some (.cells (row cur).toArray 5 (0, 0))) (hn : bs.length ≤ dLen) (hr : Rd w B A bs) (hfit : off + bs.length ≤ cur.length)
    (w0 : World) (B0 : Nat) (hb : Below B0 w0 w) (hBg : B0 ≤ g) (cur' : List UInt8) (hc' : cur' = splice cur off bs)
    (h : ∀ w', Hid (w'.heap[g]? = some (.cells (row cur').toArray 5 (0, 0))) → Below B0 w0 w' → w'.heap.size = w.heap.size → wpList Try.prog ops Q rest (a.put o.dst (goInt bs.length)) w') : wpList Try.prog ops Q (o :: rest) a w :=
  wpList_plain hgd fun _ hK => copy_wp d s ho g off dLen dCap dp A bs c B hd hdp hs cur hg hn hr hfit w0 B0 hb hBg cur' hc' (fun w' h1 h2 h3 => hK _ _ (h w' h1 h2 h3))
theorem splice_mid4 {α : Type} (a z bs : List α) (k : Nat) (hk : a.length = k) : splice (a ++ z) k bs = (a ++ bs) ++ z.drop bs.length := by
  subst hk
  simp [splice]
theorem splice_mid (a z bs : List UInt8) (k : Nat) (hk : a.length = k) : splice (a ++ z) k bs = (a ++ bs) ++ z.drop bs.length := by
  subst hk
  simp [splice]
theorem out6 (q : P6) (hs : q.src.length = 16) (hd : q.dst.length = 16) (n : Nat) (hn : n = 40 + q.dat.length) : ∃ C5 C7 C8 : List UInt8, C5 = splice (List.replicate n 0) 0 (hd6 q) ∧ C7 = splice C5 8 q.src ∧ C8 = splice C7 24 q.dst ∧ bld6 q = splice C8 40 q.dat ∧ C5.length = n ∧ C7.length = n ∧ C8.length = n := by
  have h8 := hd6_len q
  have e5 := splice_mid [] (List.replicate n 0) (hd6 q) 0 rfl
  have e7 := splice_mid (hd6 q) ((List.replicate n 0).drop 8) q.src 8 h8
  have e8 := splice_mid (hd6 q ++ q.src) (((List.replicate n 0).drop 8).drop 16) q.dst 24 (by simp [h8, hs])
  have e9 := splice_mid (hd6 q ++ q.src ++ q.dst) ((((List.replicate n 0).drop 8).drop 16).drop 16) q.dat 40 (by simp [h8, hs, hd])
  rw [h8] at e5; rw [hs] at e7; rw [hd] at e8
  simp only [List.nil_append] at e5
  refine ⟨_, _, _, rfl, rfl, rfl, ?_, ?_, ?_, ?_⟩
  · rw [e5, e7, e8, e9, bld6]
    simp [hn]; omega
  · rw [e5]; simp [h8]; omega
  · rw [e5, e7]; simp [h8, hs]; omega
  · rw [e5, e7, e8]; simp [h8, hs, hd]; omega
theorem putL_6 (q : P6) (n : Int) (h : arg6 q) (hl : (q.dat.length : Int) ≤ 65535) (hn : n = fst6 q) : putL [(n, 4), ((q.dat.length : Int), 2), (q.next, 1), (q.hop, 1)] = hd6 q := by
  obtain ⟨a1, a2, a3, a4, a5, a6, a7, a8⟩ := h
  have hf : fst6 q = 1610612736 + q.traffic * 1048576 + q.flow := rfl
  subst hn
  simp only [putL, List.foldl_cons, List.foldl_nil]
  rw [put_four (by omega) (by omega), put_two (by omega) hl, put_one a3 a4, put_one a5 a6, hd6]
  simp
theorem fst6_bits (q : P6) (h : arg6 q) : bits .or .i64 (wrap64 (bits .or .i64 1536 q.traffic * 1048576)) q.flow = fst6 q := by
  obtain ⟨a1, a2, a3, a4, a5, a6, a7, a8⟩ := h
  have e1 := or_byte 6 q.traffic (by omega) (by omega) a1 a2
  have e1' : bits .or .i64 1536 q.traffic = 1536 + q.traffic := by simpa using e1
  have e2 : wrap64 ((1536 + q.traffic) * 1048576) = (1536 + q.traffic) * 1048576 := by
    have := IntWalk.i64_in ((1536 + q.traffic) * 1048576) (by omega)
    simpa [wrap64, IntKind.wrap_i64] using this
  have e3 := bits_join .i64 62 (by decide) wraps_i64 20 ((1536 + q.traffic) * 1048576) q.flow (by omega) (by omega) (by omega) a7 (by omega) (by omega)
  have hf : fst6 q = 1610612736 + q.traffic * 1048576 + q.flow := rfl
  rw [e1', e2, e3, hf]; omega
theorem run_slice_six {x : Operand} {g i : Nat} (ho : o.op = .slice 70 x none none none) (hx : a.eval x = .pointer (some ⟨g, i, none⟩)) :
    (execOp a.eval o).run Try.prog w = .ok (.value (.slice (some ⟨g, i, none⟩) 16 16)) w := by
  unfold execOp
  simp only [ho, hx, Option.map]
  go_simp
end
end Go.Proofs.Ytogidfagkgccmaa

/-
  Contract of v6.Build. Conditions are each theorem's own.
-/
namespace Go.Proofs.Ytogidfagkgccmaa
open Go.RowKit

theorem chk6_zero {q : P6} (h : chk6 q = 0) : arg6 q ∧ (q.dat.length : Int) ≤ 65535 := by
  have ha : arg6 q := by
    rcases Decidable.em (arg6 q) with h' | h'
    · exact h'
    · rw [chk6, if_neg h'] at h; omega
  refine ⟨ha, ?_⟩
  rcases Int.lt_or_le 65535 (q.dat.length : Int) with h' | h'
  · rw [chk6, if_pos ha, if_pos h'] at h; omega
  · exact h'
section
variable (q : P6) (A : Option Addr) (c : Nat) (w : World)
end
end Go.Proofs.Ytogidfagkgccmaa

/-
  Contract of v6.Quoted. Conditions are each theorem's own.
-/
namespace Go.Proofs.Ytogidfagkgccmaa
open Go.RowKit

theorem Made.later {W w1 w2 : World} {v : Value} {bs : List UInt8} (h : Made W w1 v bs) (hb : Below w1.heap.size w1 w2) : Made W w2 v bs := by
  obtain ⟨A, c, rfl, hl, hr, ho, hB⟩ := h
  exact Made.of_own (own_below ho hb) (hB.trans (hb.mono hB.size))
theorem v6a_one (q : P6) (A : Option Addr) (c : Nat) : (v6a q A c).all (·.oneCell') = true := by
  refine Array.all_eq_true_iff_forall_mem.2 fun v hv => ?_
  have hv' : v ∈ v6l q A c := by simpa [v6a] using hv
  simp only [v6l, List.mem_append, List.mem_cons, List.not_mem_nil, or_false] at hv'
  rcases hv' with (((h | h | h | h) | h) | h) | h
  · subst h; rfl
  · subst h; rfl
  · subst h; rfl
  · subst h; rfl
  · exact row_one _ v h
  · exact row_one _ v h
  · subst h; rfl
theorem six_cells (q : P6) (A : Option Addr) (c : Nat) (ss dd : List UInt8) (hs : ss.length = 16) (hd : dd.length = 16) :
    splice (splice (v6l ⟨q.traffic, q.flow, q.next, q.hop, nul, nul, q.dat⟩ A c) 4 (row ss)) 20 (row dd) = v6l ⟨q.traffic, q.flow, q.next, q.hop, ss, dd, q.dat⟩ A c := by
  have e0 : (row nul).length = 16 := by rw [row_length]; rfl
  have es : (row ss).length = 16 := by rw [row_length, hs]
  have ed : (row dd).length = 16 := by rw [row_length, hd]
  simp only [v6l]
  rw [List.append_assoc, List.append_assoc, splice_mid4 _ _ _ 4 rfl, es, List.drop_append_of_le_length (by omega), List.drop_of_length_le (by omega), List.nil_append,
    splice_mid4 _ _ _ 20 (by simp [es]), ed, List.drop_append_of_le_length (by omega), List.drop_of_length_le (by omega), List.nil_append]
section
variable (b : List UInt8) (A : Option Addr) (c : Nat) (w : World)
end
end Go.Proofs.Ytogidfagkgccmaa

/-
  Contract of v6.Parse. Conditions are each theorem's own.
-/
namespace Go.Proofs.Ytogidfagkgccmaa
open Go.RowKit

theorem end6_len (b : List UInt8) (h : ¬ b.length < 40) : ((b.take (end6 b)).drop 40).length = end6 b - 40 := by
  have : end6 b ≤ b.length := by unfold end6; omega
  simp; omega
theorem prs6_len (b : List UInt8) (u : Bool) : (prs6 b u).src.length = 16 ∧ (prs6 b u).dst.length = 16 := by
  unfold prs6
  by_cases h : bad6 b u = 0
  · rw [if_pos h]
    have h40 : ¬ b.length < 40 := fun h' => by rw [bad6, if_pos h'] at h; omega
    simp only [raw6, List.length_take, List.length_drop]
    omega
  · rw [if_neg h]; exact ⟨rfl, rfl⟩
section
variable (b : List UInt8) (A : Option Addr) (c : Nat) (w : World)
end
end Go.Proofs.Ytogidfagkgccmaa

/-
  Single cells stored into a block of the call's own, as operations; a packet of IPv6 that is filled cell by cell. Conditions are each theorem's own.
-/
namespace Go.Proofs.Ytogidfagkgccmaa
open Go.RowKit

section
variable {o : Oper} {a : Act} {w : World} {K : Act → World → Prop} {Q : Exit → Act → World → Prop} {x y : Operand} {p : Addr} {v0 : Value}
theorem store_int_wp {n : Int} (ho : o.op = .store 3 x y) (hx : a.eval x = .pointer (some p)) (hy : a.eval y = .int .i64 n) (hc : w.cell? p = some v0) (hf : w.frozen? p = false) (h : K (a.put o.dst undef) (w.setCell p (.int .i64 n))) : o.wp Try.prog a w K Q := by
  unfold Oper.wp execOp
  simp only [ho, hx, hy]
  go_simp
  exact h
theorem store_u8_wp {n : Int} (ho : o.op = .store 5 x y) (hx : a.eval x = .pointer (some p)) (hy : a.eval y = .int .u8 n) (hc : w.cell? p = some v0) (hf : w.frozen? p = false) (h : K (a.put o.dst undef) (w.setCell p (.int .u8 n))) : o.wp Try.prog a w K Q := by
  unfold Oper.wp execOp
  simp only [ho, hx, hy]
  go_simp
  exact h
end
theorem OwnR.row_other {w0 w : World} {t n g : Nat} {cs : Array Value} (h : OwnR w0 t n w) (hg : w0.heap.size < g) : OwnR w0 t n (w.setRow g cs) := by
  obtain ⟨hB, c0, hn, h0⟩ := h
  exact ⟨below_row hB (by omega), c0, hn, (setRow_other w g _ cs (by omega)).trans h0⟩
theorem OwnR.set {w0 w : World} {t n g i : Nat} {v : Value} (h : OwnR w0 t n w) (hg : w0.heap.size < g) : OwnR w0 t n (w.setCell ⟨g, i, none⟩ v) := by
  obtain ⟨hB, c0, hn, h0⟩ := h
  exact ⟨hB.setCell (p := ⟨g, i, none⟩) (by show _ ≤ g; omega) v, c0, hn, (heap_setCell_other w ⟨g, i, none⟩ _ v (by show _ ≠ g; omega)).trans h0⟩
section
variable {w w' : World} {g i : Nat} {q q' : P6} {A A' : Option Addr} {c c' : Nat} {v : Value}
end
/-- The first k bytes, and noughts up to 16. -/
def fil (l : List UInt8) (k : Nat) : List UInt8 := l.take k ++ List.replicate (16 - k) 0
theorem fil_len (l : List UInt8) {k : Nat} (hk : k ≤ 16) (hl : 16 ≤ l.length) : (fil l k).length = 16 := by simp [fil]; omega
theorem fil_zero (l : List UInt8) : fil l 0 = nul := rfl
theorem fil_all (l : List UInt8) : fil l 16 = l.take 16 := by simp [fil]
theorem fil_set (l : List UInt8) {k : Nat} (hk : k < 16) (hl : 16 ≤ l.length) : (fil l k).set k l[k] = fil l (k + 1) := by
  unfold fil
  have e : (l.take k).length = k := by simp; omega
  rw [List.set_append_right _ _ (by omega), e, Nat.sub_self, show 16 - k = (16 - (k + 1)) + 1 from by omega, List.replicate_succ, List.set_cons_zero, List.take_succ_eq_append_getElem (by omega), List.append_assoc]
  rfl
theorem row_setb (l : List UInt8) (k : Nat) (x : UInt8) : (row l).set k (.int .u8 (x.toNat : Int)) = row (l.set k x) := by simp [row, List.map_set]
theorem set_src (q : P6) (A : Option Addr) (c k : Nat) (x : UInt8) (hk : k < 16) (hs : q.src.length = 16) : (v6a q A c).setIfInBounds (4 + k) (.int .u8 (x.toNat : Int)) = v6a ⟨q.traffic, q.flow, q.next, q.hop, q.src.set k x, q.dst, q.dat⟩ A c := by
  have h4 : ([Value.int .i64 q.traffic, .int .i64 q.flow, .int .i64 q.next, .int .i64 q.hop]).length = 4 := rfl
  rw [v6a, v6a, List.setIfInBounds_toArray, v6l, v6l]
  congr 1
  simp only [List.append_assoc]
  rw [List.set_append_right _ _ (by rw [h4]; omega), h4, show 4 + k - 4 = k from by omega, List.set_append_left _ _ (by rw [row_length]; omega), row_setb]
theorem set_dst (q : P6) (A : Option Addr) (c k : Nat) (x : UInt8) (hk : k < 16) (hs : q.src.length = 16) (hd : q.dst.length = 16) : (v6a q A c).setIfInBounds (20 + k) (.int .u8 (x.toNat : Int)) = v6a ⟨q.traffic, q.flow, q.next, q.hop, q.src, q.dst.set k x, q.dat⟩ A c := by
  have h4 : ([Value.int .i64 q.traffic, .int .i64 q.flow, .int .i64 q.next, .int .i64 q.hop] ++ row q.src).length = 20 := by simp [row_length, hs]
  rw [v6a, v6a, List.setIfInBounds_toArray, v6l, v6l]
  congr 1
  rw [List.append_assoc, List.append_assoc (_ ++ row q.src), List.set_append_right _ _ (by rw [h4]; omega), h4, show 20 + k - 20 = k from by omega, List.set_append_left _ _ (by rw [row_length]; omega), row_setb]
theorem set_dat (q : P6) (A P : Option Addr) (c p : Nat) (D : List UInt8) (hs : q.src.length = 16) (hd : q.dst.length = 16) : (v6a q A c).setIfInBounds 36 (.slice P D.length p) = v6a ⟨q.traffic, q.flow, q.next, q.hop, q.src, q.dst, D⟩ P p := by
  have h4 : ([Value.int .i64 q.traffic, .int .i64 q.flow, .int .i64 q.next, .int .i64 q.hop] ++ row q.src ++ row q.dst).length = 36 := by simp [row_length, hs, hd]
  rw [v6a, v6a, List.setIfInBounds_toArray, v6l, v6l]
  congr 1
  rw [List.set_append_right _ _ (by rw [h4]; omega), h4]; rfl
end Go.Proofs.Ytogidfagkgccmaa

/-
  What stores into an older config leave (layer 20). Conditions are each theorem's own.
-/
namespace Go.Proofs.Ytogidfagkgccmaa
open Go.RowKit Go.Shelf
theorem below_sc {B b : Nat} (h : B ≤ b) : ∀ (vs : List Value) (o : Nat) (w : World), Below B w (w.setCells b o vs)
  | [], _, w => Below.refl B w
  | v :: r, o, w => ((Below.refl B w).setCell (by exact h) v).trans (below_sc h r (o + 1) _)
/-- Stores into the blocks g1 and g2 leave this. -/
structure Stored (w W U : World) (g1 g2 : Nat) : Prop where
  bel : Below w.heap.size w U
  size : W.heap.size ≤ U.heap.size
  same : ∀ g, g ≠ g1 → g ≠ g2 → g < W.heap.size → U.heap[g]? = W.heap[g]?
  t1 : U.there g1 0 16
  t2 : U.there g2 0 1
theorem Stored.drew {w W U : World} {g1 g2 : Nat} (h : Stored w W U g1 g2) : Stored w W U.drew g1 g2 := ⟨h.bel.drew, h.size, h.same, h.t1, h.t2⟩
theorem Stored.set {w W U : World} {g1 g2 g : Nat} (h : Stored w W U g1 g2) (hg : w.heap.size ≤ g) (he : g = g1 ∨ g = g2) (o : Nat) (vs : List Value) : Stored w W (U.setCells g o vs) g1 g2 :=
  ⟨h.bel.trans (below_sc hg vs o U), Nat.le_trans h.size (below_sc hg vs o U).size, fun k h1 h2 hk => by
    rw [World.heap_setCells_other _ _ _ _ (Nat.lt_of_lt_of_le hk h.size) (by rcases he with rfl | rfl <;> assumption)]
    exact h.same k h1 h2 hk, World.there_setCells h.t1 _ _ _, World.there_setCells h.t2 _ _ _⟩
theorem there_of_heap {W : World} {g n : Nat} {cs : Array Value} {t : TypeId} (h : W.heap[g]? = some (.cells cs t (0, 0))) (hn : n ≤ cs.size) : W.there g 0 n := fun j hj => by
  refine ⟨?_, heap_frozen h _⟩
  rw [cell_of_row W g _ _ _ _ h, Nat.zero_add]
  simp [Nat.lt_of_lt_of_le hj hn]
theorem eq_six (a : List UInt8) (ha : a.length = 16) (w : World) : (Op.equalIn 10000 70 (.agg (row a).toArray) (.agg (row a).toArray)).run Try.prog w = .ok true w := by
  have := six_eq a a ha ha w
  rwa [decide_eq_true rfl] at this
theorem BaseAt.rB {w' : World} {B g1 g2 : Nat} (h : BaseAt w' B g1 g2) : w'.rangeAt g1 0 (row bB) := fun j v hj => by
  rw [cell_of_row w' g1 _ _ _ _ h.h1, List.getElem?_toArray, Nat.zero_add, List.getElem?_append_left (List.getElem?_eq_some_iff.1 hj).1]; exact hj
theorem BaseAt.rC {w' : World} {B g1 g2 : Nat} (h : BaseAt w' B g1 g2) : w'.rangeAt g1 16 (row bC) := fun j v hj => by
  rw [cell_of_row w' g1 _ _ _ _ h.h1, List.getElem?_toArray, List.getElem?_append_right (by show 16 ≤ 16 + j; omega)]
  show (row bC)[16 + j - 16]? = _
  rw [show 16 + j - 16 = j by omega]; exact hj
theorem BaseAt.rP {w' : World} {B g1 g2 : Nat} (h : BaseAt w' B g1 g2) : w'.cell? ⟨g2, 0, none⟩ = some (.int .i64 3325256705) := by
  rw [cell_of_row w' g2 _ _ _ _ h.h2]; rfl
theorem BaseAt.of_heap {w w' : World} {B g1 g2 : Nat} (h : BaseAt w B g1 g2) (e1 : w'.heap[g1]? = w.heap[g1]?) (e2 : w'.heap[g2]? = w.heap[g2]?) : BaseAt w' B g1 g2 := ⟨h.lo1, h.lo2, h.ne, e1.trans h.h1, e2.trans h.h2⟩
end Go.Proofs.Ytogidfagkgccmaa

/-
  A config that came in, opened. Conditions are each theorem's own.
-/
namespace Go.Proofs.Ytogidfagkgccmaa
open Go.RowKit Go.ChangeShapes Go.WideShapes
theorem cells_at20 {w : World} {b o k : Nat} {cs : List Value} (h : w.cells? 0 ⟨b, o, none⟩ k = some cs) : w.rangeAt b o cs := fun j v hj => by
  have hk := World.cells?_some h
  have hlt : j < k := by have := (List.getElem?_eq_some_iff.1 hj).1; omega
  have := (World.cells?_some h).2.2 j hlt
  rw [hj, add_off] at this
  exact this
section
variable {H : Type} {enc : TypeId × Value → H} {w : World} {base : Nat} {v : Value} {d : DataW H} {p : List MemPlace}
theorem cell_rows {X : Type} {T e : TypeId} {sz n : Nat} {cl : X → List Value} {Pp : X → Prop} {l : List Value} {x : DataW H × List MemPlace} (ht : Try.prog.underlying T = some (.slice e)) (hce : Try.prog.cellsOf e = sz) (hpos : 0 < sz) (d : X)
    (hcell : ∀ fuel cs y, DataW.trod enc Try.prog w 0 (fun _ => true) true fuel e cs = some y → ∃ z, cs = cl z ∧ Pp z) (hlen : ∀ y, Pp y → (cl y).length = sz)
    (hf : DataW.trod enc Try.prog w 0 (fun _ => true) true n T l = some x) :
    ∃ A c xs, l = [.slice A xs.length c] ∧ RdS cl sz w w.heap.size A xs ∧ (∀ y ∈ xs, Pp y) ∧ xs.length ≤ c ∧ c ≤ maxLen ∧ (A = none → c = 0) := by
  rcases Deep.open_slice ht hf with ⟨hcs, _⟩ | ⟨a, len, cap, m, n', D, Pl, hcs, _, hl, hm, hmm, _, hall⟩
  · exact ⟨none, 0, [], hcs, fun hn => absurd hn (by simp), fun x hx => (by cases hx), Nat.le_refl _, Nat.zero_le _, fun _ => rfl⟩
  · rw [hce] at hall
    have hmm' : m = cap := by simpa using hmm
    subst hmm'
    have key : ∀ i, ∃ y : X, i < len → w.cells? 0 (a.add (i * sz)) sz = some (cl y) ∧ Pp y := fun i => by
      by_cases hi : i < len
      · obtain ⟨cs', h1, h2⟩ := hall i (by omega)
        obtain ⟨y, rfl, h3⟩ := hcell _ _ _ h2
        exact ⟨y, fun _ => ⟨h1, h3⟩⟩
      · exact ⟨d, fun h => absurd h hi⟩
    obtain ⟨Xf, hX⟩ := Classical.skolem.1 key
    have el : ((List.range len).map Xf).length = len := by simp
    refine ⟨some a, m, (List.range len).map Xf, by rw [el]; exact hcs, fun hn => ?_, fun x hx => ?_, by rw [el]; exact hl, hm, fun h => by cases h⟩
    · rw [el] at hn
      obtain ⟨b, off, spot⟩ := a
      obtain ⟨h0, hp0⟩ := hX 0 hn
      have hne : 0 < (cl (Xf 0)).length := by rw [hlen _ hp0]; exact hpos
      have hc0 : World.cell? w ((Addr.mk b off spot).add (0 * sz) |>.add 0) = (cl (Xf 0))[0]? := (World.cells?_some h0).2.2 0 hpos
      have hspot : spot = none := by simpa [Addr.add] using World.cell?_spot (hc0.trans (List.getElem?_eq_getElem hne))
      subst hspot
      have hb : b < w.heap.size := by simpa [Addr.add] using World.cells?_block h0 hpos
      refine ⟨b, off, rfl, hb, fun j x hx => ?_⟩
      have hj : j < len := by
        have := (List.getElem?_eq_some_iff.1 hx).1
        rwa [el] at this
      have e : x = Xf j := by
        rw [List.getElem?_map, List.getElem?_range hj] at hx
        simpa using hx.symm
      obtain ⟨h1, h2⟩ := hX j hj
      rw [add_off] at h1
      rw [e]
      refine cells_at20 h1
    · obtain ⟨i, hi, rfl⟩ := List.mem_map.1 hx
      exact (hX i (List.mem_range.1 hi)).2
set_option maxRecDepth 100000 in
theorem cell_inner {x : DataW H × List MemPlace} {fuel : Nat} {l : List Value} (hf : DataW.trod enc Try.prog w 0 (fun _ => true) true fuel 189 l = some x) :
    ∃ z : List Int, l = clI z ∧ z.length = 4 ∧ ∀ m ∈ z, (Lit.int .i64 m).wf = true := by
  obtain ⟨xs, n, _, _, hl, hxs, hall⟩ := DataW.trod_struct Try.underlying189 hf
  have hci : Try.prog.cellsOf 3 = 1 := by kernel_rfl
  have hcn : Try.prog.cellsOf 189 = 4 := by kernel_rfl
  have hl' : l.length = 4 := by rw [← hcn]; exact hl
  have hall' : ∀ (i : Nat) (f : Field), _ → DataW.trod enc Try.prog w 0 (fun _ => true) true n f.type ((l.drop f.offset).take (Try.prog.cellsOf f.type)) = xs[i]? := hall
  match xs, hxs with
  | [y0, y1, y2, y3], _ =>
    have h0 : DataW.trod enc Try.prog w 0 (fun _ => true) true n 3 ((l.drop 0).take (Try.prog.cellsOf 3)) = some y0 := hall' 0 _ rfl
    rw [hci] at h0
    obtain ⟨a0, e0, f0⟩ := cell_int Try.underlying3 h0
    have k0 := piece_get e0
    have h1 : DataW.trod enc Try.prog w 0 (fun _ => true) true n 3 ((l.drop 1).take (Try.prog.cellsOf 3)) = some y1 := hall' 1 _ rfl
    rw [hci] at h1
    obtain ⟨a1, e1, f1⟩ := cell_int Try.underlying3 h1
    have k1 := piece_get e1
    have h2 : DataW.trod enc Try.prog w 0 (fun _ => true) true n 3 ((l.drop 2).take (Try.prog.cellsOf 3)) = some y2 := hall' 2 _ rfl
    rw [hci] at h2
    obtain ⟨a2, e2, f2⟩ := cell_int Try.underlying3 h2
    have k2 := piece_get e2
    have h3 : DataW.trod enc Try.prog w 0 (fun _ => true) true n 3 ((l.drop 3).take (Try.prog.cellsOf 3)) = some y3 := hall' 3 _ rfl
    rw [hci] at h3
    obtain ⟨a3, e3, f3⟩ := cell_int Try.underlying3 h3
    have k3 := piece_get e3
    refine ⟨[a0, a1, a2, a3], ?_, rfl, ?_⟩
    · match l, hl' with
      | [x0, x1, x2, x3], _ => simp at k0 k1 k2 k3; simp [clI, k0, k1, k2, k3]
    · intro m hm
      simp only [List.mem_cons, List.not_mem_nil, or_false] at hm
      rcases hm with rfl | rfl | rfl | rfl <;> assumption
set_option maxRecDepth 100000 in
theorem cell_outer {x : DataW H × List MemPlace} {fuel : Nat} {l : List Value} (hf : DataW.trod enc Try.prog w 0 (fun _ => true) true fuel 65 l = some x) :
    ∃ z : List Int, l = clI z ∧ z.length = 3 ∧ ∀ m ∈ z, (Lit.int .i64 m).wf = true := by
  obtain ⟨xs, n, _, _, hl, hxs, hall⟩ := DataW.trod_struct Try.underlying65 hf
  have hci : Try.prog.cellsOf 3 = 1 := by kernel_rfl
  have hcn : Try.prog.cellsOf 65 = 3 := by kernel_rfl
  have hl' : l.length = 3 := by rw [← hcn]; exact hl
  have hall' : ∀ (i : Nat) (f : Field), _ → DataW.trod enc Try.prog w 0 (fun _ => true) true n f.type ((l.drop f.offset).take (Try.prog.cellsOf f.type)) = xs[i]? := hall
  match xs, hxs with
  | [y0, y1, y2], _ =>
    have h0 : DataW.trod enc Try.prog w 0 (fun _ => true) true n 3 ((l.drop 0).take (Try.prog.cellsOf 3)) = some y0 := hall' 0 _ rfl
    rw [hci] at h0
    obtain ⟨a0, e0, f0⟩ := cell_int Try.underlying3 h0
    have k0 := piece_get e0
    have h1 : DataW.trod enc Try.prog w 0 (fun _ => true) true n 3 ((l.drop 1).take (Try.prog.cellsOf 3)) = some y1 := hall' 1 _ rfl
    rw [hci] at h1
    obtain ⟨a1, e1, f1⟩ := cell_int Try.underlying3 h1
    have k1 := piece_get e1
    have h2 : DataW.trod enc Try.prog w 0 (fun _ => true) true n 3 ((l.drop 2).take (Try.prog.cellsOf 3)) = some y2 := hall' 2 _ rfl
    rw [hci] at h2
    obtain ⟨a2, e2, f2⟩ := cell_int Try.underlying3 h2
    have k2 := piece_get e2
    refine ⟨[a0, a1, a2], ?_, rfl, ?_⟩
    · match l, hl' with
      | [x0, x1, x2], _ => simp at k0 k1 k2; simp [clI, k0, k1, k2]
    · intro m hm
      simp only [List.mem_cons, List.not_mem_nil, or_false] at hm
      rcases hm with rfl | rfl | rfl <;> assumption
set_option maxRecDepth 100000 in
theorem cell_sta {x : DataW H × List MemPlace} {fuel : Nat} {l : List Value} (hf : DataW.trod enc Try.prog w 0 (fun _ => true) true fuel 191 l = some x) : ∃ s : Sta, l = clS s ∧ staFit s := by
  obtain ⟨xs, n, _, _, hl, hxs, hall⟩ := DataW.trod_struct Try.underlying191 hf
  have hc4 : Try.prog.cellsOf 189 = 4 := by kernel_rfl
  have hc3 : Try.prog.cellsOf 65 = 3 := by kernel_rfl
  have hcn : Try.prog.cellsOf 191 = 7 := by kernel_rfl
  have hl' : l.length = 7 := by rw [← hcn]; exact hl
  have hall' : ∀ (i : Nat) (f : Field), _ → DataW.trod enc Try.prog w 0 (fun _ => true) true n f.type ((l.drop f.offset).take (Try.prog.cellsOf f.type)) = xs[i]? := hall
  match xs, hxs with
  | [y0, y1], _ =>
    have h0 : DataW.trod enc Try.prog w 0 (fun _ => true) true n 189 ((l.drop 0).take (Try.prog.cellsOf 189)) = some y0 := hall' 0 _ rfl
    have h1 : DataW.trod enc Try.prog w 0 (fun _ => true) true n 65 ((l.drop 4).take (Try.prog.cellsOf 65)) = some y1 := hall' 1 _ rfl
    rw [hc4] at h0
    rw [hc3] at h1
    obtain ⟨z0, e0, n0, f0⟩ := cell_inner h0
    obtain ⟨z1, e1, n1, f1⟩ := cell_outer h1
    match l, hl', z0, n0, z1, n1 with
    | [x0, x1, x2, x3, x4, x5, x6], _, [a0, a1, a2, a3], _, [b0, b1, b2], _ =>
      simp [clI] at e0 e1
      obtain ⟨rfl, rfl, rfl, rfl⟩ := e0
      obtain ⟨rfl, rfl, rfl⟩ := e1
      exact ⟨⟨a0, a1, a2, a3, b0, b1, b2⟩, rfl, f0, f1⟩
theorem rdi_of {A : Option Addr} {B : Nat} {zs : List Int} (h : RdS (fun m : Int => [Value.int .i64 m]) 1 w B A zs) : RdI w B A zs := fun hn => by
  obtain ⟨b, off, e, hb, hc⟩ := h hn
  refine ⟨b, off, e, hb, fun j hj => ?_⟩
  have := hc j zs[j] (List.getElem?_eq_getElem hj) 0 _ rfl
  rw [Nat.mul_one, Nat.add_zero] at this
  rw [this, List.getD_eq_getElem?_getD, List.getElem?_eq_getElem hj]; rfl
set_option maxRecDepth 100000 in
set_option maxHeartbeats 1000000 in
theorem get_cfg (hv : Value.okWide Try.prog w .any base 74 v) (h : DataW.Trod enc Try.prog w 0 (fun _ => true) true 74 v d p) :
    ∃ q : Cfg, v = .agg (cfa q) ∧ MemC w w.heap.size q ∧ q.aftr.length = 16 ∧ (q.sws.length ≤ 1000 → q.pool.length ≤ 1000 → q.stat.length ≤ 1000 → Fits q) := by
  obtain ⟨cs, rfl, hcs⟩ : ∃ cs, v = .agg cs ∧ cs.size = Try.prog.cellsOf 74 := by
    have := hv
    simp only [Value.okWide, Try.underlying74] at this
    obtain ⟨cs, h1, h2, _⟩ := this
    exact ⟨cs, h1, h2⟩
  obtain ⟨fuel, hf⟩ := h
  obtain ⟨xs, n, _, _, hl, hxs, hall⟩ := DataW.trod_struct Try.underlying74 hf
  have hci : Try.prog.cellsOf 3 = 1 := by kernel_rfl
  have hc6 : Try.prog.cellsOf 70 = 16 := by kernel_rfl
  have hcu : Try.prog.cellsOf 5 = 1 := by kernel_rfl
  have hs1 : Try.prog.cellsOf 71 = 1 := by kernel_rfl
  have hs2 : Try.prog.cellsOf 53 = 1 := by kernel_rfl
  have hs3 : Try.prog.cellsOf 72 = 1 := by kernel_rfl
  have hc7 : Try.prog.cellsOf 191 = 7 := by kernel_rfl
  have hcn : Try.prog.cellsOf 74 = 36 := by kernel_rfl
  obtain ⟨l⟩ := cs
  have hl' : l.length = 36 := by rw [← hcn]; exact hl
  have hall' : ∀ (i : Nat) (f : Field), _ → DataW.trod enc Try.prog w 0 (fun _ => true) true n f.type ((l.drop f.offset).take (Try.prog.cellsOf f.type)) = xs[i]? := hall
  match xs, hxs with
  | [y0, y1, y2, y3, y4, y5, y6, y7, y8, y9, y10, y11, y12, y13, y14, y15, y16, y17, y18, y19, y20], _ =>
    have h0 : DataW.trod enc Try.prog w 0 (fun _ => true) true n 70 ((l.drop 0).take (Try.prog.cellsOf 70)) = some y0 := hall' 0 _ rfl
    rw [hc6] at h0
    obtain ⟨a0, f0, e0⟩ := cells_six Try.underlying70 Try.underlying5 hcu hc6 h0
    have h1 : DataW.trod enc Try.prog w 0 (fun _ => true) true n 71 ((l.drop 16).take (Try.prog.cellsOf 71)) = some y1 := hall' 1 _ rfl
    rw [hs1] at h1
    obtain ⟨A1, c1, l1, e1, r1, p1, q1, m1, z1⟩ := cell_rows (cl := row) (Pp := fun a => a.length = 16) Try.underlying71 hc6 (by decide) [] (fun fuel cs y hy => by
      obtain ⟨a, ha, hb⟩ := cells_six Try.underlying70 Try.underlying5 hcu hc6 hy
      exact ⟨a, hb, ha⟩) (fun y hy => by rw [row_length]; exact hy) h1
    have h2 : DataW.trod enc Try.prog w 0 (fun _ => true) true n 53 ((l.drop 17).take (Try.prog.cellsOf 53)) = some y2 := hall' 2 _ rfl
    rw [hs2] at h2
    obtain ⟨A2, c2, l2, e2, r2, p2, q2, m2, z2⟩ := cell_rows (cl := fun m : Int => [Value.int .i64 m]) (Pp := fun m => (Lit.int .i64 m).wf = true) Try.underlying53 hci (by decide) 0 (fun fuel cs y hy => cell_int Try.underlying3 hy) (fun y hy => rfl) h2
    have h20 : DataW.trod enc Try.prog w 0 (fun _ => true) true n 72 ((l.drop 35).take (Try.prog.cellsOf 72)) = some y20 := hall' 20 _ rfl
    rw [hs3] at h20
    obtain ⟨A3, c3, l3, e20, r3, p3, q3, m3, z3⟩ := cell_rows (cl := clS) (Pp := staFit) Try.underlying72 hc7 (by decide) ⟨0, 0, 0, 0, 0, 0, 0⟩ (fun fuel cs y hy => cell_sta hy) (fun y hy => rfl) h20
    have h3 : DataW.trod enc Try.prog w 0 (fun _ => true) true n 3 ((l.drop 18).take (Try.prog.cellsOf 3)) = some y3 := hall' 3 _ rfl
    rw [hci] at h3
    obtain ⟨a3, e3, f3⟩ := cell_int Try.underlying3 h3
    have h4 : DataW.trod enc Try.prog w 0 (fun _ => true) true n 3 ((l.drop 19).take (Try.prog.cellsOf 3)) = some y4 := hall' 4 _ rfl
    rw [hci] at h4
    obtain ⟨a4, e4, f4⟩ := cell_int Try.underlying3 h4
    have h5 : DataW.trod enc Try.prog w 0 (fun _ => true) true n 3 ((l.drop 20).take (Try.prog.cellsOf 3)) = some y5 := hall' 5 _ rfl
    rw [hci] at h5
    obtain ⟨a5, e5, f5⟩ := cell_int Try.underlying3 h5
    have h6 : DataW.trod enc Try.prog w 0 (fun _ => true) true n 3 ((l.drop 21).take (Try.prog.cellsOf 3)) = some y6 := hall' 6 _ rfl
    rw [hci] at h6
    obtain ⟨a6, e6, f6⟩ := cell_int Try.underlying3 h6
    have h7 : DataW.trod enc Try.prog w 0 (fun _ => true) true n 3 ((l.drop 22).take (Try.prog.cellsOf 3)) = some y7 := hall' 7 _ rfl
    rw [hci] at h7
    obtain ⟨a7, e7, f7⟩ := cell_int Try.underlying3 h7
    have h8 : DataW.trod enc Try.prog w 0 (fun _ => true) true n 3 ((l.drop 23).take (Try.prog.cellsOf 3)) = some y8 := hall' 8 _ rfl
    rw [hci] at h8
    obtain ⟨a8, e8, f8⟩ := cell_int Try.underlying3 h8
    have h9 : DataW.trod enc Try.prog w 0 (fun _ => true) true n 3 ((l.drop 24).take (Try.prog.cellsOf 3)) = some y9 := hall' 9 _ rfl
    rw [hci] at h9
    obtain ⟨a9, e9, f9⟩ := cell_int Try.underlying3 h9
    have h10 : DataW.trod enc Try.prog w 0 (fun _ => true) true n 3 ((l.drop 25).take (Try.prog.cellsOf 3)) = some y10 := hall' 10 _ rfl
    rw [hci] at h10
    obtain ⟨a10, e10, f10⟩ := cell_int Try.underlying3 h10
    have h11 : DataW.trod enc Try.prog w 0 (fun _ => true) true n 3 ((l.drop 26).take (Try.prog.cellsOf 3)) = some y11 := hall' 11 _ rfl
    rw [hci] at h11
    obtain ⟨a11, e11, f11⟩ := cell_int Try.underlying3 h11
    have h12 : DataW.trod enc Try.prog w 0 (fun _ => true) true n 3 ((l.drop 27).take (Try.prog.cellsOf 3)) = some y12 := hall' 12 _ rfl
    rw [hci] at h12
    obtain ⟨a12, e12, f12⟩ := cell_int Try.underlying3 h12
    have h13 : DataW.trod enc Try.prog w 0 (fun _ => true) true n 3 ((l.drop 28).take (Try.prog.cellsOf 3)) = some y13 := hall' 13 _ rfl
    rw [hci] at h13
    obtain ⟨a13, e13, f13⟩ := cell_int Try.underlying3 h13
    have h14 : DataW.trod enc Try.prog w 0 (fun _ => true) true n 3 ((l.drop 29).take (Try.prog.cellsOf 3)) = some y14 := hall' 14 _ rfl
    rw [hci] at h14
    obtain ⟨a14, e14, f14⟩ := cell_int Try.underlying3 h14
    have h15 : DataW.trod enc Try.prog w 0 (fun _ => true) true n 3 ((l.drop 30).take (Try.prog.cellsOf 3)) = some y15 := hall' 15 _ rfl
    rw [hci] at h15
    obtain ⟨a15, e15, f15⟩ := cell_int Try.underlying3 h15
    have h16 : DataW.trod enc Try.prog w 0 (fun _ => true) true n 3 ((l.drop 31).take (Try.prog.cellsOf 3)) = some y16 := hall' 16 _ rfl
    rw [hci] at h16
    obtain ⟨a16, e16, f16⟩ := cell_int Try.underlying3 h16
    have h17 : DataW.trod enc Try.prog w 0 (fun _ => true) true n 3 ((l.drop 32).take (Try.prog.cellsOf 3)) = some y17 := hall' 17 _ rfl
    rw [hci] at h17
    obtain ⟨a17, e17, f17⟩ := cell_int Try.underlying3 h17
    have h18 : DataW.trod enc Try.prog w 0 (fun _ => true) true n 3 ((l.drop 33).take (Try.prog.cellsOf 3)) = some y18 := hall' 18 _ rfl
    rw [hci] at h18
    obtain ⟨a18, e18, f18⟩ := cell_int Try.underlying3 h18
    have h19 : DataW.trod enc Try.prog w 0 (fun _ => true) true n 3 ((l.drop 34).take (Try.prog.cellsOf 3)) = some y19 := hall' 19 _ rfl
    rw [hci] at h19
    obtain ⟨a19, e19, f19⟩ := cell_int Try.underlying3 h19
    clear h0 h1 h2 h3 h4 h5 h6 h7 h8 h9 h10 h11 h12 h13 h14 h15 h16 h17 h18 h19 h20 hall' hall hf hcs
    have el : l = cfl ⟨a0, A1, c1, l1, A2, c2, l2, a3, a4, a5, a6, a7, a8, a9, a10, a11, a12, a13, a14, a15, a16, a17, a18, a19, A3, c3, l3⟩ := by
      have eT : l = l.take 16 ++ l.drop 16 := (List.take_append_drop 16 l).symm
      rw [List.drop_zero] at e0
      rw [eT, e0, cfl]
      congr 1
      have hd : (l.drop 16).length = 20 := by simp [hl']
      have g : ∀ j v, (l.drop (16 + j)).take 1 = [v] → (l.drop 16)[j]? = some v := fun j v hj => by
        have := piece_get hj
        rw [List.getElem?_drop]; exact this
      have g0 := g 0 _ e1
      have g1 := g 1 _ e2
      have g2 := g 2 _ e3
      have g3 := g 3 _ e4
      have g4 := g 4 _ e5
      have g5 := g 5 _ e6
      have g6 := g 6 _ e7
      have g7 := g 7 _ e8
      have g8 := g 8 _ e9
      have g9 := g 9 _ e10
      have g10 := g 10 _ e11
      have g11 := g 11 _ e12
      have g12 := g 12 _ e13
      have g13 := g 13 _ e14
      have g14 := g 14 _ e15
      have g15 := g 15 _ e16
      have g16 := g 16 _ e17
      have g17 := g 17 _ e18
      have g18 := g 18 _ e19
      have g19 := g 19 _ e20
      clear e1 e2 e3 e4 e5 e6 e7 e8 e9 e10 e11 e12 e13 e14 e15 e16 e17 e18 e19 e20 g eT
      generalize l.drop 16 = L at *
      match L, hd with
      | [x0, x1, x2, x3, x4, x5, x6, x7, x8, x9, x10, x11, x12, x13, x14, x15, x16, x17, x18, x19], _ =>
        simp only [List.getElem?_cons_zero, List.getElem?_cons_succ, Option.some.injEq] at g0 g1 g2 g3 g4 g5 g6 g7 g8 g9 g10 g11 g12 g13 g14 g15 g16 g17 g18 g19
        simp only [cft, g0, g1, g2, g3, g4, g5, g6, g7, g8, g9, g10, g11, g12, g13, g14, g15, g16, g17, g18, g19]
    refine ⟨⟨a0, A1, c1, l1, A2, c2, l2, a3, a4, a5, a6, a7, a8, a9, a10, a11, a12, a13, a14, a15, a16, a17, a18, a19, A3, c3, l3⟩, by rw [el]; rfl, ⟨r1, rdi_of r2, r3⟩, f0, fun n1 n2 n3 => ⟨f0, p1, n1, n2, n3, p2, p3, ?_, q1, q2, q3, m1, m2, m3, z1⟩⟩
    intro m hm
    simp only [Cfg.ints, List.mem_cons, List.not_mem_nil, or_false] at hm
    rcases hm with rfl | rfl | rfl | rfl | rfl | rfl | rfl | rfl | rfl | rfl | rfl | rfl | rfl | rfl | rfl | rfl | rfl <;> assumption
end
end Go.Proofs.Ytogidfagkgccmaa
