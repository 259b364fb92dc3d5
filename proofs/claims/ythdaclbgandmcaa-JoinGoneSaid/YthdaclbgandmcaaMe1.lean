/-
  Contracts and lemmas on which the proofs of this seat stand (several texts in one). Conditions are each theorem's own.
-/
import Derived.Test.YthdaclbgandmcaaMd1
import Derived.Test.YthdaclbgandmcaaMb1
import Derived.Deep.Slices
import Derived.Test.YthdaclbgandmcaaMa1
import Derived.Shelf.SlIter.Nil
import Derived.Shelf.SortM.Plain
import Derived.Shelf.SortM.SortNone
import Derived.Ground.GgzProg
import Derived.Ground.SlgmProg

/-
  Add of layer 16's code, where the part is refused. Conditions are each theorem's own.
-/
namespace Go.Proofs.Ythdaclbgandmcaa
open Go.RowKit Go.Shelf Go.Maps
/-- What Add leaves where the part was refused for what it is: the key's buffer is gone. -/
def ErrLeaves (w w' : World) (t bm : Nat) (tot mb my wt : Int) (M : List (List UInt8 × Nat)) (S : List Bu) (key : List UInt8) (now : Int) (B0 : Nat) : Prop :=
  ∃ (s : Bu) (R : List Bu), Tx w' t bm (tot - bytesP (partsOf S key)) mb my wt (withoutM key M) R ∧ s.key = key ∧ (S.Perm (s :: R) ∨ (S = R ∧ Fresh s key now ∧ ∀ x ∈ S, x.key ≠ key)) ∧ Tz B0 t bm R ∧ Below B0 w w'
def fail16 (n : Int) : Ending := .returned (.tuple #[.string ByteArray.empty, .slice none 0 0, .bool false, .int .i64 n])
section
variable {w : World} {t bm : Nat} {tot mb my wt : Int} {M : List (List UInt8 × Nat)} {S : List Bu}
set_option maxRecDepth 100000 in
theorem jadd_full (hT : Tx w t bm tot mb my wt M S) (key head : List UInt8) (off now : Int) (more : Bool) (v : Value) (hk : key.length ≤ maxLen) (hm : ∀ p ∈ M, p.1 ≠ key) (hge : (M.length : Int) ≥ mb) :
    Calls Try.prog 18 #[.pointer (some ⟨t, 0, none⟩), sq key, .int .i64 off, .bool more, v, sq head, .int .i64 now] w fun e w' => e = fail16 7 ∧ Tx w' t bm tot mb my wt M S ∧ Below w.heap.size w w' := by
  have k0 := hT.c0
  have HT := Lib.hid hT
  have HM := Lib.hid hm
  have HG := Lib.hid hge
  clear hT hm hge
  unfold sq
  go_enter Try.func18, Try.ntmps18
  go_wp2_with (first
    | (go_at_call 45; refine (jmade t bm _ k0).mono ?_; rintro e w1 ⟨rfl, rfl⟩)
    | (go_at_call 49; go_loud (refine (jfind_full HT.out key now hk HM.out HG.out).mono ?_; rintro e w1 ⟨rfl, b1⟩)))
  exact bodyPost_ret (results_tmp4 rfl _ _ _) rfl ⟨rfl, HT.out.below b1, b1⟩
set_option maxRecDepth 100000 in
set_option maxHeartbeats 2000000 in
theorem jadd_room (hT0 : Tx w t bm tot mb my wt M S) (hMS : M.Perm (S.map Bu.kg)) (key head : List UInt8) (off now : Int) (more : Bool) (A' : Option Addr) (c' : Nat) (b : List UInt8) (hA' : Arg w w.heap.size A' c' b) (hk : key.length ≤ maxLen) (hbl : b.length ≤ 1000000)
    (htot : 0 ≤ tot ∧ tot ≤ 100000000000) (hf : Takes M S mb key)
    (hroom : tot + roomC (partsOf S key) off b > my) :
    Calls Try.prog 18 #[.pointer (some ⟨t, 0, none⟩), sq key, .int .i64 off, .bool more, .slice A' b.length c', sq head, .int .i64 now] w fun e w' => e = fail16 7 ∧ Tx w' t bm tot mb my wt M S ∧ Below w.heap.size w w' := by
  have k0 := hT0.c0
  obtain ⟨RM, hRM⟩ : ∃ RM, RM = roomC (partsOf S key) off b := ⟨_, rfl⟩
  have hrm0 : 0 ≤ RM ∧ RM ≤ 1000000 := by rw [hRM]; unfold roomC; split <;> omega
  rw [← hRM] at hroom
  have HW1 : Hid (IntKind.i64.wrap (tot + RM) = tot + RM) := Lib.hid (IntWalk.i64_in _ (by omega))
  have HROOM : Hid (¬ tot + RM ≤ my) := Lib.hid (by omega)
  have HRM := Lib.hid hRM
  have hT := Lib.hid hT0
  have HMS := Lib.hid hMS
  have HF := Lib.hid hf
  have HARG := Lib.hid hA'
  clear hT0 hMS hf hA' hroom hRM
  unfold sq at *
  go_enter Try.func18, Try.ntmps18
  go_upto_region 7 with (first
    | (go_at_call 45; refine (jmade t bm _ k0).mono ?_; rintro e w1 ⟨rfl, rfl⟩)
    | (go_at_call 50; go_loud (refine (jroom s.h s.A s.c s.L off A' b c' _ (HT1.out.bx s (List.mem_cons_self ..)).hx ((HARG.out.below b1).more b1.size)).mono ?_; rintro e w2 ⟨rfl, b2⟩; rw [← HRV.out]))
    | (go_at_call 49; go_loud (refine (jfind_ok hT.out HMS.out key now hk HF.out).mono ?_; rintro e w1 ⟨s, R, rfl, hT1, hsk, b1, hcs⟩; have HT1 := Lib.hid hT1; have HSK := Lib.hid hsk; have HCS := Lib.hid hcs; have kg1 : w1.cell? ⟨s.g, 0, none⟩ = some (.pointer (some ⟨s.h, 0, none⟩)) := cells_at (i := 0) (HT1.out.bx s (List.mem_cons_self ..)).obj rfl; clear hT1 hsk hcs; have HPO := Lib.hid (partsOf_find HCS.out HSK.out HT1.out.nd); have HRV := Lib.hid (HRM.out.trans (congrArg (fun z => roomC z off b) HPO.out)))))
  have HT2 := Lib.hid (HT1.out.below b2)
  have ht := HT2.out.obj
  have htz := heap_lt ht
  refine wp_region_held_drew (S := fun w' => Below w2.heap.size w2 w') (by kernel_rfl) (Below.refl _ w2).drew (fun hS => ?_)
  refine held_pure (i := 0) (oi := ⟨some 44, _, _, _, _, _⟩) rfl (by kernel_rfl) (by kernel_rfl) (by kernel_rfl) (fun _ _ _ h => h) (by rfl) (v := ?_) (fun w hSw => ?_) hS (fun hS => ?_)
  rotate_left
  · go_simp; try with_reducible rfl
  try go_frame
  refine held_pure (i := 1) (oi := ⟨some 45, _, _, _, _, _⟩) rfl (by kernel_rfl) (by kernel_rfl) (by kernel_rfl) (fun _ _ _ h => h) (by rfl) (v := ?_) (fun w hSw => ?_) hS (fun hS => ?_)
  rotate_left
  · go_simp; try with_reducible rfl
  try go_frame
  refine held_pure (i := 2) (oi := ⟨some 46, _, _, _, _, _⟩) rfl (by kernel_rfl) (by kernel_rfl) (by kernel_rfl) (fun _ _ _ h => h) (by rfl) (v := ?_) (fun w hSw => ?_) hS (fun hS => ?_)
  rotate_left
  · go_simp; try with_reducible rfl
  try go_frame
  refine held_pure (i := 3) (oi := ⟨some 47, _, _, _, _, _⟩) rfl (by kernel_rfl) (by kernel_rfl) (by kernel_rfl) (fun _ _ _ h => h) (by rfl) (fun w hSw => run_load_int rfl rfl (cells_at (i := 1) ((hSw.block t htz).trans ht) rfl)) hS (fun hS => ?_)
  try go_frame
  refine held_pure (i := 4) (oi := ⟨some 48, _, _, _, _, _⟩) rfl (by kernel_rfl) (by kernel_rfl) (by kernel_rfl) (fun _ _ _ h => h) (by rfl) (v := ?_) (fun w hSw => ?_) hS (fun hS => ?_)
  rotate_left
  · go_simp; try with_reducible rfl
  try go_frame
  refine held_pure (i := 5) (oi := ⟨some 49, _, _, _, _, _⟩) rfl (by kernel_rfl) (by kernel_rfl) (by kernel_rfl) (fun _ _ _ h => h) (by rfl) (v := .int .i64 (tot + RM)) (fun w hSw => by go_simp; try exact HW1.out) hS (fun hS => ?_)
  try go_frame
  refine held_pure (i := 6) (oi := ⟨some 50, _, _, _, _, _⟩) rfl (by kernel_rfl) (by kernel_rfl) (by kernel_rfl) (fun _ _ _ h => h) (by rfl) (v := ?_) (fun w hSw => ?_) hS (fun hS => ?_)
  rotate_left
  · go_simp; try with_reducible rfl
  try go_frame
  refine held_pure (i := 7) (oi := ⟨some 51, _, _, _, _, _⟩) rfl (by kernel_rfl) (by kernel_rfl) (by kernel_rfl) (fun _ _ _ h => h) (by rfl) (v := ?_) (fun w hSw => ?_) hS (fun hS => ?_)
  rotate_left
  · go_simp; try with_reducible rfl
  try go_frame
  refine held_pure (i := 8) (oi := ⟨some 52, _, _, _, _, _⟩) rfl (by kernel_rfl) (by kernel_rfl) (by kernel_rfl) (fun _ _ _ h => h) (by rfl) (v := ?_) (fun w hSw => ?_) hS (fun hS => ?_)
  rotate_left
  · go_simp; try with_reducible rfl
  try go_frame
  refine held_pure (i := 9) (oi := ⟨some 53, _, _, _, _, _⟩) rfl (by kernel_rfl) (by kernel_rfl) (by kernel_rfl) (fun _ _ _ h => h) (by rfl) (fun w hSw => run_load_int rfl rfl (cells_at (i := 3) ((hSw.block t htz).trans ht) rfl)) hS (fun hS => ?_)
  try go_frame
  refine held_pure (i := 10) (oi := ⟨some 54, _, _, _, _, _⟩) rfl (by kernel_rfl) (by kernel_rfl) (by kernel_rfl) (fun _ _ _ h => h) (by rfl) (v := .bool true) (fun w hSw => by go_simp; try (exact HROOM.out)) hS (fun hS => ?_)
  try go_frame
  refine wpAnyH_done (by kernel_rfl) ?_ _
  have b3 := hS
  generalize w2.drew = w3 at *
  have HT3 := Lib.hid (HT2.out.below b3)
  have b13 : Below w.heap.size w w3 := (b1.trans (b2.mono b1.size)).trans (b3.mono (Nat.le_trans b1.size b2.size))
  go_wp2_with fail
  refine bodyPost_ret (results_tmp4 rfl _ _ _) rfl ⟨rfl, ?_, b13⟩
  rcases HCS.out with ⟨h, _⟩ | ⟨h1, _⟩
  · exact HT3.out.perm (List.Perm.refl _) h.symm
  · rw [h1]; exact HT3.out.sub (List.sublist_cons_self _ _)
set_option maxRecDepth 100000 in
set_option maxHeartbeats 2000000 in
theorem jadd_err (hT0 : Tx w t bm tot mb my wt M S) (hMS : M.Perm (S.map Bu.kg)) (key head : List UInt8) (off now : Int) (more : Bool) (A' : Option Addr) (c' : Nat) (b : List UInt8) (hA' : Arg w w.heap.size A' c' b) (hk : key.length ≤ maxLen) (hbl : b.length ≤ 1000000)
    (hoff : -9223372036854775808 ≤ off ∧ off ≤ 9223372036854775807) (hL : ∀ s ∈ S, s.L.length + 1 ≤ 100000) (htot : 0 ≤ tot ∧ tot ≤ 100000000000) (hf : Takes M S mb key) (B0 : Nat) (hB0 : B0 ≤ w.heap.size) (hZ : Tz B0 t bm S)
    (hroom : ¬ tot + roomC (partsOf S key) off b > my) (E : Int) (hadd : E = addC (partsOf S key) ⟨off, more, b⟩) (hE : E ≠ 0) (hbp : 0 ≤ bytesP (partsOf S key) ∧ bytesP (partsOf S key) ≤ 1000000000000) :
    Calls Try.prog 18 #[.pointer (some ⟨t, 0, none⟩), sq key, .int .i64 off, .bool more, .slice A' b.length c', sq head, .int .i64 now] w fun e w' => e = fail16 E ∧ ErrLeaves w w' t bm tot mb my wt M S key now B0 := by
  have HADD := Lib.hid hadd
  have HBP := Lib.hid hbp
  have HZ := Lib.hid hZ
  clear hadd hbp hZ
  have k0 := hT0.c0
  obtain ⟨RM, hRM⟩ : ∃ RM, RM = roomC (partsOf S key) off b := ⟨_, rfl⟩
  have hrm0 : 0 ≤ RM ∧ RM ≤ 1000000 := by rw [hRM]; unfold roomC; split <;> omega
  rw [← hRM] at hroom
  have HW1 : Hid (IntKind.i64.wrap (tot + RM) = tot + RM) := Lib.hid (IntWalk.i64_in _ (by omega))
  have HROOM : Hid (tot + RM ≤ my) := Lib.hid (by omega)
  have HRM := Lib.hid hRM
  have hT := Lib.hid hT0
  have HMS := Lib.hid hMS
  have HF := Lib.hid hf
  have HARG := Lib.hid hA'
  have HL := Lib.hid hL
  clear hT0 hMS hf hA' hL hroom hRM
  unfold sq at *
  go_enter Try.func18, Try.ntmps18
  go_upto_region 7 with (first
    | (go_at_call 45; refine (jmade t bm _ k0).mono ?_; rintro e w1 ⟨rfl, rfl⟩)
    | (go_at_call 50; go_loud (refine (jroom s.h s.A s.c s.L off A' b c' _ (HT1.out.bx s (List.mem_cons_self ..)).hx ((HARG.out.below b1).more b1.size)).mono ?_; rintro e w2 ⟨rfl, b2⟩; rw [← HRV.out]))
    | (go_at_call 49; go_loud (refine (jfind_ok hT.out HMS.out key now hk HF.out).mono ?_; rintro e w1 ⟨s, R, rfl, hT1, hsk, b1, hcs⟩; have HT1 := Lib.hid hT1; have HSK := Lib.hid hsk; have HCS := Lib.hid hcs; have kg1 : w1.cell? ⟨s.g, 0, none⟩ = some (.pointer (some ⟨s.h, 0, none⟩)) := cells_at (i := 0) (HT1.out.bx s (List.mem_cons_self ..)).obj rfl; clear hT1 hsk hcs; have HPO := Lib.hid (partsOf_find HCS.out HSK.out HT1.out.nd); have HRV := Lib.hid (HRM.out.trans (congrArg (fun z => roomC z off b) HPO.out)))))
  have HT2 := Lib.hid (HT1.out.below b2)
  have ht := HT2.out.obj
  have htz := heap_lt ht
  refine wp_region_held_drew (S := fun w' => Below w2.heap.size w2 w') (by kernel_rfl) (Below.refl _ w2).drew (fun hS => ?_)
  refine held_pure (i := 0) (oi := ⟨some 44, _, _, _, _, _⟩) rfl (by kernel_rfl) (by kernel_rfl) (by kernel_rfl) (fun _ _ _ h => h) (by rfl) (v := ?_) (fun w hSw => ?_) hS (fun hS => ?_)
  rotate_left
  · go_simp; try with_reducible rfl
  try go_frame
  refine held_pure (i := 1) (oi := ⟨some 45, _, _, _, _, _⟩) rfl (by kernel_rfl) (by kernel_rfl) (by kernel_rfl) (fun _ _ _ h => h) (by rfl) (v := ?_) (fun w hSw => ?_) hS (fun hS => ?_)
  rotate_left
  · go_simp; try with_reducible rfl
  try go_frame
  refine held_pure (i := 2) (oi := ⟨some 46, _, _, _, _, _⟩) rfl (by kernel_rfl) (by kernel_rfl) (by kernel_rfl) (fun _ _ _ h => h) (by rfl) (v := ?_) (fun w hSw => ?_) hS (fun hS => ?_)
  rotate_left
  · go_simp; try with_reducible rfl
  try go_frame
  refine held_pure (i := 3) (oi := ⟨some 47, _, _, _, _, _⟩) rfl (by kernel_rfl) (by kernel_rfl) (by kernel_rfl) (fun _ _ _ h => h) (by rfl) (fun w hSw => run_load_int rfl rfl (cells_at (i := 1) ((hSw.block t htz).trans ht) rfl)) hS (fun hS => ?_)
  try go_frame
  refine held_pure (i := 4) (oi := ⟨some 48, _, _, _, _, _⟩) rfl (by kernel_rfl) (by kernel_rfl) (by kernel_rfl) (fun _ _ _ h => h) (by rfl) (v := ?_) (fun w hSw => ?_) hS (fun hS => ?_)
  rotate_left
  · go_simp; try with_reducible rfl
  try go_frame
  refine held_pure (i := 5) (oi := ⟨some 49, _, _, _, _, _⟩) rfl (by kernel_rfl) (by kernel_rfl) (by kernel_rfl) (fun _ _ _ h => h) (by rfl) (v := .int .i64 (tot + RM)) (fun w hSw => by go_simp; try exact HW1.out) hS (fun hS => ?_)
  try go_frame
  refine held_pure (i := 6) (oi := ⟨some 50, _, _, _, _, _⟩) rfl (by kernel_rfl) (by kernel_rfl) (by kernel_rfl) (fun _ _ _ h => h) (by rfl) (v := ?_) (fun w hSw => ?_) hS (fun hS => ?_)
  rotate_left
  · go_simp; try with_reducible rfl
  try go_frame
  refine held_pure (i := 7) (oi := ⟨some 51, _, _, _, _, _⟩) rfl (by kernel_rfl) (by kernel_rfl) (by kernel_rfl) (fun _ _ _ h => h) (by rfl) (v := ?_) (fun w hSw => ?_) hS (fun hS => ?_)
  rotate_left
  · go_simp; try with_reducible rfl
  try go_frame
  refine held_pure (i := 8) (oi := ⟨some 52, _, _, _, _, _⟩) rfl (by kernel_rfl) (by kernel_rfl) (by kernel_rfl) (fun _ _ _ h => h) (by rfl) (v := ?_) (fun w hSw => ?_) hS (fun hS => ?_)
  rotate_left
  · go_simp; try with_reducible rfl
  try go_frame
  refine held_pure (i := 9) (oi := ⟨some 53, _, _, _, _, _⟩) rfl (by kernel_rfl) (by kernel_rfl) (by kernel_rfl) (fun _ _ _ h => h) (by rfl) (fun w hSw => run_load_int rfl rfl (cells_at (i := 3) ((hSw.block t htz).trans ht) rfl)) hS (fun hS => ?_)
  try go_frame
  refine held_pure (i := 10) (oi := ⟨some 54, _, _, _, _, _⟩) rfl (by kernel_rfl) (by kernel_rfl) (by kernel_rfl) (fun _ _ _ h => h) (by rfl) (v := .bool false) (fun w hSw => by go_simp; try (exact HROOM.out)) hS (fun hS => ?_)
  try go_frame
  refine wpAnyH_done (by kernel_rfl) ?_ _
  have b3 := hS
  generalize w2.drew = w3 at *
  have HT3 := Lib.hid (HT2.out.below b3)
  have hb3 := HT3.out.bx s (List.mem_cons_self ..)
  have kg3 : w3.cell? ⟨s.g, 0, none⟩ = some (.pointer (some ⟨s.h, 0, none⟩)) := cells_at (i := 0) hb3.obj rfl
  have HX3 := Lib.hid hb3.hx
  have b13 : Below w.heap.size w w3 := (b1.trans (b2.mono b1.size)).trans (b3.mono (Nat.le_trans b1.size b2.size))
  have HAR3 := Lib.hid ((HARG.out.below b13).more b13.size)
  have HE3 : Hid (E = addC (piE s.L) ⟨off, more, b⟩) := Lib.hid (by rw [← HPO.out]; exact HADD.out)
  have HLE : Hid (addCL (piE s.L) ⟨off, more, b⟩ = piE s.L) := Lib.hid (by unfold addCL; rw [if_neg (by rw [← HE3.out]; exact hE)])
  have hsl : s.L.length + 1 ≤ 100000 := by
    rcases HCS.out with ⟨hp, _⟩ | ⟨_, hfr, _⟩
    · exact HL.out s (hp.mem_iff.2 (List.mem_cons_self ..))
    · rw [hfr.2.2.2.1]; decide
  clear hS hb3 kg1 ht htz
  have HZ3 := Lib.hid (find_z HCS.out hB0 HZ.out)
  have HS3 : Hid (∀ i, (i = s.h ∨ s.v.ownBlock = some i) → B0 ≤ i) := Lib.hid (fun i hi => by
    obtain ⟨_, h2, h3⟩ := HZ3.out.2.2 s (List.mem_cons_self ..)
    rcases hi with rfl | hi
    · exact h2
    · exact h3 i hi)
  have dE : decide (E = 0) = false := decide_eq_false hE
  go_wp2_with (first
    | (go_at_call 51; go_loud (refine (hcadd s.h s.A s.c s.L off more A' b c' _ HX3.out HAR3.out hbl hoff hsl).mono ?_; rintro e w4 ⟨rfl, A2, c2, L2, hx4, hp4, k4, ob4, ln4⟩; rw [← HE3.out]; have HT4 := Lib.hid (HT3.out.add hx4 k4 ob4); have HB4 := Lib.hid (k4.below (Nat.le_trans hB0 b13.size) HS3.out); have HP4 := Lib.hid (hp4.trans HLE.out); clear hx4 hp4 k4 ob4))
    | (go_at_call 46; go_loud (refine (jdropK HT4.out (s.with_ A2 c2 L2) (HT4.out.bx _ (List.mem_cons_self ..)) key s.g HSK.out rfl (bytesP (piE L2)) rfl hk (by omega) (by rw [HP4.out, ← HPO.out]; exact HBP.out)).mono ?_; rintro e w9 ⟨rfl, hT9, hK9⟩; have HT9 := Lib.hid hT9; have HK9 := Lib.hid hK9; clear hT9 hK9)))
  have z3 := Nat.le_trans hB0 b13.size
  have z4 := Nat.le_trans z3 HB4.out.size
  have B9 := HK9.out.below (B := B0) z4 (fun k hk => by rcases hk with rfl | rfl; exact HZ.out.1; exact HZ.out.2.1)
  refine bodyPost_ret (results_tmp4 rfl _ _ _) rfl ⟨rfl, s, R, ?_, HSK.out, ?_, ⟨HZ.out.1, HZ.out.2.1, fun x hx => HZ3.out.2.2 x (List.mem_cons_of_mem _ hx)⟩, ((b13.mono hB0).trans HB4.out).trans B9⟩
  · have h9 := HT9.out.sub (List.sublist_cons_self _ _)
    rw [HPO.out, ← HP4.out]
    exact h9
  · rcases HCS.out with ⟨h, _⟩ | ⟨h1, h2, _, _, h5⟩
    · exact .inl h
    · exact .inr ⟨h1, h2, h5⟩
end
end Go.Proofs.Ythdaclbgandmcaa

/-
  A slice of calls of a table that came in, opened. Conditions are each theorem's own.
-/
namespace Go.Proofs.Ythdaclbgandmcaa
open Go.RowKit Go.ChangeShapes Go.WideShapes
/-- A call of a table, and where its bytes lie. -/
structure Dx where
  gone : Bool
  key : List UInt8
  off : Int
  more : Bool
  A : Option Addr
  c : Nat
  b : List UInt8
  head : List UInt8
  now : Int
def clD (y : Dx) : List Value := [.bool y.gone, sq y.key, .int .i64 y.off, .bool y.more, .slice y.A y.b.length y.c, sq y.head, .int .i64 y.now]
section
variable {H : Type} {enc : TypeId × Value → H} {w : World} {base : Nat} {v : Value} {d : DataW H} {p : List MemPlace}
theorem cell_strv {P : Program} {t : TypeId} {x : DataW H × List MemPlace} {n : Nat} {l : List Value} (ht : P.underlying t = some .string) (h : DataW.trod enc P w 0 (fun _ => true) true n t l = some x) : ∃ s : List UInt8, l = [sq s] ∧ s.length ≤ maxLen := by
  obtain ⟨s, hs, _, hw⟩ := DataW.trod_string ht h
  refine ⟨s.data.toList, ?_, by rw [Array.length_toList]; exact hw⟩
  rw [hs]
  rfl
set_option maxRecDepth 100000 in
theorem cell_do {x : DataW H × List MemPlace} {fuel : Nat} {l : List Value} (hf : DataW.trod enc Try.prog w 0 (fun _ => true) true fuel 34 l = some x) :
    ∃ y : Dx, l = clD y ∧ Arg w w.heap.size y.A y.c y.b ∧ y.c ≤ maxLen ∧ (Lit.int .i64 y.off).wf = true ∧ (Lit.int .i64 y.now).wf = true ∧ y.key.length ≤ maxLen ∧ y.head.length ≤ maxLen := by
  obtain ⟨xs, n, _, _, hl, hxs, hall⟩ := DataW.trod_struct Try.underlying34 hf
  have hci : Try.prog.cellsOf 3 = 1 := by kernel_rfl
  have hcb : Try.prog.cellsOf 4 = 1 := by kernel_rfl
  have hcy : Try.prog.cellsOf 32 = 1 := by kernel_rfl
  have hcu : Try.prog.cellsOf 5 = 1 := by kernel_rfl
  have hcs : Try.prog.cellsOf 9 = 1 := by kernel_rfl
  have hcn : Try.prog.cellsOf 34 = 7 := by kernel_rfl
  have hl' : l.length = 7 := by rw [← hcn]; exact hl
  have hall' : ∀ (i : Nat) (f : Field), _ → DataW.trod enc Try.prog w 0 (fun _ => true) true n f.type ((l.drop f.offset).take (Try.prog.cellsOf f.type)) = xs[i]? := hall
  match xs, hxs with
  | [y0, y1, y2, y3, y4, y5, y6], _ =>
    have h0 : DataW.trod enc Try.prog w 0 (fun _ => true) true n 4 ((l.drop 0).take (Try.prog.cellsOf 4)) = some y0 := hall' 0 _ rfl
    rw [hcb] at h0
    obtain ⟨a0, e0⟩ := cell_bool Try.underlying4 h0
    have h1 : DataW.trod enc Try.prog w 0 (fun _ => true) true n 9 ((l.drop 1).take (Try.prog.cellsOf 9)) = some y1 := hall' 1 _ rfl
    rw [hcs] at h1
    obtain ⟨a1, e1, f1⟩ := cell_strv Try.underlying9 h1
    have h2 : DataW.trod enc Try.prog w 0 (fun _ => true) true n 3 ((l.drop 2).take (Try.prog.cellsOf 3)) = some y2 := hall' 2 _ rfl
    rw [hci] at h2
    obtain ⟨a2, e2, f2⟩ := cell_int Try.underlying3 h2
    have h3 : DataW.trod enc Try.prog w 0 (fun _ => true) true n 4 ((l.drop 3).take (Try.prog.cellsOf 4)) = some y3 := hall' 3 _ rfl
    rw [hcb] at h3
    obtain ⟨a3, e3⟩ := cell_bool Try.underlying4 h3
    have h4 : DataW.trod enc Try.prog w 0 (fun _ => true) true n 32 ((l.drop 4).take (Try.prog.cellsOf 32)) = some y4 := hall' 4 _ rfl
    rw [hcy] at h4
    obtain ⟨A4, c4, a4, e4, f4, g4⟩ := cell_bytes Try.underlying32 Try.underlying5 hcu h4
    have h5 : DataW.trod enc Try.prog w 0 (fun _ => true) true n 9 ((l.drop 5).take (Try.prog.cellsOf 9)) = some y5 := hall' 5 _ rfl
    rw [hcs] at h5
    obtain ⟨a5, e5, f5⟩ := cell_strv Try.underlying9 h5
    have h6 : DataW.trod enc Try.prog w 0 (fun _ => true) true n 3 ((l.drop 6).take (Try.prog.cellsOf 3)) = some y6 := hall' 6 _ rfl
    rw [hci] at h6
    obtain ⟨a6, e6, f6⟩ := cell_int Try.underlying3 h6
    have k0 := piece_get e0
    have k1 := piece_get e1
    have k2 := piece_get e2
    have k3 := piece_get e3
    have k4 := piece_get e4
    have k5 := piece_get e5
    have k6 := piece_get e6
    have el : l = [.bool a0, sq a1, .int .i64 a2, .bool a3, .slice A4 a4.length c4, sq a5, .int .i64 a6] := by
      match l, hl' with
      | [x0, x1, x2, x3, x4, x5, x6], _ => simp at k0 k1 k2 k3 k4 k5 k6; simp [k0, k1, k2, k3, k4, k5, k6]
    exact ⟨⟨a0, a1, a2, a3, A4, c4, a4, a5, a6⟩, el, f4, g4, f2, f6, f1, f5⟩
set_option maxRecDepth 100000 in
theorem get_dos (hv : Value.okWide Try.prog w .any base 22 v) (h : DataW.Trod enc Try.prog w 0 (fun _ => true) true 22 v d p) :
    ∃ A c l, v = .slice A l.length c ∧ RdS clD 7 w w.heap.size A l ∧ (∀ y ∈ l, Arg w w.heap.size y.A y.c y.b ∧ y.c ≤ maxLen ∧ (Lit.int .i64 y.off).wf = true ∧ (Lit.int .i64 y.now).wf = true ∧ y.key.length ≤ maxLen ∧ y.head.length ≤ maxLen) ∧ l.length ≤ c ∧ c ≤ maxLen := by
  obtain ⟨A, len, cap, rfl⟩ := okWide_slice Try.underlying22 hv
  obtain ⟨fuel, hf⟩ := h
  rcases Deep.open_slice Try.underlying22 hf with ⟨hcs, _⟩ | ⟨a, len', cap', m, n, D, Pl, hcs, _, hl, hm, hmm, _, hall⟩
  · simp [Value.cells] at hcs
    obtain ⟨rfl, rfl, rfl⟩ := hcs
    exact ⟨none, 0, [], rfl, fun hn => absurd hn (by simp), fun x hx => (by cases hx), Nat.le_refl _, Nat.zero_le _⟩
  · simp [Value.cells] at hcs
    obtain ⟨rfl, rfl, rfl⟩ := hcs
    have hcn : Try.prog.cellsOf 34 = 7 := by kernel_rfl
    rw [hcn] at hall
    have hmm' : m = cap := by simpa using hmm
    subst hmm'
    have key : ∀ i, ∃ y : Dx, i < len → w.cells? 0 (a.add (i * 7)) 7 = some (clD y) ∧ Arg w w.heap.size y.A y.c y.b ∧ y.c ≤ maxLen ∧ (Lit.int .i64 y.off).wf = true ∧ (Lit.int .i64 y.now).wf = true ∧ y.key.length ≤ maxLen ∧ y.head.length ≤ maxLen := fun i => by
      by_cases hi : i < len
      · obtain ⟨cs', h1, h2⟩ := hall i (by omega)
        obtain ⟨y, rfl, h3⟩ := cell_do h2
        exact ⟨y, fun _ => ⟨h1, h3⟩⟩
      · exact ⟨⟨false, [], 0, false, none, 0, [], [], 0⟩, fun h => absurd h hi⟩
    obtain ⟨X, hX⟩ := Classical.skolem.1 key
    have el : ((List.range len).map X).length = len := by simp
    refine ⟨some a, m, (List.range len).map X, by rw [el], fun hn => ?_, fun x hx => ?_, by rw [el]; exact hl, hm⟩
    · rw [el] at hn
      obtain ⟨b, off, spot⟩ := a
      have h0 := (hX 0 hn).1
      have hc0 : World.cell? w ((Addr.mk b off spot).add (0 * 7) |>.add 0) = (clD (X 0))[0]? := (World.cells?_some h0).2.2 0 (by decide)
      have hspot : spot = none := by simpa [Addr.add] using World.cell?_spot (hc0.trans rfl)
      subst hspot
      have hb : b < w.heap.size := by simpa [Addr.add] using World.cells?_block h0 (by decide)
      refine ⟨b, off, rfl, hb, fun j x hx => ?_⟩
      have hj : j < len := by
        have := (List.getElem?_eq_some_iff.1 hx).1
        rwa [el] at this
      have e : x = X j := by
        rw [List.getElem?_map, List.getElem?_range hj] at hx
        simpa using hx.symm
      have h1 := (hX j hj).1
      rw [add_off] at h1
      rw [e]
      exact cells_at9 h1
    · obtain ⟨i, hi, rfl⟩ := List.mem_map.1 hx
      exact (hX i (List.mem_range.1 hi)).2
end
end Go.Proofs.Ythdaclbgandmcaa

/-
  far of layer 16. Conditions are each theorem's own.
-/
namespace Go.Proofs.Ythdaclbgandmcaa
open Go.RowKit Go.Shelf
/-- Whether calls are too many, or too long. -/
def farD : Nat → Int → List Dx → Bool
  | _, n, [] => decide (n > 8000)
  | i, n, x :: l => if (((decide (60 ≤ i) || decide ((x.b.length : Int) > 1000)) || decide ((x.key.length : Int) > 60)) || decide ((x.head.length : Int) > 60)) || (decide (x.off > 4000) && decide (x.off ≤ 65535)) then true else farD (i + 1) (n + (x.b.length : Int)) l
theorem clD_one (x : Dx) : (clD x).toArray.all (·.oneCell') = true := by simp [clD, sq, Value.oneCell']
theorem row_ofD {w : World} {B : Nat} {A : Option Addr} {l : List Dx} (h : RdS clD 7 w B A l) {k : Nat} {x : Dx} (hx : l[k]? = some x) : ∃ b o, A = some ⟨b, o, none⟩ ∧ b < B ∧ w.rangeAt b (o + k * 7) (clD x) := by
  obtain ⟨b, o, e, hb, hr⟩ := h (by have := (List.getElem?_eq_some_iff.1 hx).1; omega)
  exact ⟨b, o, e, hb, hr k x hx⟩
theorem run_load_do {o : Oper} {a : Act} {w : World} {x : Operand} {g i : Nat} {cs : List Value} (ho : o.op = .load 34 x) (hx : a.eval x = .pointer (some ⟨g, i, none⟩)) (hr : w.rangeAt g i cs) (hl : cs.length = 7) :
    (execOp a.eval o).run Try.prog w = .ok (.value (.agg cs.toArray)) w := by
  have h := run_loadVar_mid (P := Try.prog) w g i 34 cs _ hr Try.underlying34 rfl (by rw [hl]; kernel_rfl)
  unfold execOp
  simp only [ho, hx, Instr.loadAt, Instr.sureAddr, Sem.run_bind, Sem.run_pure, Result.andThen_ok, h]
theorem do_store_new {ops : Array Oper} {rest : List Oper} {x y : Operand} {ty : TypeId} {pos : String} {af : Array Edge} {a : Act} {w : World} {Q : Exit → Act → World → Prop}
    {t : TypeId} {cs old : Array Value} (hx : a.eval x = .pointer (some ⟨w.heap.size, 0, none⟩)) (hy : a.eval y = .agg cs) (ho : old.size = 7) (hl : cs.size = 7) (h1 : cs.all (·.oneCell') = true)
    (h : wpList Try.prog ops Q rest (a.put none undef) (w.alloc (.cells cs t))) : wpList Try.prog ops Q (⟨none, .store 34 x y, ty, pos, af, none⟩ :: rest) a (w.alloc (.cells old t)) :=
  wpList_plain rfl fun _ hK => wp_store_row 34 x y rfl w.heap.size cs hx hy t old (World.alloc_heap_new w _) (by rw [hl]; kernel_rfl) (by rw [ho, hl]) h1 (by rw [World.setRow_alloc_new]; exact hK _ _ h)
set_option maxRecDepth 100000 in
set_option maxHeartbeats 1000000 in
theorem far16 (A : Option Addr) (c n B : Nat) (l : List Dx) (w : World) (hr : RdS clD 7 w B A l) (hB : B ≤ w.heap.size) (hn : n = l.length) (hy : ∀ y ∈ l, y.b.length ≤ y.c ∧ y.c ≤ maxLen ∧ (Lit.int .i64 y.off).wf = true) :
    Calls Try.prog 13 #[.slice A n c] w fun e w' => e = .returned (.bool (farD 0 0 l)) ∧ Below w.heap.size w w' := by
  have HN := Lib.hid hn
  have HR := Lib.hid hr
  have HY := Lib.hid hy
  generalize hF : farD 0 0 l = F
  have HF : Hid (F = farD 0 0 (l.drop 0)) := Lib.hid hF.symm
  clear hn hr hy hF
  go_enter Try.func13, Try.ntmps13
  go_wp2
  go_loopw [3, 8] (fun s i wr => ∃ (k : Nat) (z : Int), k ≤ n ∧ k ≤ 60 ∧ i = .int .i64 (k : Int) ∧ s = .int .i64 z ∧ (0 ≤ z ∧ z ≤ 1000 * (k : Int)) ∧ Hid (F = farD k z (l.drop k)) ∧ Below w.heap.size w wr)
    (fun _ i _ => n - (intOf i).toNat)
  case atStart => exact ⟨0, 0, Nat.zero_le _, by omega, rfl, rfl, by omega, HF, Below.refl _ _⟩
  case round =>
    obtain ⟨k, z, hk, hk6, rfl, rfl, hz, HE, hbel⟩ := hrel
    by_cases hlt : k < n
    · obtain ⟨x, hx⟩ : ∃ x, l[k]? = some x := ⟨_, List.getElem?_eq_getElem (by rw [← HN.out]; exact hlt)⟩
      obtain ⟨hy1, hy2, hy3⟩ := HY.out x (List.mem_of_getElem? hx)
      obtain ⟨b1, o1, rfl, hb1, hrow1⟩ := row_ofD HR.out hx
      have hrow := range_below hrow1 hb1 (hbel.mono hB)
      have HXD : Hid (l.drop k = x :: l.drop (k + 1)) := Lib.hid (by
        have hkl := (List.getElem?_eq_some_iff.1 hx).1
        rw [List.drop_eq_getElem_cons hkl]
        rw [List.getElem?_eq_getElem hkl] at hx
        rw [Option.some.inj hx])
      obtain ⟨V, hV⟩ : ∃ V, V = wr.alloc (.cells (clD x).toArray 34) := ⟨_, rfl⟩
      have HV := Lib.hid hV
      have bV : Below wr.heap.size wr V := by rw [hV]; exact (Below.refl _ wr).alloc (Nat.le_refl _) _
      have hbV : V.heap[wr.heap.size]? = some (.cells (clD x).toArray 34 (0, 0)) := by rw [hV]; exact World.alloc_heap_new wr _
      have kx1 : V.cell? ⟨wr.heap.size, 1, none⟩ = some (.string (strB x.key)) := cells_at (i := 1) hbV rfl
      have kx2 : V.cell? ⟨wr.heap.size, 2, none⟩ = some (.int .i64 x.off) := cells_at (i := 2) hbV rfl
      have kx4 : V.cell? ⟨wr.heap.size, 4, none⟩ = some (.slice x.A x.b.length x.c) := cells_at (i := 4) hbV rfl
      have kx5 : V.cell? ⟨wr.heap.size, 5, none⟩ = some (.string (strB x.head)) := cells_at (i := 5) hbV rfl
      have s1 : (strB x.key).size = x.key.length := strB_size _
      have s2 : (strB x.head).size = x.head.length := strB_size _
      have b7 := hbel.trans (bV.mono hbel.size)
      unfold maxLen at hy2
      have HSTEP : Hid (F = if (((decide (60 ≤ k) || decide ((x.b.length : Int) > 1000)) || decide ((x.key.length : Int) > 60)) || decide ((x.head.length : Int) > 60)) || (decide (x.off > 4000) && decide (x.off ≤ 65535)) then true else farD (k + 1) (z + (x.b.length : Int)) (l.drop (k + 1))) := Lib.hid (by rw [HE.out, HXD.out, farD])
      clear hx hrow1 hV bV hbV
      by_cases c1 : 60 ≤ k
      · have d1 : decide ((k : Int) ≥ 60) = true := decide_eq_true (by omega)
        have d1' : decide (60 ≤ (k : Int)) = true := d1
        have e1 : decide (60 ≤ k) = true := decide_eq_true c1
        have HT : Hid (F = true) := Lib.hid (by rw [HSTEP.out, e1]; simp)
        clear c1
        go_wp2_with (first
          | ((with_reducible show wpList _ _ _ (Oper.mk _ (Op.load 34 _) _ _ _ _ :: _) _ _); refine wpList_val rfl (run_load_do rfl rfl hrow rfl) ?_)
          | ((with_reducible show wpList _ _ _ (Oper.mk _ (Op.store 34 _ _) _ _ _ _ :: _) _ _); refine do_store_new (cs := (clD x).toArray) rfl rfl rfl rfl (clD_one x) ?_; rw [← HV.out]))
        go_ret
        exact ⟨by rw [HT.out]; rfl, b7⟩
      · have d1 : decide ((k : Int) ≥ 60) = false := decide_eq_false (by omega)
        have d1' : decide (60 ≤ (k : Int)) = false := d1
        have e1 : decide (60 ≤ k) = false := decide_eq_false c1
        by_cases c2 : (x.b.length : Int) > 1000
        · have d2 : decide ((x.b.length : Int) > 1000) = true := decide_eq_true (by omega)
          have d2' : decide (1000 < (x.b.length : Int)) = true := d2
          have e2 : decide ((x.b.length : Int) > 1000) = true := decide_eq_true c2
          have HT : Hid (F = true) := Lib.hid (by rw [HSTEP.out, e2]; simp)
          clear c1 c2
          go_wp2_with (first
            | ((with_reducible show wpList _ _ _ (Oper.mk _ (Op.load 34 _) _ _ _ _ :: _) _ _); refine wpList_val rfl (run_load_do rfl rfl hrow rfl) ?_)
            | ((with_reducible show wpList _ _ _ (Oper.mk _ (Op.store 34 _ _) _ _ _ _ :: _) _ _); refine do_store_new (cs := (clD x).toArray) rfl rfl rfl rfl (clD_one x) ?_; rw [← HV.out]))
          go_ret
          exact ⟨by rw [HT.out]; rfl, b7⟩
        · have d2 : decide ((x.b.length : Int) > 1000) = false := decide_eq_false (by omega)
          have d2' : decide (1000 < (x.b.length : Int)) = false := d2
          have e2 : decide ((x.b.length : Int) > 1000) = false := decide_eq_false c2
          by_cases c3 : (x.key.length : Int) > 60
          · have d3 : decide ((x.key.length : Int) > 60) = true := decide_eq_true (by omega)
            have d3' : decide (60 < (x.key.length : Int)) = true := d3
            have e3 : decide ((x.key.length : Int) > 60) = true := decide_eq_true c3
            have HT : Hid (F = true) := Lib.hid (by rw [HSTEP.out, e3]; simp)
            clear c1 c2 c3
            go_wp2_with (first
              | ((with_reducible show wpList _ _ _ (Oper.mk _ (Op.load 34 _) _ _ _ _ :: _) _ _); refine wpList_val rfl (run_load_do rfl rfl hrow rfl) ?_)
              | ((with_reducible show wpList _ _ _ (Oper.mk _ (Op.store 34 _ _) _ _ _ _ :: _) _ _); refine do_store_new (cs := (clD x).toArray) rfl rfl rfl rfl (clD_one x) ?_; rw [← HV.out]))
            go_ret
            exact ⟨by rw [HT.out]; rfl, b7⟩
          · have d3 : decide ((x.key.length : Int) > 60) = false := decide_eq_false (by omega)
            have d3' : decide (60 < (x.key.length : Int)) = false := d3
            have e3 : decide ((x.key.length : Int) > 60) = false := decide_eq_false c3
            by_cases c4 : (x.head.length : Int) > 60
            · have d4 : decide ((x.head.length : Int) > 60) = true := decide_eq_true (by omega)
              have d4' : decide (60 < (x.head.length : Int)) = true := d4
              have e4 : decide ((x.head.length : Int) > 60) = true := decide_eq_true c4
              have HT : Hid (F = true) := Lib.hid (by rw [HSTEP.out, e4]; simp)
              clear c1 c2 c3 c4
              go_wp2_with (first
                | ((with_reducible show wpList _ _ _ (Oper.mk _ (Op.load 34 _) _ _ _ _ :: _) _ _); refine wpList_val rfl (run_load_do rfl rfl hrow rfl) ?_)
                | ((with_reducible show wpList _ _ _ (Oper.mk _ (Op.store 34 _ _) _ _ _ _ :: _) _ _); refine do_store_new (cs := (clD x).toArray) rfl rfl rfl rfl (clD_one x) ?_; rw [← HV.out]))
              go_ret
              exact ⟨by rw [HT.out]; rfl, b7⟩
            · have d4 : decide ((x.head.length : Int) > 60) = false := decide_eq_false (by omega)
              have d4' : decide (60 < (x.head.length : Int)) = false := d4
              have e4 : decide ((x.head.length : Int) > 60) = false := decide_eq_false c4
              by_cases c5 : x.off > 4000
              · have d5 : decide (x.off > 4000) = true := decide_eq_true c5
                have d5' : decide (4000 < x.off) = true := d5
                by_cases c6 : x.off ≤ 65535
                · have d6 : decide (x.off ≤ 65535) = true := decide_eq_true c6
                  have HT : Hid (F = true) := Lib.hid (by rw [HSTEP.out, d5, d6]; simp)
                  clear c1 c2 c3 c4 c5 c6
                  go_wp2_with (first
                    | ((with_reducible show wpList _ _ _ (Oper.mk _ (Op.load 34 _) _ _ _ _ :: _) _ _); refine wpList_val rfl (run_load_do rfl rfl hrow rfl) ?_)
                    | ((with_reducible show wpList _ _ _ (Oper.mk _ (Op.store 34 _ _) _ _ _ _ :: _) _ _); refine do_store_new (cs := (clD x).toArray) rfl rfl rfl rfl (clD_one x) ?_; rw [← HV.out]))
                  go_ret
                  exact ⟨by rw [HT.out]; rfl, b7⟩
                · have d6 : decide (x.off ≤ 65535) = false := decide_eq_false c6
                  have HT : Hid (F = farD (k + 1) (z + (x.b.length : Int)) (l.drop (k + 1))) := Lib.hid (by rw [HSTEP.out, e1, e2, e3, e4, d5, d6]; rfl)
                  have hk1 : k + 1 ≤ 60 := by omega
                  have hz2 : 0 ≤ z + (x.b.length : Int) ∧ z + (x.b.length : Int) ≤ 1000 * ((k + 1 : Nat) : Int) := by omega
                  clear c1 c2 c3 c4 c5 c6
                  go_wp2_with (first
                    | ((with_reducible show wpList _ _ _ (Oper.mk _ (Op.load 34 _) _ _ _ _ :: _) _ _); refine wpList_val rfl (run_load_do rfl rfl hrow rfl) ?_)
                    | ((with_reducible show wpList _ _ _ (Oper.mk _ (Op.store 34 _ _) _ _ _ _ :: _) _ _); refine do_store_new (cs := (clD x).toArray) rfl rfl rfl rfl (clD_one x) ?_; rw [← HV.out]))
                  go_roundw
                  case rel => exact ⟨k + 1, z + (x.b.length : Int), by omega, hk1, by simp, by rfl, hz2, HT, b7⟩
                  case measure => simp [intOf]; omega
              · have d5 : decide (x.off > 4000) = false := decide_eq_false c5
                have d5' : decide (4000 < x.off) = false := d5
                have HT : Hid (F = farD (k + 1) (z + (x.b.length : Int)) (l.drop (k + 1))) := Lib.hid (by rw [HSTEP.out, e1, e2, e3, e4, d5]; rfl)
                have hk1 : k + 1 ≤ 60 := by omega
                have hz2 : 0 ≤ z + (x.b.length : Int) ∧ z + (x.b.length : Int) ≤ 1000 * ((k + 1 : Nat) : Int) := by omega
                clear c1 c2 c3 c4 c5
                go_wp2_with (first
                  | ((with_reducible show wpList _ _ _ (Oper.mk _ (Op.load 34 _) _ _ _ _ :: _) _ _); refine wpList_val rfl (run_load_do rfl rfl hrow rfl) ?_)
                  | ((with_reducible show wpList _ _ _ (Oper.mk _ (Op.store 34 _ _) _ _ _ _ :: _) _ _); refine do_store_new (cs := (clD x).toArray) rfl rfl rfl rfl (clD_one x) ?_; rw [← HV.out]))
                go_roundw
                case rel => exact ⟨k + 1, z + (x.b.length : Int), by omega, hk1, by simp, by rfl, hz2, HT, b7⟩
                case measure => simp [intOf]; omega
    · obtain rfl : n = k := by omega
      have HT : Hid (F = decide (z > 8000)) := Lib.hid (by rw [HE.out, List.drop_eq_nil_of_le (by rw [← HN.out]; exact Nat.le_refl _)]; rfl)
      go_wp2
      go_ret
      exact ⟨by rw [HT.out]; rfl, hbel⟩
end Go.Proofs.Ythdaclbgandmcaa

/-
  Buffers of parts, in plain lists: what a table answers and keeps, and that it stays within its bounds. No program. Conditions are each theorem's own.
-/
namespace Go.Proofs.Ythdaclbgandmcaa
open Go.RowKit

/-- A buffer. -/
structure Bf where
  key : List UInt8
  since : Int
  l : List Pc
  head : List UInt8
  has : Bool
def bytesJ : List Bf → Int
  | [] => 0
  | b :: t => bytesP b.l + bytesJ t
def findJ (t : List Bf) (key : List UInt8) : Nat := t.findIdx fun x => x.key == key
def insJ : List (List UInt8) → List UInt8 → List (List UInt8)
  | [], s => [s]
  | x :: l, s => if Op.bytesLess x s then x :: insJ l s else s :: x :: l
def keysOf (t : List Bf) : List (List UInt8) := t.foldl (fun out b => insJ out b.key) []
def clampJ (now : Int) : Int := min (max now 0) 1099511627776
def goneJ (wait now : Int) (b : Bf) : Bool := decide (now ≥ wait) && decide (b.since ≤ now - wait)
def expK (t : List Bf) (wait now : Int) : List (List UInt8) := keysOf (t.filter (goneJ wait now))
def expL (t : List Bf) (wait now : Int) : List Bf := t.filter fun b => !goneJ wait now b
/-- What a part's call answers: the first part's text, all bytes, whether they are all there, the error. -/
abbrev AnsJ := List UInt8 × List UInt8 × Bool × Int
/-- A buffer with a part more. -/
def upJ (x : Bf) (p : Pc) (head : List UInt8) : Bf := { x with l := addL x.l p, head := if p.off = 0 ∧ x.has = false then head else x.head, has := x.has || decide (p.off = 0) }
/-- A part at a buffer that is there, at a place of the table. -/
def putJ (mb : Int) (t0 t : List Bf) (k : Nat) (x : Bf) (p : Pc) (head : List UInt8) : List Bf × AnsJ :=
  if bytesJ t + roomP x.l p.off p.b > mb then (t0, [], [], false, 7)
  else if addE x.l p ≠ 0 then (t.eraseIdx k, [], [], false, addE x.l p)
  else if doneB (upJ x p head).l then (t.eraseIdx k, (upJ x p head).head, doneP (upJ x p head).l, true, 0)
  else (t.set k (upJ x p head), [], [], false, 0)
def newJ (key : List UInt8) (now : Int) : Bf := ⟨key, clampJ now, [], [], false⟩
def addJ (most mb : Int) (t : List Bf) (key : List UInt8) (p : Pc) (head : List UInt8) (now : Int) : List Bf × AnsJ :=
  match t[findJ t key]? with
  | some x => putJ mb t t (findJ t key) x p head
  | none => if (t.length : Int) ≥ most then (t, [], [], false, 7) else putJ mb t (t ++ [newJ key now]) t.length (newJ key now) p head

theorem bytesP_nn : ∀ l : List Pc, 0 ≤ bytesP l
  | [] => Int.le_refl _
  | x :: l => by
    have h := bytesP_nn l
    have h2 : x.len = (x.b.length : Int) := rfl
    rw [bytesP]; omega
theorem bytesP_app (l : List Pc) (p : Pc) : bytesP (l ++ [p]) = bytesP l + p.len := by
  induction l with
  | nil => simp [bytesP]
  | cons a l ih => rw [List.cons_append, bytesP, bytesP, ih]; omega
theorem bytesJ_nn : ∀ t : List Bf, 0 ≤ bytesJ t
  | [] => Int.le_refl _
  | b :: t => by
    have h := bytesJ_nn t
    have h2 := bytesP_nn b.l
    rw [bytesJ]; omega
theorem bytesJ_app (t : List Bf) (b : Bf) : bytesJ (t ++ [b]) = bytesJ t + bytesP b.l := by
  induction t with
  | nil => simp [bytesJ]
  | cons a t ih => rw [List.cons_append, bytesJ, bytesJ, ih]; omega
theorem bytesJ_erase : ∀ (t : List Bf) (k : Nat), bytesJ (t.eraseIdx k) ≤ bytesJ t
  | [], _ => by simp
  | b :: t, 0 => by
    have := bytesP_nn b.l
    rw [List.eraseIdx_cons_zero, bytesJ]; omega
  | b :: t, k + 1 => by
    have := bytesJ_erase t k
    rw [List.eraseIdx_cons_succ, bytesJ, bytesJ]; omega
theorem bytesJ_set : ∀ (t : List Bf) (k : Nat) (x y : Bf), t[k]? = some x → bytesJ (t.set k y) = bytesJ t - bytesP x.l + bytesP y.l
  | [], _, _, _, h => by simp at h
  | b :: t, 0, x, y, h => by
    simp only [List.getElem?_cons_zero, Option.some.injEq] at h
    subst h
    rw [List.set_cons_zero, bytesJ, bytesJ]; omega
  | b :: t, k + 1, x, y, h => by
    rw [List.getElem?_cons_succ] at h
    have := bytesJ_set t k x y h
    rw [List.set_cons_succ, bytesJ, bytesJ]; omega
theorem erase_length (t : List Bf) (k : Nat) : (t.eraseIdx k).length ≤ t.length := by
  rw [List.length_eraseIdx]; split <;> omega
theorem bytesJ_filter (f : Bf → Bool) : ∀ t : List Bf, bytesJ (t.filter f) ≤ bytesJ t
  | [] => Int.le_refl _
  | b :: t => by
    have h := bytesJ_filter f t
    have h2 := bytesP_nn b.l
    rw [List.filter_cons]
    split
    · rw [bytesJ, bytesJ]; omega
    · rw [bytesJ]; omega
/-- What is taken needs no more room than was asked. -/
theorem room_add (l : List Pc) (p : Pc) : bytesP (addL l p) ≤ bytesP l + roomP l p.off p.b := by
  have hr0 : 0 ≤ roomP l p.off p.b := by unfold roomP; split <;> omega
  rcases addL_cases l p with e | ⟨e, _, _, _, hs, _⟩
  · rw [e]; omega
  · have hne : ∀ m, ¬ sameP l ⟨p.off, m, p.b⟩ = true := fun m hm => hs (by
      have hx := sameP_iff.1 hm
      refine List.any_eq_true.2 ⟨_, hx, ?_⟩
      have h1 : (Pc.mk p.off m p.b).len = p.len := rfl
      have h2 : (Pc.mk p.off m p.b).stop = p.stop := rfl
      have h3 : p.stop = p.off + p.len := rfl
      have h4 : 0 ≤ p.len := Int.natCast_nonneg _
      simp only [sharing, Bool.or_eq_true, Bool.and_eq_true, decide_eq_true_eq, beq_iff_eq, h1, h2]
      by_cases h0 : p.len = 0
      · right; exact ⟨⟨trivial, h0⟩, h0⟩
      · left; exact ⟨⟨⟨by omega, by omega⟩, by omega⟩, by omega⟩)
    have hr : roomP l p.off p.b = p.len := by
      rw [roomP, if_neg]; rfl
      simp only [Bool.or_eq_true, not_or]
      exact ⟨hne true, hne false⟩
    rw [e, bytesP_app, hr]; omega
theorem insJ_length : ∀ (l : List (List UInt8)) (s : List UInt8), (insJ l s).length = l.length + 1
  | [], _ => rfl
  | x :: l, s => by
    rw [insJ]; split
    · rw [List.length_cons, insJ_length l s, List.length_cons]
    · rfl
theorem foldl_ins_length : ∀ (t : List Bf) (out : List (List UInt8)), (t.foldl (fun out b => insJ out b.key) out).length = out.length + t.length
  | [], _ => rfl
  | b :: t, out => by rw [List.foldl_cons, foldl_ins_length t, insJ_length, List.length_cons]; omega
theorem keysOf_length (t : List Bf) : (keysOf t).length = t.length := by rw [keysOf, foldl_ins_length]; simp
theorem findJ_lt {t : List Bf} {key : List UInt8} {x : Bf} (h : t[findJ t key]? = some x) : findJ t key < t.length := (List.getElem?_eq_some_iff.1 h).1
theorem findJ_none {t : List Bf} {key : List UInt8} (h : t[findJ t key]? = none) : findJ t key = t.length := by
  have h1 := List.getElem?_eq_none_iff.1 h
  have h2 : findJ t key ≤ t.length := List.findIdx_le_length
  omega
/-- A call keeps the table within its bounds. -/
theorem putJ_in {mb most : Int} {t0 t : List Bf} {k : Nat} {x : Bf} {p : Pc} {head : List UInt8} (hk : t[k]? = some x) (h0 : bytesJ t0 ≤ mb) (h0' : (t0.length : Int) ≤ most) (h1 : bytesJ t ≤ mb) (h1' : (t.length : Int) ≤ most) :
    bytesJ (putJ mb t0 t k x p head).1 ≤ mb ∧ ((putJ mb t0 t k x p head).1.length : Int) ≤ most := by
  unfold putJ
  by_cases hr : bytesJ t + roomP x.l p.off p.b > mb
  · rw [if_pos hr]; exact ⟨h0, h0'⟩
  · rw [if_neg hr]
    have he := bytesJ_erase t k
    have hl := erase_length t k
    have hE : bytesJ (t.eraseIdx k) ≤ mb ∧ ((t.eraseIdx k).length : Int) ≤ most := ⟨by omega, by omega⟩
    by_cases ha : addE x.l p ≠ 0
    · rw [if_pos ha]; exact hE
    · rw [if_neg ha]
      by_cases hd : doneB (upJ x p head).l = true
      · rw [if_pos hd]; exact hE
      · rw [if_neg hd]
        have h2 := room_add x.l p
        refine ⟨?_, ?_⟩
        · show bytesJ (t.set k (upJ x p head)) ≤ mb
          rw [bytesJ_set t k x _ hk]
          show bytesJ t - bytesP x.l + bytesP (addL x.l p) ≤ mb
          omega
        · show ((t.set k (upJ x p head)).length : Int) ≤ most
          rw [List.length_set]; exact h1'
theorem addJ_in {mb most : Int} {t : List Bf} {key : List UInt8} {p : Pc} {head : List UInt8} {now : Int} (h : bytesJ t ≤ mb) (h' : (t.length : Int) ≤ most) :
    bytesJ (addJ most mb t key p head now).1 ≤ mb ∧ ((addJ most mb t key p head now).1.length : Int) ≤ most := by
  unfold addJ
  split
  · rename_i x hx; exact putJ_in hx h h' h h'
  · by_cases hm : (t.length : Int) ≥ most
    · rw [if_pos hm]; exact ⟨h, h'⟩
    · rw [if_neg hm]
      refine putJ_in (by simp) h h' ?_ (by rw [List.length_append, List.length_singleton]; omega)
      rw [bytesJ_app]
      show bytesJ t + bytesP [] ≤ mb
      rw [bytesP]; omega
/-- All buffers that began at one time stay so. -/
theorem putJ_since {mb c : Int} {t0 t : List Bf} {k : Nat} {x : Bf} {p : Pc} {head : List UInt8} (hk : t[k]? = some x) (h0 : ∀ b ∈ t0, b.since = c) (h : ∀ b ∈ t, b.since = c) : ∀ b ∈ (putJ mb t0 t k x p head).1, b.since = c := by
  have he : ∀ b ∈ t.eraseIdx k, b.since = c := fun b hb => h b (List.mem_of_mem_eraseIdx hb)
  unfold putJ
  split
  · exact h0
  · split
    · exact he
    · split
      · exact he
      · intro b hb
        rcases List.mem_or_eq_of_mem_set hb with hb | rfl
        · exact h b hb
        · exact h x (List.mem_of_getElem? hk)
theorem addJ_since {mb most now : Int} {t : List Bf} {key : List UInt8} {p : Pc} {head : List UInt8} (h : ∀ b ∈ t, b.since = clampJ now) : ∀ b ∈ (addJ most mb t key p head now).1, b.since = clampJ now := by
  unfold addJ
  split
  · rename_i x hx; exact putJ_since hx h h
  · split
    · exact h
    · refine putJ_since (by simp) h fun b hb => ?_
      rcases List.mem_append.1 hb with hb | hb
      · exact h b hb
      · rw [List.mem_singleton.1 hb]; rfl
/-- Behind the wait all are gone, before it none. -/
theorem exp_none {t : List Bf} {wait now c : Int} (h : ∀ b ∈ t, b.since = c) (hn : now < wait ∨ c > now - wait) : expK t wait now = [] ∧ expL t wait now = t := by
  have hg : ∀ b ∈ t, goneJ wait now b = false := fun b hb => by
    have h1 := h b hb
    simp only [goneJ, Bool.and_eq_false_iff, decide_eq_false_iff_not]; omega
  refine ⟨?_, List.filter_eq_self.2 fun b hb => by rw [hg b hb]; rfl⟩
  rw [expK, List.filter_eq_nil_iff.2 fun b hb => by rw [hg b hb]; decide]; rfl
theorem exp_all {t : List Bf} {wait now c : Int} (h : ∀ b ∈ t, b.since = c) (hn : now ≥ wait) (hc : c ≤ now - wait) : (expK t wait now).length = t.length ∧ expL t wait now = [] := by
  have hg : ∀ b ∈ t, goneJ wait now b = true := fun b hb => by
    have h1 := h b hb
    simp only [goneJ, Bool.and_eq_true, decide_eq_true_eq]; omega
  refine ⟨?_, List.filter_eq_nil_iff.2 fun b hb => by rw [hg b hb]; decide⟩
  rw [expK, keysOf_length, List.filter_eq_self.2 hg]
end Go.Proofs.Ythdaclbgandmcaa

/-
  The table behind Add, in plain lists: what room a part took, whom the map holds. Conditions are each theorem's own.
-/
namespace Go.Proofs.Ythdaclbgandmcaa
open Go.RowKit Go.Shelf Go.Maps
/-- What is taken needs just the room that was asked. -/
theorem room_eq (l : List Pc) (p : Pc) (h : addE l p = 0) : bytesP (addL l p) = bytesP l + roomP l p.off p.b := by
  rcases addL_cases l p with e | ⟨e, _, _, _, hs, _⟩
  · have hsm : sameP l p = true := by
      by_cases h1 : sameP l p = true
      · exact h1
      · exfalso
        have e2 : addL l p = l ++ [p] := by rw [addL, if_pos h, if_neg h1]
        rw [e2] at e
        have := congrArg List.length e
        simp at this
    have hr : roomP l p.off p.b = 0 := by
      rw [roomP, if_pos]
      obtain ⟨o, m, b⟩ := p
      cases m with
      | true => rw [Bool.or_eq_true]; exact .inl hsm
      | false => rw [Bool.or_eq_true]; exact .inr hsm
    rw [e, hr]; omega
  · have hne : ∀ m, ¬ sameP l ⟨p.off, m, p.b⟩ = true := fun m hm => hs (by
      have hx := sameP_iff.1 hm
      refine List.any_eq_true.2 ⟨_, hx, ?_⟩
      have h1 : (Pc.mk p.off m p.b).len = p.len := rfl
      have h2 : (Pc.mk p.off m p.b).stop = p.stop := rfl
      have h3 : p.stop = p.off + p.len := rfl
      have h4 : 0 ≤ p.len := Int.natCast_nonneg _
      simp only [sharing, Bool.or_eq_true, Bool.and_eq_true, decide_eq_true_eq, beq_iff_eq, h1, h2]
      by_cases h0 : p.len = 0
      · right; exact ⟨⟨trivial, h0⟩, h0⟩
      · left; exact ⟨⟨⟨by omega, by omega⟩, by omega⟩, by omega⟩)
    have hr : roomP l p.off p.b = p.len := by
      rw [roomP, if_neg]; rfl
      simp only [Bool.or_eq_true, not_or]
      exact ⟨hne true, hne false⟩
    rw [e, bytesP_app, hr]
theorem roomC_eq {L : List Pc} (hr : Ris L) (p : Pc) (h : addC L p = 0) : bytesP (addCL L p) = bytesP L + roomC L p.off p.b := by
  have hs : Same L L := ⟨hr, List.Perm.refl _⟩
  rw [(hs.addL p).bytes, room_eq L p (by rw [← hs.addE]; exact h)]
  have := hs.room p.off p.b false
  unfold roomC
  rw [this]
/-- All bytes of all buffers. -/
def sumB : List Bu → Int
  | [] => 0
  | s :: S => s.by + sumB S
theorem sumB_perm {S T : List Bu} (h : S.Perm T) : sumB S = sumB T := by
  induction h with
  | nil => rfl
  | cons x _ ih => rw [sumB, sumB, ih]
  | swap x y l => simp only [sumB]; omega
  | trans _ _ h1 h2 => exact h1.trans h2
theorem by_nn (s : Bu) : 0 ≤ s.by := bytesP_nn _
theorem sumB_nn : ∀ S : List Bu, 0 ≤ sumB S
  | [] => Int.le_refl _
  | s :: S => by
    have := sumB_nn S
    have := by_nn s
    rw [sumB]; omega
theorem withoutM_none {key : List UInt8} {M : List (List UInt8 × Nat)} (h : ∀ p ∈ M, p.1 ≠ key) : withoutM key M = M := by
  unfold withoutM
  rw [List.filter_eq_self]
  intro p hp
  simpa using h p hp
theorem withoutM_perm {key : List UInt8} {M : List (List UInt8 × Nat)} {S R : List Bu} {s : Bu} (hM : M.Perm (S.map Bu.kg)) (hS : S.Perm (s :: R)) (hk : s.key = key) (nd : (s :: R).Pairwise (fun a b => a.key ≠ b.key)) : (withoutM key M).Perm (R.map Bu.kg) := by
  have h1 : M.Perm (s.kg :: R.map Bu.kg) := hM.trans (hS.map _)
  have h2 : (withoutM key M).Perm (withoutM key (s.kg :: R.map Bu.kg)) := h1.filter _
  refine h2.trans ?_
  have e : withoutM key (s.kg :: R.map Bu.kg) = withoutM key (R.map Bu.kg) := by
    unfold withoutM
    rw [List.filter_cons_of_neg]
    simp [Bu.kg, hk]
  rw [e, withoutM_none]
  intro p hp
  obtain ⟨x, hx, rfl⟩ := List.mem_map.1 hp
  exact fun h => (List.pairwise_cons.1 nd).1 x hx (hk.trans h.symm)
/-- A table within its bounds: its map holds all buffers that lie about, its number is the sum of their bytes. -/
structure Jv (w : World) (B0 t bm : Nat) (mb my wt : Int) (N : Nat) (S : List Bu) : Prop where
  tx : Tx w t bm (sumB S) mb my wt (S.map Bu.kg) S
  z : Tz B0 t bm S
  by_ : sumB S ≤ my
  n : (S.length : Int) ≤ mb
  l : ∀ s ∈ S, s.L.length ≤ N
theorem Jv.below {w w' : World} {B0 t bm N : Nat} {mb my wt : Int} {S : List Bu} (h : Jv w B0 t bm mb my wt N S) (hb : Below w.heap.size w w') : Jv w' B0 t bm mb my wt N S := ⟨h.tx.below hb, h.z, h.by_, h.n, h.l⟩
theorem Jv.mono {w : World} {B0 t bm N N' : Nat} {mb my wt : Int} {S : List Bu} (h : Jv w B0 t bm mb my wt N S) (hN : N ≤ N') : Jv w B0 t bm mb my wt N' S := ⟨h.tx, h.z, h.by_, h.n, fun s hs => Nat.le_trans (h.l s hs) hN⟩
end Go.Proofs.Ythdaclbgandmcaa

/-
  Add of layer 16's code, whatever comes: the table keeps its bounds. Conditions are each theorem's own.
-/
namespace Go.Proofs.Ythdaclbgandmcaa
open Go.RowKit Go.Shelf Go.Maps
theorem tellB_began (s : Bu) (off : Int) (head : List UInt8) : (tellB s off head).began = s.began := by unfold tellB; split <;> rfl
section
variable {w : World} {B0 t bm N : Nat} {mb my wt : Int} {S R : List Bu} {s : Bu} {key : List UInt8} {now : Int}
/-- What is known of the key's parts. -/
theorem Jv.parts (h : Jv w B0 t bm mb my wt N S) (hk : s.key = key) (hc : S.Perm (s :: R) ∨ (S = R ∧ Fresh s key now ∧ ∀ x ∈ S, x.key ≠ key)) :
    partsOf S key = piE s.L ∧ sumB S = bytesP (partsOf S key) + sumB R ∧ Ris (partsOf S key) ∧ (withoutM key (S.map Bu.kg)).Perm (R.map Bu.kg) ∧ (∀ x ∈ R, x ∈ S) ∧ R.length ≤ S.length ∧ s.L.length ≤ N := by
  rcases hc with hp | ⟨rfl, hf, hno⟩
  · have nd := hp.pairwise h.tx.nd (fun e => e.symm)
    have hm : s ∈ S := hp.mem_iff.2 (List.mem_cons_self ..)
    have e := partsOf_hit hp hk nd
    refine ⟨e, ?_, ?_, withoutM_perm (List.Perm.refl _) hp hk nd, fun x hx => hp.mem_iff.2 (List.mem_cons_of_mem _ hx), ?_, h.l s hm⟩
    · rw [sumB_perm hp, e]; rfl
    · rw [e]; exact (h.tx.bx s hm).hx.ris
    · rw [hp.length_eq]; simp
  · have e := partsOf_none hno
    refine ⟨by rw [e, hf.2.2.2.1]; rfl, by rw [e]; simp [bytesP], by rw [e]; exact Ris.nil, ?_, fun x hx => hx, Nat.le_refl _, by rw [hf.2.2.2.1]; exact Nat.zero_le _⟩
    rw [withoutM_none]
    intro p hp
    obtain ⟨x, hx, rfl⟩ := List.mem_map.1 hp
    exact hno x hx
theorem sum_part (hk : s ∈ S) : s.by ≤ sumB S := by
  obtain ⟨S1, S2, e⟩ := List.append_of_mem hk
  have : S.Perm (s :: (S1 ++ S2)) := by rw [e]; exact List.perm_middle
  rw [sumB_perm this, sumB]
  have := sumB_nn (S1 ++ S2)
  omega
set_option maxHeartbeats 1000000 in
theorem jadd_any (h : Jv w B0 t bm mb my wt N S) (hmy : my ≤ 10000000000) (key head : List UInt8) (off now : Int) (more : Bool) (A' : Option Addr) (c' : Nat) (b : List UInt8) (hA' : Arg w w.heap.size A' c' b) (hk : key.length ≤ maxLen) (hbl : b.length ≤ 1000000)
    (hoff : -9223372036854775808 ≤ off ∧ off ≤ 9223372036854775807) (hN : N + 1 ≤ 100000) (hS : S.length < 1000000) (hB0 : B0 ≤ w.heap.size) (P : Int → Prop) (hP : ∀ s ∈ S, P s.began) (hPn : P (min (max now 0) 1099511627776)) :
    Calls Try.prog 18 #[.pointer (some ⟨t, 0, none⟩), sq key, .int .i64 off, .bool more, .slice A' b.length c', sq head, .int .i64 now] w fun e w' =>
      ∃ a1 a2 a3 a4 S', e = .returned (.tuple #[a1, a2, a3, a4]) ∧ Jv w' B0 t bm mb my wt (N + 1) S' ∧ Below B0 w w' ∧ S'.length ≤ S.length + 1 ∧ ∀ s ∈ S', P s.began := by
  have hnn := sumB_nn S
  have hby := h.by_
  have htot : 0 ≤ sumB S ∧ sumB S ≤ 100000000000 := by omega
  have hL : ∀ s ∈ S, s.L.length + 1 ≤ 100000 := fun s hs => by have := h.l s hs; omega
  have hML : (S.map Bu.kg).length = S.length := by simp
  by_cases hF : Takes (S.map Bu.kg) S mb key
  · by_cases hroom : sumB S + roomC (partsOf S key) off b > my
    · refine (jadd_room h.tx (List.Perm.refl _) key head off now more A' c' b hA' hk hbl htot hF hroom).mono ?_
      rintro e w' ⟨rfl, hT, hb⟩
      exact ⟨_, _, _, _, S, rfl, (h.below hb).mono (Nat.le_succ _), hb.mono hB0, Nat.le_succ _, hP⟩
    · by_cases hadd : addC (partsOf S key) ⟨off, more, b⟩ = 0
      · cases hd : (endedP (addCL (partsOf S key) ⟨off, more, b⟩) && decide (gapsS 0 (addCL (partsOf S key) ⟨off, more, b⟩) = [])) with
        | false =>
          refine (jadd_open h.tx (List.Perm.refl _) key head off now more A' c' b hA' hk hbl hoff hL htot hF (by omega) B0 hB0 h.z hroom hadd hd).mono ?_
          rintro e w' ⟨rfl, s, R, A2, c2, L2, hT, hsk, hc, hL2, ll, hz, hb⟩
          obtain ⟨p1, p2, p3, p4, p5, p6, p7⟩ := h.parts hsk hc
          have hq := roomC_eq p3 ⟨off, more, b⟩ hadd
          have e1 : (tellB (s.with_ A2 c2 L2) off head).by = bytesP (partsOf S key) + roomC (partsOf S key) off b := by
            unfold Bu.by
            rw [tellB_L]
            show bytesP (piE L2) = _
            rw [hL2, hq]
          have e2 : sumB (tellB (s.with_ A2 c2 L2) off head :: R) = sumB S + roomC (partsOf S key) off b := by rw [sumB, e1]; omega
          have e3 : (tellB (s.with_ A2 c2 L2) off head).kg = (key, s.g) := by
            unfold Bu.kg
            rw [tellB_key, tellB_g, ← hsk]; rfl
          refine ⟨_, _, _, _, tellB (s.with_ A2 c2 L2) off head :: R, rfl, ⟨?_, hz, by rw [e2]; omega, ?_, ?_⟩, hb, by rw [List.length_cons]; omega, ?_⟩
          · rw [e2, List.map_cons, e3]
            exact hT.perm (p4.cons _) (List.Perm.refl _)
          · have hn := h.n
            rw [List.length_cons]
            rcases hc with hp | ⟨rfl, hf, hno⟩
            · have := hp.length_eq
              rw [List.length_cons] at this
              omega
            · rcases hF with ⟨x, hx, hxk⟩ | hge
              · exact absurd hxk (hno x hx)
              · rw [hML] at hge; omega
          · intro x hx
            rcases List.mem_cons.1 hx with rfl | hx
            · rw [tellB_L]
              show L2.length ≤ N + 1
              omega
            · have := h.l x (p5 x hx); omega
          · intro x hx
            rcases List.mem_cons.1 hx with rfl | hx
            · rw [tellB_began]
              show P s.began
              rcases hc with hp | ⟨_, hf, _⟩
              · exact hP s (hp.mem_iff.2 (List.mem_cons_self ..))
              · rw [hf.2.2.2.2.1]; exact hPn
            · exact hP x (p5 x hx)
        | true =>
          have hbp : 0 ≤ bytesP (addCL (partsOf S key) ⟨off, more, b⟩) ∧ bytesP (addCL (partsOf S key) ⟨off, more, b⟩) ≤ 1000000000000 := by
            refine ⟨bytesP_nn _, ?_⟩
            have hr : Ris (partsOf S key) ∧ bytesP (partsOf S key) ≤ sumB S := by
              unfold partsOf
              cases hf : S.find? (fun s => decide (s.key = key)) with
              | none => exact ⟨Ris.nil, hnn⟩
              | some x =>
                have hx := List.mem_of_find?_eq_some hf
                exact ⟨(h.tx.bx x hx).hx.ris, sum_part hx⟩
            rw [roomC_eq hr.1 ⟨off, more, b⟩ hadd]
            show bytesP (partsOf S key) + roomC (partsOf S key) off b ≤ _
            have := hr.2
            omega
          refine (jadd_done h.tx (List.Perm.refl _) key head off now more A' c' b hA' hk hbl hoff hL htot hF (by omega) B0 hB0 h.z hroom hadd hd hbp).mono ?_
          rintro e w' ⟨v, rfl, s, R, hT, hsk, hc, hz, hb, -⟩
          obtain ⟨p1, p2, p3, p4, p5, p6, p7⟩ := h.parts hsk hc
          have hq := roomC_eq p3 ⟨off, more, b⟩ hadd
          have e2 : sumB S + roomC (partsOf S key) off b - bytesP (addCL (partsOf S key) ⟨off, more, b⟩) = sumB R := by rw [hq]; show sumB S + roomC (partsOf S key) off b - (bytesP (partsOf S key) + roomC (partsOf S key) off b) = _; omega
          rw [e2] at hT
          have := h.n
          have hpn := bytesP_nn (partsOf S key)
          exact ⟨_, _, _, _, R, rfl, ⟨hT.perm p4 (List.Perm.refl _), hz, by omega, by omega, fun x hx => Nat.le_succ_of_le (h.l x (p5 x hx))⟩, hb, by omega, fun x hx => hP x (p5 x hx)⟩
      · have hbp : 0 ≤ bytesP (partsOf S key) ∧ bytesP (partsOf S key) ≤ 1000000000000 := by
          refine ⟨bytesP_nn _, ?_⟩
          unfold partsOf
          cases hf : S.find? (fun s => decide (s.key = key)) with
          | none => show (0 : Int) ≤ _; omega
          | some x =>
            have := sum_part (List.mem_of_find?_eq_some hf)
            show x.by ≤ _
            omega
        refine (jadd_err h.tx (List.Perm.refl _) key head off now more A' c' b hA' hk hbl hoff hL htot hF B0 hB0 h.z hroom _ rfl hadd hbp).mono ?_
        rintro e w' ⟨rfl, s, R, hT, hsk, hc, hz, hb⟩
        obtain ⟨p1, p2, p3, p4, p5, p6, p7⟩ := h.parts hsk hc
        have e2 : sumB S - bytesP (partsOf S key) = sumB R := by omega
        rw [e2] at hT
        have := h.n
        exact ⟨_, _, _, _, R, rfl, ⟨hT.perm p4 (List.Perm.refl _), hz, by omega, by omega, fun x hx => Nat.le_succ_of_le (h.l x (p5 x hx))⟩, hb, by omega, fun x hx => hP x (p5 x hx)⟩
  · have hno : ∀ p ∈ S.map Bu.kg, p.1 ≠ key := fun p hp e => by
      obtain ⟨x, hx, rfl⟩ := List.mem_map.1 hp
      exact hF (.inl ⟨x, hx, e⟩)
    have hge : ((S.map Bu.kg).length : Int) ≥ mb := by
      by_cases hg : ((S.map Bu.kg).length : Int) ≥ mb
      · exact hg
      · exact absurd (.inr hg) hF
    refine (jadd_full h.tx key head off now more _ hk hno hge).mono ?_
    rintro e w' ⟨rfl, hT, hb⟩
    exact ⟨_, _, _, _, S, rfl, (h.below hb).mono (Nat.le_succ _), hb.mono hB0, Nat.le_succ _, hP⟩
end
end Go.Proofs.Ythdaclbgandmcaa

/-
  Keys of layer 16's code: the keys of the map, sorted. Conditions are each theorem's own.
-/
namespace Go.Proofs
open Go.RowKit Go.Maps Go.Sort Go.Shelf
shelf_lay_g SlLaysZ.n7 Ggz 7 at Try 61 as Try.keysA
shelf_lay_g SlLaysZ.n6 Ggz 6 at Try 60 as Try.sortedA
shelf_lay_g SlLaysM.n6 Slgm 6 at Try 47 as Try.sortA
theorem Try.sortsA (m : Nat) : AnyZ.SortsIn Try.prog Try.sortedA_ren Fence.wide m :=
  ⟨fun blk off cap ss W hH hblk hsz => callsIn_wide.2 (AnyM.slices_Sort_string Try.sortA blk off cap ss W hH hblk hsz),
   fun p cap W => callsIn_wide.2 (AnyM.slices_Sort_string_none Try.sortA p cap W)⟩
namespace Ythdaclbgandmcaa
set_option maxHeartbeats 1000000 in
set_option maxRecDepth 100000 in
theorem jkeys {w : World} {t bm : Nat} {tot mb my wt : Int} {M : List (List UInt8 × Nat)} {S : List Bu} (h : Tx w t bm tot mb my wt M S) (hM : M.length ≤ 1000000) :
    Calls Try.prog 24 #[.pointer (some ⟨t, 0, none⟩)] w fun e w' => ∃ (v : Value) (ss : List (List UInt8)), e = .returned v ∧ ss.Perm (M.map (·.1)) ∧
      w'.ownsRow w.heap.size 9 1 v ss.length ((ss.mergeSort (fun x y => decide (x ≤ y))).map encStr) ∧ (v = .slice none 0 0 ↔ ss = []) ∧ Below w.heap.size w w' := by
  have k0 := h.c0
  obtain ⟨es, hown, hp⟩ := h.map
  have hz := en_size hp
  have hmax : Maps.size (DataW.map es) ≤ maxLen := by rw [hz]; unfold maxLen; omega
  have hbytes : Maps.size (DataW.map es) * 16 ≤ 140737488355328 := by rw [hz]; omega
  have HKS : Hid (∀ ss : List (List UInt8), ss.Perm (strKeys (DataW.map es)) → ss.Perm (M.map (·.1))) := Lib.hid (fun ss hs => by
    refine hs.trans ?_
    have e1 : strKeys (DataW.map es) = es.map (fun p => strOf p.1) := rfl
    rw [e1]
    refine (hp.map _).trans ?_
    rw [List.map_map]
    exact List.Perm.of_eq rfl)
  clear h hp
  refine (callsIn_wide (n := 6)).1 ?_
  have hbl := hown.lt
  have hseq : SeqGives Fence.wide 2 Try.prog 102 #[.pointer (some ⟨w.heap.size, 0, none⟩)] encStr (fun ss => ss.Perm (strKeys (DataW.map es))) (Maps.size (DataW.map es)) (w.alloc (.cells #[.map (some bm)] 87)) :=
    AnyZ.keys_gives (ρ := Try.keysA_ren) { Try.keysA with } Fence.wide _ trivial rfl (by omega) w.heap.size bm M.length (DataW.map es) _ (by simp) (by simp) (by
      obtain ⟨es', clock, hb, Ft, hs, hD⟩ := hown
      exact ⟨es', clock, (Below.heap_alloc _ _ bm hbl).trans hb, Ft, hs, hD⟩)
  have cK : ∀ mb W, CallsIn Fence.wide 5 Try.prog 61 #[.map mb] W fun e w' => e = .returned (.func (.func 102) #[] #[.pointer (some ⟨W.heap.size, 0, none⟩)]) ∧ w' = W.alloc (.cells #[.map mb] 87) := fun mb W => AnyZ.keys_in Try.keysA Fence.wide 5 trivial rfl mb W
  have cS := AnyZ.sorted_in Try.sortedA Fence.wide 5 trivial trivial trivial trivial rfl (by omega) (Try.sortsA _) (enters_of Try.func47 (by kernel_rfl) rfl) 102 #[.pointer (some ⟨w.heap.size, 0, none⟩)] trivial (enters_of Try.func102 (by kernel_rfl) rfl) _ _ hmax hbytes _ hseq
  change CallsIn _ _ Try.prog 60 _ _ _ at cS
  have hfK : Fence.wide.fn 61 := trivial
  have hfS : Fence.wide.fn 60 := trivial
  have hfM : Fence.wide.fn 45 := trivial
  refine callsIn_of_wp Try.func24 rfl trivial ?_ rfl
  simp only [Try.ntmps24, List.size_toArray, List.length_cons, List.length_nil, Nat.reduceAdd, Nat.reduceSub, Array.replicate_succ, Array.replicate_zero, List.push_toArray, List.append_toArray, List.nil_append, List.cons_append]
  gi_wp2_with (first
    | (gi_at_call 45; refine (callsIn_wide.2 (jmade t bm _ k0)).mono ?_; rintro e w1 ⟨rfl, rfl⟩)
    | (gi_at_call 61; refine (cK _ _).mono ?_; rintro e w' ⟨rfl, rfl⟩)
    | (gi_at_call 60; refine cS.mono ?_; rintro e w' ⟨v, ss, rfl, hS, hrow, hnil, hb⟩))
  go_ret
  exact ⟨v, ss, rfl, HKS.out ss hS, ownsRow_base_a hrow (by simp), hnil, ((Below.refl _ w).alloc (Nat.le_refl _) _).trans (hb.mono (by simp))⟩
end Ythdaclbgandmcaa
end Go.Proofs

/-
  Keys by their number; calls that are not far. Conditions are each theorem's own.
-/
namespace Go.Proofs.Ythdaclbgandmcaa
open Go.RowKit Go.Shelf Go.Maps
theorem jkeys_len {w : World} {t bm : Nat} {tot mb my wt : Int} {M : List (List UInt8 × Nat)} {S : List Bu} (h : Tx w t bm tot mb my wt M S) (hM : M.length ≤ 1000000) :
    Calls Try.prog 24 #[.pointer (some ⟨t, 0, none⟩)] w fun e w' => (∃ A c, e = .returned (.slice A M.length c)) ∧ Below w.heap.size w w' := by
  refine (jkeys h hM).mono ?_
  rintro e w' ⟨v, ss, rfl, hp, ho, -, hb⟩
  have hl : ss.length = M.length := by rw [hp.length_eq, List.length_map]
  refine ⟨?_, hb⟩
  rw [← hl]
  rcases ho.2 with ⟨e1, h0⟩ | ⟨g, cap, cur, e1, _⟩
  · rw [e1, h0]; exact ⟨none, 0, rfl⟩
  · rw [e1]; exact ⟨_, _, rfl⟩
theorem farD_no : ∀ {l : List Dx} {i : Nat} {n : Int}, farD i n l = false → l.length + i ≤ 60 + (if l = [] then i else 0) ∧ (∀ x ∈ l, x.b.length ≤ 1000)
  | [], i, n, _ => ⟨by simp, fun x h => (by cases h)⟩
  | x :: l, i, n, h => by
    rw [farD] at h
    split at h
    · cases h
    · rename_i hc
      simp only [Bool.or_eq_true, Bool.and_eq_true, decide_eq_true_eq, not_or] at hc
      obtain ⟨⟨⟨⟨h1, h2⟩, _⟩, _⟩, _⟩ := hc
      obtain ⟨i1, i2⟩ := farD_no h
      refine ⟨?_, fun y hy => ?_⟩
      · rw [if_neg (by simp)]
        rw [List.length_cons]
        split at i1
        · rename_i hl; subst hl; simp; omega
        · omega
      · rcases List.mem_cons.1 hy with rfl | hy
        · omega
        · exact i2 y hy
end Go.Proofs.Ythdaclbgandmcaa
