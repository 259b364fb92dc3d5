/-
  Contracts and lemmas on which the proofs of this seat stand (several texts in one). Conditions are each theorem's own.
-/
import Derived.Test.YtghbliabmecbcaaMa11
import Derived.Test.YtghbliabmecbcaaMa9

/-
  Add of layer 16's code, with just its own blocks written. Conditions are each theorem's own.
-/
namespace Go.Proofs.Ytghbliabmecbcaa
open Go.RowKit Go.Shelf Go.Maps
/-- Blocks that may be written: the table's own are among them. -/
def TzN (NB : Nat → Prop) (t bm : Nat) (S : List Bu) : Prop := NB t ∧ NB bm ∧ ∀ s ∈ S, NB s.g ∧ NB s.h ∧ ∀ k, s.v.ownBlock = some k → NB k
theorem find_zN {NB : Nat → Prop} {t bm : Nat} {S R : List Bu} {s : Bu} {key : List UInt8} {now : Int} {w w' : World} (h : (S.Perm (s :: R) ∧ w = w') ∨ (S = R ∧ Fresh s key now ∧ w.heap.size ≤ s.g ∧ w.heap.size ≤ s.h ∧ ∀ x ∈ S, x.key ≠ key)) (hB : ∀ i, w.heap.size ≤ i → NB i) (hz : TzN NB t bm S) : TzN NB t bm (s :: R) := by
  refine ⟨hz.1, hz.2.1, fun x hx => ?_⟩
  rcases h with ⟨hp, _⟩ | ⟨rfl, hf, h1, h2, _⟩
  · exact hz.2.2 x (hp.mem_iff.2 hx)
  · rcases List.mem_cons.1 hx with rfl | hx
    · refine ⟨hB _ h1, hB _ h2, fun k hk => ?_⟩
      unfold Bu.v at hk
      rw [hf.2.1] at hk
      cases hk
    · exact hz.2.2 x hx
theorem TzN.with_ {NB : Nat → Prop} {t bm : Nat} {R : List Bu} {s : Bu} {A2 : Option Addr} {c2 : Nat} {L2 : List XP} {w : World} (hz : TzN NB t bm (s :: R)) (hB : ∀ i, w.heap.size ≤ i → NB i) (ob : ∀ k, (Value.slice A2 L2.length c2).ownBlock = some k → s.v.ownBlock = some k ∨ w.heap.size ≤ k) : TzN NB t bm (s.with_ A2 c2 L2 :: R) := by
  refine ⟨hz.1, hz.2.1, fun x hx => ?_⟩
  obtain ⟨h1, h2, h3⟩ := hz.2.2 s (List.mem_cons_self ..)
  rcases List.mem_cons.1 hx with rfl | hx
  · refine ⟨h1, h2, fun k hk => ?_⟩
    rcases ob k hk with h | h
    · exact h3 k h
    · exact hB k h
  · exact hz.2.2 x (List.mem_cons_of_mem _ hx)
theorem TzN.tell {NB : Nat → Prop} {t bm : Nat} {R : List Bu} {s : Bu} {off : Int} {head : List UInt8} (hz : TzN NB t bm (s :: R)) : TzN NB t bm (tellB s off head :: R) := by
  refine ⟨hz.1, hz.2.1, fun x hx => ?_⟩
  obtain ⟨h1, h2, h3⟩ := hz.2.2 s (List.mem_cons_self ..)
  rcases List.mem_cons.1 hx with rfl | hx
  · rw [tellB_g, tellB_h, tellB_v]; exact ⟨h1, h2, h3⟩
  · exact hz.2.2 x (List.mem_cons_of_mem _ hx)
theorem KNt {NB : Nat → Prop} {a b c : World} (h : Kept NB a b) (k : Kept NB b c) : Kept NB a c := h.trans k (fun _ _ e => e)
def DoneLeavesN (w w' : World) (t bm : Nat) (tot mb my wt : Int) (M : List (List UInt8 × Nat)) (S : List Bu) (key : List UInt8) (off now : Int) (more : Bool) (b : List UInt8) (NB : Nat → Prop) (v : Value) : Prop :=
  ∃ (s : Bu) (R : List Bu), Tx w' t bm (tot + roomC (partsOf S key) off b - bytesP (addCL (partsOf S key) ⟨off, more, b⟩)) mb my wt (withoutM key M) R ∧ s.key = key ∧
    (S.Perm (s :: R) ∨ (S = R ∧ Fresh s key now ∧ ∀ x ∈ S, x.key ≠ key)) ∧ TzN NB t bm R ∧ Kept NB w w' ∧
    w'.ownsRow w.heap.size 5 1 v (catP (addCL (partsOf S key) ⟨off, more, b⟩)).length (row (catP (addCL (partsOf S key) ⟨off, more, b⟩)))
def AddLeavesN (w w' : World) (t bm : Nat) (tot mb my wt : Int) (M : List (List UInt8 × Nat)) (S : List Bu) (key head : List UInt8) (off now : Int) (more : Bool) (b : List UInt8) (NB : Nat → Prop) : Prop :=
  ∃ (s : Bu) (R : List Bu) (A2 : Option Addr) (c2 : Nat) (L2 : List XP), Tx w' t bm (tot + roomC (partsOf S key) off b) mb my wt ((key, s.g) :: withoutM key M) (tellB (s.with_ A2 c2 L2) off head :: R) ∧ s.key = key ∧
    (S.Perm (s :: R) ∨ (S = R ∧ Fresh s key now ∧ ∀ x ∈ S, x.key ≠ key)) ∧ piE L2 = addCL (partsOf S key) ⟨off, more, b⟩ ∧ L2.length ≤ s.L.length + 1 ∧ TzN NB t bm (tellB (s.with_ A2 c2 L2) off head :: R) ∧ Kept NB w w'
def ErrLeavesN (w w' : World) (t bm : Nat) (tot mb my wt : Int) (M : List (List UInt8 × Nat)) (S : List Bu) (key : List UInt8) (now : Int) (NB : Nat → Prop) : Prop :=
  ∃ (s : Bu) (R : List Bu), Tx w' t bm (tot - bytesP (partsOf S key)) mb my wt (withoutM key M) R ∧ s.key = key ∧ (S.Perm (s :: R) ∨ (S = R ∧ Fresh s key now ∧ ∀ x ∈ S, x.key ≠ key)) ∧ TzN NB t bm R ∧ Kept NB w w'
section
variable {w : World} {t bm : Nat} {tot mb my wt : Int} {M : List (List UInt8 × Nat)} {S : List Bu}
set_option maxRecDepth 100000 in
set_option maxHeartbeats 2000000 in
theorem kadd_open (hT0 : Tx w t bm tot mb my wt M S) (hMS : M.Perm (S.map Bu.kg)) (key head : List UInt8) (off now : Int) (more : Bool) (A' : Option Addr) (c' : Nat) (b : List UInt8) (hA' : Arg w w.heap.size A' c' b) (hk : key.length ≤ maxLen) (hbl : b.length ≤ 1000000)
    (hoff : -9223372036854775808 ≤ off ∧ off ≤ 9223372036854775807) (hL : ∀ s ∈ S, s.L.length + 1 ≤ 100000) (htot : 0 ≤ tot ∧ tot ≤ 100000000000) (hf : Takes M S mb key) (hM : M.length < 1000000) (NB : Nat → Prop) (hB0 : ∀ i, w.heap.size ≤ i → NB i) (hZ : TzN NB t bm S)
    (hroom : ¬ tot + roomC (partsOf S key) off b > my) (hadd : addC (partsOf S key) ⟨off, more, b⟩ = 0)
    (hnd : (endedP (addCL (partsOf S key) ⟨off, more, b⟩) && decide (gapsS 0 (addCL (partsOf S key) ⟨off, more, b⟩) = [])) = false) :
    Calls Try.prog 16 #[.pointer (some ⟨t, 0, none⟩), sq key, .int .i64 off, .bool more, .slice A' b.length c', sq head, .int .i64 now] w fun e w' =>
      e = .returned (.tuple #[.string ByteArray.empty, .slice none 0 0, .bool false, .int .i64 0]) ∧ AddLeavesN w w' t bm tot mb my wt M S key head off now more b NB := by
  have k0 := hT0.c0
  obtain ⟨RM, hRM⟩ : ∃ RM, RM = roomC (partsOf S key) off b := ⟨_, rfl⟩
  have hrm0 : 0 ≤ RM ∧ RM ≤ 1000000 := by rw [hRM]; unfold roomC; split <;> omega
  rw [← hRM] at hroom
  have HW1 : Hid (IntKind.i64.wrap (tot + RM) = tot + RM) := Lib.hid (IntWalk.i64_in _ (by omega))
  have HROOM : Hid (tot + RM ≤ my) := Lib.hid (by omega)
  have HRM := Lib.hid hRM
  have hT := Lib.hid hT0
  have HMS := Lib.hid hMS
  have HF := Lib.hid hf
  have HARG := Lib.hid hA'
  have HADD := Lib.hid hadd
  have HND := Lib.hid hnd
  have HL := Lib.hid hL
  have HZ := Lib.hid hZ
  clear hT0 hMS hf hA' hadd hnd hL hroom hRM hZ
  unfold sq at *
  go_enter Try.func16, Try.ntmps16
  go_upto_region 7 with (first
    | (go_at_call 36; refine (jmade t bm _ k0).mono ?_; rintro e w1 ⟨rfl, rfl⟩)
    | (go_at_call 41; go_loud (refine (jroom s.h s.A s.c s.L off A' b c' _ (HT1.out.bx s (List.mem_cons_self ..)).hx ((HARG.out.below b1).more b1.size)).mono ?_; rintro e w2 ⟨rfl, b2⟩; rw [← HRV.out]))
    | (go_at_call 40; go_loud (refine (jfind_ok hT.out HMS.out key now hk HF.out).mono ?_; rintro e w1 ⟨s, R, rfl, hT1, hsk, b1, hcs⟩; have HT1 := Lib.hid hT1; have HSK := Lib.hid hsk; have HCS := Lib.hid hcs; have kg1 : w1.cell? ⟨s.g, 0, none⟩ = some (.pointer (some ⟨s.h, 0, none⟩)) := cells_at (i := 0) (HT1.out.bx s (List.mem_cons_self ..)).obj rfl; clear hT1 hsk hcs; have HPO := Lib.hid (partsOf_find HCS.out HSK.out HT1.out.nd); have HRV := Lib.hid (HRM.out.trans (congrArg (fun z => roomC z off b) HPO.out)))))
  have HT2 := Lib.hid (HT1.out.below b2)
  have ht := HT2.out.obj
  have htz := heap_lt ht
  refine wp_region_held_drew (S := fun w' => Below w2.heap.size w2 w') (by kernel_rfl) (Below.refl _ w2).drew (fun hS => ?_)
  refine held_pure (i := 0) (oi := ⟨some 44, _, _, _, _, _⟩) rfl (by kernel_rfl) (by kernel_rfl) (by kernel_rfl) (fun _ _ _ h => h) (by rfl) (v := ?_) (fun w hSw => ?_) hS (fun hS => ?_)
  rotate_left
  · go_simp; try with_reducible rfl
  try go_frame
  refine held_pure (i := 1) (oi := ⟨some 45, _, _, _, _, _⟩) rfl (by kernel_rfl) (by kernel_rfl) (by kernel_rfl) (fun _ _ _ h => h) (by rfl) (v := ?_) (fun w hSw => ?_) hS (fun hS => ?_)
  rotate_left
  · go_simp; try with_reducible rfl
  try go_frame
  refine held_pure (i := 2) (oi := ⟨some 46, _, _, _, _, _⟩) rfl (by kernel_rfl) (by kernel_rfl) (by kernel_rfl) (fun _ _ _ h => h) (by rfl) (v := ?_) (fun w hSw => ?_) hS (fun hS => ?_)
  rotate_left
  · go_simp; try with_reducible rfl
  try go_frame
  refine held_pure (i := 3) (oi := ⟨some 47, _, _, _, _, _⟩) rfl (by kernel_rfl) (by kernel_rfl) (by kernel_rfl) (fun _ _ _ h => h) (by rfl) (fun w hSw => run_load_int rfl rfl (cells_at (i := 1) ((hSw.block t htz).trans ht) rfl)) hS (fun hS => ?_)
  try go_frame
  refine held_pure (i := 4) (oi := ⟨some 48, _, _, _, _, _⟩) rfl (by kernel_rfl) (by kernel_rfl) (by kernel_rfl) (fun _ _ _ h => h) (by rfl) (v := ?_) (fun w hSw => ?_) hS (fun hS => ?_)
  rotate_left
  · go_simp; try with_reducible rfl
  try go_frame
  refine held_pure (i := 5) (oi := ⟨some 49, _, _, _, _, _⟩) rfl (by kernel_rfl) (by kernel_rfl) (by kernel_rfl) (fun _ _ _ h => h) (by rfl) (v := .int .i64 (tot + RM)) (fun w hSw => by go_simp; try exact HW1.out) hS (fun hS => ?_)
  try go_frame
  refine held_pure (i := 6) (oi := ⟨some 50, _, _, _, _, _⟩) rfl (by kernel_rfl) (by kernel_rfl) (by kernel_rfl) (fun _ _ _ h => h) (by rfl) (v := ?_) (fun w hSw => ?_) hS (fun hS => ?_)
  rotate_left
  · go_simp; try with_reducible rfl
  try go_frame
  refine held_pure (i := 7) (oi := ⟨some 51, _, _, _, _, _⟩) rfl (by kernel_rfl) (by kernel_rfl) (by kernel_rfl) (fun _ _ _ h => h) (by rfl) (v := ?_) (fun w hSw => ?_) hS (fun hS => ?_)
  rotate_left
  · go_simp; try with_reducible rfl
  try go_frame
  refine held_pure (i := 8) (oi := ⟨some 52, _, _, _, _, _⟩) rfl (by kernel_rfl) (by kernel_rfl) (by kernel_rfl) (fun _ _ _ h => h) (by rfl) (v := ?_) (fun w hSw => ?_) hS (fun hS => ?_)
  rotate_left
  · go_simp; try with_reducible rfl
  try go_frame
  refine held_pure (i := 9) (oi := ⟨some 53, _, _, _, _, _⟩) rfl (by kernel_rfl) (by kernel_rfl) (by kernel_rfl) (fun _ _ _ h => h) (by rfl) (fun w hSw => run_load_int rfl rfl (cells_at (i := 3) ((hSw.block t htz).trans ht) rfl)) hS (fun hS => ?_)
  try go_frame
  refine held_pure (i := 10) (oi := ⟨some 54, _, _, _, _, _⟩) rfl (by kernel_rfl) (by kernel_rfl) (by kernel_rfl) (fun _ _ _ h => h) (by rfl) (v := .bool false) (fun w hSw => by go_simp; try (exact HROOM.out)) hS (fun hS => ?_)
  try go_frame
  refine wpAnyH_done (by kernel_rfl) ?_ _
  have b3 := hS
  generalize w2.drew = w3 at *
  have HT3 := Lib.hid (HT2.out.below b3)
  have hb3 := HT3.out.bx s (List.mem_cons_self ..)
  have kg3 : w3.cell? ⟨s.g, 0, none⟩ = some (.pointer (some ⟨s.h, 0, none⟩)) := cells_at (i := 0) hb3.obj rfl
  have HX3 := Lib.hid hb3.hx
  have b13 : Below w.heap.size w w3 := (b1.trans (b2.mono b1.size)).trans (b3.mono (Nat.le_trans b1.size b2.size))
  have HAR3 := Lib.hid ((HARG.out.below b13).more b13.size)
  have HE3 : Hid (addC (piE s.L) ⟨off, more, b⟩ = 0) := Lib.hid (by rw [← HPO.out]; exact HADD.out)
  have hsl : s.L.length + 1 ≤ 100000 := by
    rcases HCS.out with ⟨hp, _⟩ | ⟨_, hfr, _⟩
    · exact HL.out s (hp.mem_iff.2 (List.mem_cons_self ..))
    · rw [hfr.2.2.2.1]; decide
  clear hS hb3 kg1 ht htz
  have HZ3 := Lib.hid (find_zN HCS.out hB0 HZ.out)
  have HS3 : Hid (∀ i, (i = s.h ∨ s.v.ownBlock = some i) → NB i) := Lib.hid (fun i hi => by
    obtain ⟨_, h2, h3⟩ := HZ3.out.2.2 s (List.mem_cons_self ..)
    rcases hi with rfl | hi
    · exact h2
    · exact h3 i hi)
  have hw1 := HW1.out
  go_wp2_with (first
    | (go_at_call 42; go_loud (refine (hcadd s.h s.A s.c s.L off more A' b c' _ HX3.out HAR3.out hbl hoff hsl).mono ?_; rintro e w4 ⟨rfl, A2, c2, L2, hx4, hp4, k4, ob4, ln4⟩; rw [HE3.out]; have HT4 := Lib.hid (HT3.out.add hx4 k4 ob4); have HZ4 := Lib.hid (HZ3.out.with_ (fun i hi => hB0 i (Nat.le_trans b13.size hi)) ob4); have HB4 := Lib.hid (k4.mono (T := NB) (fun i _ hi => HS3.out i hi)); have kt4 := HT4.out.c0; have HP4 := Lib.hid hp4; obtain ⟨es4, hown4, hpe4⟩ := HT4.out.map; obtain ⟨es5, hput5, hpe5⟩ := en_putW hpe4 (key, s.g); have HPUT := Lib.hid hput5; have HPE := Lib.hid hpe5; clear hx4 hp4 k4 ob4 hpe4 hput5 hpe5))
    | (at_mapUpdate; go_loud (refine wpList_mapUpdate_in _ rfl _ _ _ 69 rfl 9 72 klaw Try.underlying69 ptrElem bm M.length _ rfl hown4 (by unfold maxLen; omega) _ _ _ rfl rfl (kkey key hk) (.lit (.int .i64 (s.g : Int))) [] rfl ?_; intro w5 hown5 hturn5; rw [HPUT.out] at hown5; have HT5 := Lib.hid (HT4.out.put HPE.out hown5 hturn5); have kt5 := HT5.out.c1; have ft5 := heap_frozen HT5.out.obj 1; have HT6 := Lib.hid (HT5.out.setTot (tot + RM)); have HB5 := Lib.hid ((Kept.of_turned hturn5).mono (T := NB) (fun k _ hk => by rw [hk]; exact HZ.out.2.1)); have HK6 := Lib.hid (Kept.setCell w5 t 1 (.int .i64 (tot + RM))); clear hown4 hown5 hturn5))
    | (go_at_call 43; go_loud (refine (jtell (s.with_ A2 c2 L2) (HT6.out.bx _ (List.mem_cons_self ..)) off head).mono ?_; rintro e w7 ⟨rfl, hb7, k7⟩; have HT7 := Lib.hid (HT6.out.tell hb7 k7); have HX7 : Hid (Hx w7 s.h A2 c2 L2) := Lib.hid (tellB_hx (s := s.with_ A2 c2 L2) hb7); have kg7 : w7.cell? ⟨s.g, 0, none⟩ = some (.pointer (some ⟨s.h, 0, none⟩)) := tellB_c0 (s := s.with_ A2 c2 L2) hb7; have HK7 := Lib.hid k7; clear hb7 k7))
    | (go_at_call 44; go_loud (refine (hcdone s.h A2 c2 L2 _ HX7.out).mono ?_; rintro e w8 ⟨v8, rfl, m8⟩; have HND8 : Hid ((endedP (piE L2) && decide (gapsS 0 (piE L2) = [])) = false) := Lib.hid (by rw [HP4.out, ← HPO.out]; exact HND.out); rw [HND8.out]; have HM8 := Lib.hid m8; clear m8)))
  obtain ⟨_, _, _, _, _, y8⟩ := made_shape HM8.out
  have B6 := HK6.out.mono (T := NB) (fun k _ hk => by rw [hk]; exact HZ.out.1)
  have B7 := HK7.out.mono (T := NB) (fun k _ hk => by rw [hk]; exact (HZ3.out.2.2 s (List.mem_cons_self ..)).1)
  refine bodyPost_ret (results_tmp4 rfl _ _ _) rfl ⟨rfl, s, R, A2, c2, L2, ?_, HSK.out, ?_, ?_, ln4, HZ4.out.tell, ?_⟩
  · rw [← HRM.out]; exact HT7.out.below y8
  · rcases HCS.out with ⟨h, _⟩ | ⟨h1, h2, _, _, h5⟩
    · exact .inl h
    · exact .inr ⟨h1, h2, h5⟩
  · rw [HP4.out, HPO.out]
  · exact KNt (KNt (KNt (KNt (KNt (Kept.of_below b13) HB4.out) HB5.out) B6) B7) (Kept.of_below y8)
set_option maxRecDepth 100000 in
set_option maxHeartbeats 2000000 in
theorem kadd_done (hT0 : Tx w t bm tot mb my wt M S) (hMS : M.Perm (S.map Bu.kg)) (key head : List UInt8) (off now : Int) (more : Bool) (A' : Option Addr) (c' : Nat) (b : List UInt8) (hA' : Arg w w.heap.size A' c' b) (hk : key.length ≤ maxLen) (hbl : b.length ≤ 1000000)
    (hoff : -9223372036854775808 ≤ off ∧ off ≤ 9223372036854775807) (hL : ∀ s ∈ S, s.L.length + 1 ≤ 100000) (htot : 0 ≤ tot ∧ tot ≤ 100000000000) (hf : Takes M S mb key) (hM : M.length < 1000000) (NB : Nat → Prop) (hB0 : ∀ i, w.heap.size ≤ i → NB i) (hZ : TzN NB t bm S)
    (hroom : ¬ tot + roomC (partsOf S key) off b > my) (hadd : addC (partsOf S key) ⟨off, more, b⟩ = 0)
    (hnd : (endedP (addCL (partsOf S key) ⟨off, more, b⟩) && decide (gapsS 0 (addCL (partsOf S key) ⟨off, more, b⟩) = [])) = true) (hbp : 0 ≤ bytesP (addCL (partsOf S key) ⟨off, more, b⟩) ∧ bytesP (addCL (partsOf S key) ⟨off, more, b⟩) ≤ 1000000000000) :
    Calls Try.prog 16 #[.pointer (some ⟨t, 0, none⟩), sq key, .int .i64 off, .bool more, .slice A' b.length c', sq head, .int .i64 now] w fun e w' =>
      ∃ v, e = .returned (.tuple #[sq (headOf S key off head), v, .bool true, .int .i64 0]) ∧ DoneLeavesN w w' t bm tot mb my wt M S key off now more b NB v := by
  have k0 := hT0.c0
  obtain ⟨RM, hRM⟩ : ∃ RM, RM = roomC (partsOf S key) off b := ⟨_, rfl⟩
  have hrm0 : 0 ≤ RM ∧ RM ≤ 1000000 := by rw [hRM]; unfold roomC; split <;> omega
  rw [← hRM] at hroom
  have HW1 : Hid (IntKind.i64.wrap (tot + RM) = tot + RM) := Lib.hid (IntWalk.i64_in _ (by omega))
  have HROOM : Hid (tot + RM ≤ my) := Lib.hid (by omega)
  have HRM := Lib.hid hRM
  have hT := Lib.hid hT0
  have HMS := Lib.hid hMS
  have HF := Lib.hid hf
  have HARG := Lib.hid hA'
  have HADD := Lib.hid hadd
  have HND := Lib.hid hnd
  have HBP := Lib.hid hbp
  have HL := Lib.hid hL
  have HZ := Lib.hid hZ
  clear hT0 hMS hf hA' hadd hnd hbp hL hroom hRM hZ
  unfold sq at *
  go_enter Try.func16, Try.ntmps16
  go_upto_region 7 with (first
    | (go_at_call 36; refine (jmade t bm _ k0).mono ?_; rintro e w1 ⟨rfl, rfl⟩)
    | (go_at_call 41; go_loud (refine (jroom s.h s.A s.c s.L off A' b c' _ (HT1.out.bx s (List.mem_cons_self ..)).hx ((HARG.out.below b1).more b1.size)).mono ?_; rintro e w2 ⟨rfl, b2⟩; rw [← HRV.out]))
    | (go_at_call 40; go_loud (refine (jfind_ok hT.out HMS.out key now hk HF.out).mono ?_; rintro e w1 ⟨s, R, rfl, hT1, hsk, b1, hcs⟩; have HT1 := Lib.hid hT1; have HSK := Lib.hid hsk; have HCS := Lib.hid hcs; have kg1 : w1.cell? ⟨s.g, 0, none⟩ = some (.pointer (some ⟨s.h, 0, none⟩)) := cells_at (i := 0) (HT1.out.bx s (List.mem_cons_self ..)).obj rfl; clear hT1 hsk hcs; have HPO := Lib.hid (partsOf_find HCS.out HSK.out HT1.out.nd); have HRV := Lib.hid (HRM.out.trans (congrArg (fun z => roomC z off b) HPO.out)))))
  have HT2 := Lib.hid (HT1.out.below b2)
  have ht := HT2.out.obj
  have htz := heap_lt ht
  refine wp_region_held_drew (S := fun w' => Below w2.heap.size w2 w') (by kernel_rfl) (Below.refl _ w2).drew (fun hS => ?_)
  refine held_pure (i := 0) (oi := ⟨some 44, _, _, _, _, _⟩) rfl (by kernel_rfl) (by kernel_rfl) (by kernel_rfl) (fun _ _ _ h => h) (by rfl) (v := ?_) (fun w hSw => ?_) hS (fun hS => ?_)
  rotate_left
  · go_simp; try with_reducible rfl
  try go_frame
  refine held_pure (i := 1) (oi := ⟨some 45, _, _, _, _, _⟩) rfl (by kernel_rfl) (by kernel_rfl) (by kernel_rfl) (fun _ _ _ h => h) (by rfl) (v := ?_) (fun w hSw => ?_) hS (fun hS => ?_)
  rotate_left
  · go_simp; try with_reducible rfl
  try go_frame
  refine held_pure (i := 2) (oi := ⟨some 46, _, _, _, _, _⟩) rfl (by kernel_rfl) (by kernel_rfl) (by kernel_rfl) (fun _ _ _ h => h) (by rfl) (v := ?_) (fun w hSw => ?_) hS (fun hS => ?_)
  rotate_left
  · go_simp; try with_reducible rfl
  try go_frame
  refine held_pure (i := 3) (oi := ⟨some 47, _, _, _, _, _⟩) rfl (by kernel_rfl) (by kernel_rfl) (by kernel_rfl) (fun _ _ _ h => h) (by rfl) (fun w hSw => run_load_int rfl rfl (cells_at (i := 1) ((hSw.block t htz).trans ht) rfl)) hS (fun hS => ?_)
  try go_frame
  refine held_pure (i := 4) (oi := ⟨some 48, _, _, _, _, _⟩) rfl (by kernel_rfl) (by kernel_rfl) (by kernel_rfl) (fun _ _ _ h => h) (by rfl) (v := ?_) (fun w hSw => ?_) hS (fun hS => ?_)
  rotate_left
  · go_simp; try with_reducible rfl
  try go_frame
  refine held_pure (i := 5) (oi := ⟨some 49, _, _, _, _, _⟩) rfl (by kernel_rfl) (by kernel_rfl) (by kernel_rfl) (fun _ _ _ h => h) (by rfl) (v := .int .i64 (tot + RM)) (fun w hSw => by go_simp; try exact HW1.out) hS (fun hS => ?_)
  try go_frame
  refine held_pure (i := 6) (oi := ⟨some 50, _, _, _, _, _⟩) rfl (by kernel_rfl) (by kernel_rfl) (by kernel_rfl) (fun _ _ _ h => h) (by rfl) (v := ?_) (fun w hSw => ?_) hS (fun hS => ?_)
  rotate_left
  · go_simp; try with_reducible rfl
  try go_frame
  refine held_pure (i := 7) (oi := ⟨some 51, _, _, _, _, _⟩) rfl (by kernel_rfl) (by kernel_rfl) (by kernel_rfl) (fun _ _ _ h => h) (by rfl) (v := ?_) (fun w hSw => ?_) hS (fun hS => ?_)
  rotate_left
  · go_simp; try with_reducible rfl
  try go_frame
  refine held_pure (i := 8) (oi := ⟨some 52, _, _, _, _, _⟩) rfl (by kernel_rfl) (by kernel_rfl) (by kernel_rfl) (fun _ _ _ h => h) (by rfl) (v := ?_) (fun w hSw => ?_) hS (fun hS => ?_)
  rotate_left
  · go_simp; try with_reducible rfl
  try go_frame
  refine held_pure (i := 9) (oi := ⟨some 53, _, _, _, _, _⟩) rfl (by kernel_rfl) (by kernel_rfl) (by kernel_rfl) (fun _ _ _ h => h) (by rfl) (fun w hSw => run_load_int rfl rfl (cells_at (i := 3) ((hSw.block t htz).trans ht) rfl)) hS (fun hS => ?_)
  try go_frame
  refine held_pure (i := 10) (oi := ⟨some 54, _, _, _, _, _⟩) rfl (by kernel_rfl) (by kernel_rfl) (by kernel_rfl) (fun _ _ _ h => h) (by rfl) (v := .bool false) (fun w hSw => by go_simp; try (exact HROOM.out)) hS (fun hS => ?_)
  try go_frame
  refine wpAnyH_done (by kernel_rfl) ?_ _
  have b3 := hS
  generalize w2.drew = w3 at *
  have HT3 := Lib.hid (HT2.out.below b3)
  have hb3 := HT3.out.bx s (List.mem_cons_self ..)
  have kg3 : w3.cell? ⟨s.g, 0, none⟩ = some (.pointer (some ⟨s.h, 0, none⟩)) := cells_at (i := 0) hb3.obj rfl
  have HX3 := Lib.hid hb3.hx
  have b13 : Below w.heap.size w w3 := (b1.trans (b2.mono b1.size)).trans (b3.mono (Nat.le_trans b1.size b2.size))
  have HAR3 := Lib.hid ((HARG.out.below b13).more b13.size)
  have HE3 : Hid (addC (piE s.L) ⟨off, more, b⟩ = 0) := Lib.hid (by rw [← HPO.out]; exact HADD.out)
  have hsl : s.L.length + 1 ≤ 100000 := by
    rcases HCS.out with ⟨hp, _⟩ | ⟨_, hfr, _⟩
    · exact HL.out s (hp.mem_iff.2 (List.mem_cons_self ..))
    · rw [hfr.2.2.2.1]; decide
  clear hS hb3 kg1 ht htz
  have HZ3 := Lib.hid (find_zN HCS.out hB0 HZ.out)
  have HS3 : Hid (∀ i, (i = s.h ∨ s.v.ownBlock = some i) → NB i) := Lib.hid (fun i hi => by
    obtain ⟨_, h2, h3⟩ := HZ3.out.2.2 s (List.mem_cons_self ..)
    rcases hi with rfl | hi
    · exact h2
    · exact h3 i hi)
  have hw1 := HW1.out
  go_wp2_with (first
    | (go_at_call 42; go_loud (refine (hcadd s.h s.A s.c s.L off more A' b c' _ HX3.out HAR3.out hbl hoff hsl).mono ?_; rintro e w4 ⟨rfl, A2, c2, L2, hx4, hp4, k4, ob4, ln4⟩; rw [HE3.out]; have HT4 := Lib.hid (HT3.out.add hx4 k4 ob4); have HZ4 := Lib.hid (HZ3.out.with_ (fun i hi => hB0 i (Nat.le_trans b13.size hi)) ob4); have HB4 := Lib.hid (k4.mono (T := NB) (fun i _ hi => HS3.out i hi)); have kt4 := HT4.out.c0; have HP4 := Lib.hid hp4; obtain ⟨es4, hown4, hpe4⟩ := HT4.out.map; obtain ⟨es5, hput5, hpe5⟩ := en_putW hpe4 (key, s.g); have HPUT := Lib.hid hput5; have HPE := Lib.hid hpe5; clear hx4 hp4 k4 ob4 hpe4 hput5 hpe5))
    | (at_mapUpdate; go_loud (refine wpList_mapUpdate_in _ rfl _ _ _ 69 rfl 9 72 klaw Try.underlying69 ptrElem bm M.length _ rfl hown4 (by unfold maxLen; omega) _ _ _ rfl rfl (kkey key hk) (.lit (.int .i64 (s.g : Int))) [] rfl ?_; intro w5 hown5 hturn5; rw [HPUT.out] at hown5; have HT5 := Lib.hid (HT4.out.put HPE.out hown5 hturn5); have kt5 := HT5.out.c1; have ft5 := heap_frozen HT5.out.obj 1; have HT6 := Lib.hid (HT5.out.setTot (tot + RM)); have HB5 := Lib.hid ((Kept.of_turned hturn5).mono (T := NB) (fun k _ hk => by rw [hk]; exact HZ.out.2.1)); have HK6 := Lib.hid (Kept.setCell w5 t 1 (.int .i64 (tot + RM))); clear hown4 hown5 hturn5))
    | (go_at_call 43; go_loud (refine (jtell (s.with_ A2 c2 L2) (HT6.out.bx _ (List.mem_cons_self ..)) off head).mono ?_; rintro e w7 ⟨rfl, hb7, k7⟩; have HT7 := Lib.hid (HT6.out.tell hb7 k7); have HX7 : Hid (Hx w7 s.h A2 c2 L2) := Lib.hid (tellB_hx (s := s.with_ A2 c2 L2) hb7); have kg7 : w7.cell? ⟨s.g, 0, none⟩ = some (.pointer (some ⟨s.h, 0, none⟩)) := tellB_c0 (s := s.with_ A2 c2 L2) hb7; have HK7 := Lib.hid k7; clear hb7 k7))
    | (go_at_call 44; go_loud (refine (hcdone s.h A2 c2 L2 _ HX7.out).mono ?_; rintro e w8 ⟨v8, rfl, m8⟩; have HND8 : Hid ((endedP (piE L2) && decide (gapsS 0 (piE L2) = [])) = true) := Lib.hid (by rw [HP4.out, ← HPO.out]; exact HND.out); rw [HND8.out]; rw [HND8.out, if_pos rfl] at m8; obtain ⟨P8, p8, rfl, a8, o8, y8⟩ := made_shape m8; have HT8 := Lib.hid (HT7.out.below y8); clear m8 a8))
    | (go_at_call 37; go_loud (refine (jdropK HT8.out (tellB (s.with_ A2 c2 L2) off head) (HT8.out.bx _ (List.mem_cons_self ..)) key s.g ((tellB_key _ _ _).trans HSK.out) (tellB_g _ _ _) (bytesP (piE L2)) (by unfold Bu.by; rw [tellB_L]; rfl) hk (by omega) (by rw [HP4.out, ← HPO.out]; exact HBP.out)).mono ?_; rintro e w9 ⟨rfl, hT9, hK9⟩; have HT9 := Lib.hid hT9; have HK9 := Lib.hid hK9; have kh9 : w9.cell? ⟨s.g, 2, none⟩ = some (.string (strB (tellB (s.with_ A2 c2 L2) off head).head)) := (HT9.out.bx _ (List.mem_cons_self ..)).c2 (tellB_g _ _ _); clear hT9 hK9)))
  have B6 := HK6.out.mono (T := NB) (fun k _ hk => by rw [hk]; exact HZ.out.1)
  have B7 := HK7.out.mono (T := NB) (fun k _ hk => by rw [hk]; exact (HZ3.out.2.2 s (List.mem_cons_self ..)).1)
  have B9 := HK9.out.mono (T := NB) (fun k _ hk => by rcases hk with rfl | rfl; exact HZ.out.1; exact HZ.out.2.1)
  have hhd : (tellB (s.with_ A2 c2 L2) off head).head = headOf S key off head := headOf_eq HCS.out HSK.out HT1.out.nd
  refine bodyPost_ret (results_tmp4 rfl _ _ _) rfl ⟨_, by rw [← hhd]; rfl, s, R, ?_, HSK.out, ?_, ⟨HZ.out.1, HZ.out.2.1, fun x hx => HZ3.out.2.2 x (List.mem_cons_of_mem _ hx)⟩, ?_, ?_⟩
  · have h9 := HT9.out.sub (List.sublist_cons_self _ _)
    rw [← HRM.out]
    have e1 : withoutM key ((key, s.g) :: withoutM key M) = withoutM key M := by
      unfold withoutM
      rw [List.filter_cons_of_neg (by simp), List.filter_filter]
      simp
    rw [e1] at h9
    rw [HPO.out, ← HP4.out]
    exact h9
  · rcases HCS.out with ⟨h, _⟩ | ⟨h1, h2, _, _, h5⟩
    · exact .inl h
    · exact .inr ⟨h1, h2, h5⟩
  · exact KNt (KNt (KNt (KNt (KNt (KNt (Kept.of_below b13) HB4.out) HB5.out) B6) B7) (Kept.of_below y8)) B9
  · rw [HPO.out, ← HP4.out]
    exact own_baseL (own_keptA o8 HK9.out (HT8.out.away) tt_no.2.2.1) (KNt (KNt (KNt (KNt (Kept.of_below b13) HB4.out) HB5.out) B6) B7).size
set_option maxRecDepth 100000 in
set_option maxHeartbeats 2000000 in
theorem kadd_err (hT0 : Tx w t bm tot mb my wt M S) (hMS : M.Perm (S.map Bu.kg)) (key head : List UInt8) (off now : Int) (more : Bool) (A' : Option Addr) (c' : Nat) (b : List UInt8) (hA' : Arg w w.heap.size A' c' b) (hk : key.length ≤ maxLen) (hbl : b.length ≤ 1000000)
    (hoff : -9223372036854775808 ≤ off ∧ off ≤ 9223372036854775807) (hL : ∀ s ∈ S, s.L.length + 1 ≤ 100000) (htot : 0 ≤ tot ∧ tot ≤ 100000000000) (hf : Takes M S mb key) (NB : Nat → Prop) (hB0 : ∀ i, w.heap.size ≤ i → NB i) (hZ : TzN NB t bm S)
    (hroom : ¬ tot + roomC (partsOf S key) off b > my) (E : Int) (hadd : E = addC (partsOf S key) ⟨off, more, b⟩) (hE : E ≠ 0) (hbp : 0 ≤ bytesP (partsOf S key) ∧ bytesP (partsOf S key) ≤ 1000000000000) :
    Calls Try.prog 16 #[.pointer (some ⟨t, 0, none⟩), sq key, .int .i64 off, .bool more, .slice A' b.length c', sq head, .int .i64 now] w fun e w' => e = fail16 E ∧ ErrLeavesN w w' t bm tot mb my wt M S key now NB := by
  have HADD := Lib.hid hadd
  have HBP := Lib.hid hbp
  have HZ := Lib.hid hZ
  clear hadd hbp hZ
  have k0 := hT0.c0
  obtain ⟨RM, hRM⟩ : ∃ RM, RM = roomC (partsOf S key) off b := ⟨_, rfl⟩
  have hrm0 : 0 ≤ RM ∧ RM ≤ 1000000 := by rw [hRM]; unfold roomC; split <;> omega
  rw [← hRM] at hroom
  have HW1 : Hid (IntKind.i64.wrap (tot + RM) = tot + RM) := Lib.hid (IntWalk.i64_in _ (by omega))
  have HROOM : Hid (tot + RM ≤ my) := Lib.hid (by omega)
  have HRM := Lib.hid hRM
  have hT := Lib.hid hT0
  have HMS := Lib.hid hMS
  have HF := Lib.hid hf
  have HARG := Lib.hid hA'
  have HL := Lib.hid hL
  clear hT0 hMS hf hA' hL hroom hRM
  unfold sq at *
  go_enter Try.func16, Try.ntmps16
  go_upto_region 7 with (first
    | (go_at_call 36; refine (jmade t bm _ k0).mono ?_; rintro e w1 ⟨rfl, rfl⟩)
    | (go_at_call 41; go_loud (refine (jroom s.h s.A s.c s.L off A' b c' _ (HT1.out.bx s (List.mem_cons_self ..)).hx ((HARG.out.below b1).more b1.size)).mono ?_; rintro e w2 ⟨rfl, b2⟩; rw [← HRV.out]))
    | (go_at_call 40; go_loud (refine (jfind_ok hT.out HMS.out key now hk HF.out).mono ?_; rintro e w1 ⟨s, R, rfl, hT1, hsk, b1, hcs⟩; have HT1 := Lib.hid hT1; have HSK := Lib.hid hsk; have HCS := Lib.hid hcs; have kg1 : w1.cell? ⟨s.g, 0, none⟩ = some (.pointer (some ⟨s.h, 0, none⟩)) := cells_at (i := 0) (HT1.out.bx s (List.mem_cons_self ..)).obj rfl; clear hT1 hsk hcs; have HPO := Lib.hid (partsOf_find HCS.out HSK.out HT1.out.nd); have HRV := Lib.hid (HRM.out.trans (congrArg (fun z => roomC z off b) HPO.out)))))
  have HT2 := Lib.hid (HT1.out.below b2)
  have ht := HT2.out.obj
  have htz := heap_lt ht
  refine wp_region_held_drew (S := fun w' => Below w2.heap.size w2 w') (by kernel_rfl) (Below.refl _ w2).drew (fun hS => ?_)
  refine held_pure (i := 0) (oi := ⟨some 44, _, _, _, _, _⟩) rfl (by kernel_rfl) (by kernel_rfl) (by kernel_rfl) (fun _ _ _ h => h) (by rfl) (v := ?_) (fun w hSw => ?_) hS (fun hS => ?_)
  rotate_left
  · go_simp; try with_reducible rfl
  try go_frame
  refine held_pure (i := 1) (oi := ⟨some 45, _, _, _, _, _⟩) rfl (by kernel_rfl) (by kernel_rfl) (by kernel_rfl) (fun _ _ _ h => h) (by rfl) (v := ?_) (fun w hSw => ?_) hS (fun hS => ?_)
  rotate_left
  · go_simp; try with_reducible rfl
  try go_frame
  refine held_pure (i := 2) (oi := ⟨some 46, _, _, _, _, _⟩) rfl (by kernel_rfl) (by kernel_rfl) (by kernel_rfl) (fun _ _ _ h => h) (by rfl) (v := ?_) (fun w hSw => ?_) hS (fun hS => ?_)
  rotate_left
  · go_simp; try with_reducible rfl
  try go_frame
  refine held_pure (i := 3) (oi := ⟨some 47, _, _, _, _, _⟩) rfl (by kernel_rfl) (by kernel_rfl) (by kernel_rfl) (fun _ _ _ h => h) (by rfl) (fun w hSw => run_load_int rfl rfl (cells_at (i := 1) ((hSw.block t htz).trans ht) rfl)) hS (fun hS => ?_)
  try go_frame
  refine held_pure (i := 4) (oi := ⟨some 48, _, _, _, _, _⟩) rfl (by kernel_rfl) (by kernel_rfl) (by kernel_rfl) (fun _ _ _ h => h) (by rfl) (v := ?_) (fun w hSw => ?_) hS (fun hS => ?_)
  rotate_left
  · go_simp; try with_reducible rfl
  try go_frame
  refine held_pure (i := 5) (oi := ⟨some 49, _, _, _, _, _⟩) rfl (by kernel_rfl) (by kernel_rfl) (by kernel_rfl) (fun _ _ _ h => h) (by rfl) (v := .int .i64 (tot + RM)) (fun w hSw => by go_simp; try exact HW1.out) hS (fun hS => ?_)
  try go_frame
  refine held_pure (i := 6) (oi := ⟨some 50, _, _, _, _, _⟩) rfl (by kernel_rfl) (by kernel_rfl) (by kernel_rfl) (fun _ _ _ h => h) (by rfl) (v := ?_) (fun w hSw => ?_) hS (fun hS => ?_)
  rotate_left
  · go_simp; try with_reducible rfl
  try go_frame
  refine held_pure (i := 7) (oi := ⟨some 51, _, _, _, _, _⟩) rfl (by kernel_rfl) (by kernel_rfl) (by kernel_rfl) (fun _ _ _ h => h) (by rfl) (v := ?_) (fun w hSw => ?_) hS (fun hS => ?_)
  rotate_left
  · go_simp; try with_reducible rfl
  try go_frame
  refine held_pure (i := 8) (oi := ⟨some 52, _, _, _, _, _⟩) rfl (by kernel_rfl) (by kernel_rfl) (by kernel_rfl) (fun _ _ _ h => h) (by rfl) (v := ?_) (fun w hSw => ?_) hS (fun hS => ?_)
  rotate_left
  · go_simp; try with_reducible rfl
  try go_frame
  refine held_pure (i := 9) (oi := ⟨some 53, _, _, _, _, _⟩) rfl (by kernel_rfl) (by kernel_rfl) (by kernel_rfl) (fun _ _ _ h => h) (by rfl) (fun w hSw => run_load_int rfl rfl (cells_at (i := 3) ((hSw.block t htz).trans ht) rfl)) hS (fun hS => ?_)
  try go_frame
  refine held_pure (i := 10) (oi := ⟨some 54, _, _, _, _, _⟩) rfl (by kernel_rfl) (by kernel_rfl) (by kernel_rfl) (fun _ _ _ h => h) (by rfl) (v := .bool false) (fun w hSw => by go_simp; try (exact HROOM.out)) hS (fun hS => ?_)
  try go_frame
  refine wpAnyH_done (by kernel_rfl) ?_ _
  have b3 := hS
  generalize w2.drew = w3 at *
  have HT3 := Lib.hid (HT2.out.below b3)
  have hb3 := HT3.out.bx s (List.mem_cons_self ..)
  have kg3 : w3.cell? ⟨s.g, 0, none⟩ = some (.pointer (some ⟨s.h, 0, none⟩)) := cells_at (i := 0) hb3.obj rfl
  have HX3 := Lib.hid hb3.hx
  have b13 : Below w.heap.size w w3 := (b1.trans (b2.mono b1.size)).trans (b3.mono (Nat.le_trans b1.size b2.size))
  have HAR3 := Lib.hid ((HARG.out.below b13).more b13.size)
  have HE3 : Hid (E = addC (piE s.L) ⟨off, more, b⟩) := Lib.hid (by rw [← HPO.out]; exact HADD.out)
  have HLE : Hid (addCL (piE s.L) ⟨off, more, b⟩ = piE s.L) := Lib.hid (by unfold addCL; rw [if_neg (by rw [← HE3.out]; exact hE)])
  have hsl : s.L.length + 1 ≤ 100000 := by
    rcases HCS.out with ⟨hp, _⟩ | ⟨_, hfr, _⟩
    · exact HL.out s (hp.mem_iff.2 (List.mem_cons_self ..))
    · rw [hfr.2.2.2.1]; decide
  clear hS hb3 kg1 ht htz
  have HZ3 := Lib.hid (find_zN HCS.out hB0 HZ.out)
  have HS3 : Hid (∀ i, (i = s.h ∨ s.v.ownBlock = some i) → NB i) := Lib.hid (fun i hi => by
    obtain ⟨_, h2, h3⟩ := HZ3.out.2.2 s (List.mem_cons_self ..)
    rcases hi with rfl | hi
    · exact h2
    · exact h3 i hi)
  have dE : decide (E = 0) = false := decide_eq_false hE
  go_wp2_with (first
    | (go_at_call 42; go_loud (refine (hcadd s.h s.A s.c s.L off more A' b c' _ HX3.out HAR3.out hbl hoff hsl).mono ?_; rintro e w4 ⟨rfl, A2, c2, L2, hx4, hp4, k4, ob4, ln4⟩; rw [← HE3.out]; have HT4 := Lib.hid (HT3.out.add hx4 k4 ob4); have HB4 := Lib.hid (k4.mono (T := NB) (fun i _ hi => HS3.out i hi)); have HP4 := Lib.hid (hp4.trans HLE.out); clear hx4 hp4 k4 ob4))
    | (go_at_call 37; go_loud (refine (jdropK HT4.out (s.with_ A2 c2 L2) (HT4.out.bx _ (List.mem_cons_self ..)) key s.g HSK.out rfl (bytesP (piE L2)) rfl hk (by omega) (by rw [HP4.out, ← HPO.out]; exact HBP.out)).mono ?_; rintro e w9 ⟨rfl, hT9, hK9⟩; have HT9 := Lib.hid hT9; have HK9 := Lib.hid hK9; clear hT9 hK9)))
  have B9 := HK9.out.mono (T := NB) (fun k _ hk => by rcases hk with rfl | rfl; exact HZ.out.1; exact HZ.out.2.1)
  refine bodyPost_ret (results_tmp4 rfl _ _ _) rfl ⟨rfl, s, R, ?_, HSK.out, ?_, ⟨HZ.out.1, HZ.out.2.1, fun x hx => HZ3.out.2.2 x (List.mem_cons_of_mem _ hx)⟩, KNt (KNt (Kept.of_below b13) HB4.out) B9⟩
  · have h9 := HT9.out.sub (List.sublist_cons_self _ _)
    rw [HPO.out, ← HP4.out]
    exact h9
  · rcases HCS.out with ⟨h, _⟩ | ⟨h1, h2, _, _, h5⟩
    · exact .inl h
    · exact .inr ⟨h1, h2, h5⟩
end
end Go.Proofs.Ytghbliabmecbcaa

/-
  Expire of layer 16's code, with just the table's two blocks written. Conditions are each theorem's own.
-/
namespace Go.Proofs.Ytghbliabmecbcaa
open Go.RowKit Go.Shelf Go.Maps
/-- What Expire leaves. -/
def ExpOutK (w : World) (B0 t bm : Nat) (mb my wt now : Int) (N : Nat) (S : List Bu) (e : Ending) (w' : World) : Prop :=
  ∃ (v : Value) (ks : List (List UInt8)) (G R : List Bu), e = .returned v ∧ ks = G.map (·.key) ∧ S.Perm (G ++ R) ∧ (∀ s ∈ G, s.began ≤ now - wt) ∧ (∀ s ∈ R, ¬ s.began ≤ now - wt) ∧
      w'.ownsRow w.heap.size 9 1 v ks.length ((ks.mergeSort (fun x y => decide (x ≤ y))).map sq) ∧ Jv w' B0 t bm mb my wt N R ∧ Kept (fun k => k = t ∨ k = bm) w w'
set_option maxHeartbeats 1000000 in
set_option maxRecDepth 100000 in
theorem kexpire {w : World} {B0 t bm N : Nat} {mb my wt now : Int} {S : List Bu} (h : Jv w B0 t bm mb my wt N S) (hmy : my ≤ 10000000000) (hS : S.length ≤ 1000000) (hwt : 0 ≤ wt ∧ wt ≤ now) (hnow : now ≤ 9223372036854775807) :
    Calls Try.prog 14 #[.pointer (some ⟨t, 0, none⟩), .int .i64 now] w fun e w' => ExpOutK w B0 t bm mb my wt now N S e w' := by
  have HJ := Lib.hid h
  have hT := h.tx
  have k0 := hT.c0
  have ht := hT.obj
  have kw : w.cell? ⟨t, 4, none⟩ = some (.int .i64 wt) := cells_at (i := 4) ht rfl
  obtain ⟨es, hown, hp⟩ := hT.map
  have HWR : Hid (IntKind.i64.wrap (now - wt) = now - wt) := Lib.hid (IntWalk.i64_in _ (by omega))
  have hno : decide (now < wt) = false := decide_eq_false (by omega)
  have hbl := hown.lt
  have hsum := sumB_nn S
  have hby := h.by_
  obtain ⟨W, hW⟩ : ∃ W, W = w.heap.size := ⟨_, rfl⟩
  have HWz := Lib.hid hW
  have hW1 : W ≤ w.heap.size := by omega
  have hW2 : w.heap.size ≤ W := by omega
  have HT := Lib.hid hT
  have HP := Lib.hid hp
  clear h hT hp hW
  go_enter Try.func14, Try.ntmps14
  go_wp2_with (first
    | (go_at_call 36; refine (jmade t bm _ k0).mono ?_; rintro e w1 ⟨rfl, rfl⟩)
    | (at_range; refine wpList_range_own _ rfl _ 69 rfl 9 72 klaw Try.underlying69 ptrElem bm (S.map Bu.kg).length _ rfl hown ?_; intro w0 hrg0 hg0 hs0)
    | go_in)
  go_frame
  rw [← HWz.out] at hrg0 ⊢
  have hbmW : bm ≠ W := by omega
  go_loopw [5] (fun v wr => ∃ left cnt ks G R, Hid (ExI w wr t bm W mb my wt (now - wt) S v left cnt ks G R)) (fun _ wr => wr.rangeLeft bm W)
  case atStart =>
    refine ⟨_, _, [], [], S, Lib.hid ⟨HT.out.below ((Below.refl _ _).grown hg0 (Nat.le_refl _) (fun k e => (by cases e))), ⟨_, _, hrg0⟩, List.Perm.refl _, (fun s hs => (by cases hs)), (fun s hs _ => ?_), own_nil_str _ _, rfl, Kept.of_below ((Below.refl _ _).grown hg0 (Nat.le_refl _) (fun k e => (by cases e)))⟩⟩
    rw [en_has HP.out]
    exact List.any_eq_true.2 ⟨s.kg, List.mem_map.2 ⟨s, hs, rfl⟩, by simp [Bu.kg]⟩
  case round =>
    clear hrg0 hg0 hs0
    obtain ⟨left, cnt, ks, G, R, HE⟩ := hrel
    obtain ⟨n1, D1, hrg⟩ := HE.out.rg
    have hTr := HE.out.tx
    go_wp2_with (first
      | (at_next; refine wpList_next_buf rfl _ rfl hTr hrg rfl ?_ ?_)
      | go_in)
    · -- nothing is left
      intro _ hl0
      have hal : ∀ s ∈ R, ¬ s.began ≤ now - wt := fun s hs hb => by
        have := HE.out.al s hs hb
        rw [hl0] at this
        cases this
      have HA := Lib.hid hal
      rcases HE.out.row.2 with ⟨e1, h0⟩ | ⟨gb, cap, cur, e1, hbase, hgb, r1, r2, r3, r4⟩
      · subst e1
        have cS := AnyM.slices_Sort_string_none Try.sortA none 0 wr
        change Calls Try.prog 38 _ _ _ at cS
        go_wp2_with (go_at_call 38; refine cS.mono ?_; rintro e w' ⟨rfl, rfl⟩)
        go_ret
        have hks : ks = [] := List.eq_nil_of_length_eq_zero h0
        refine ⟨_, ks, G, R, rfl, HE.out.kk, HE.out.pm, HE.out.ex, (fun s hs => by have := HA.out s hs; omega), ?_, HJ.out.gone HE.out.pm hTr, HE.out.kp⟩
        rw [hks, List.mergeSort_nil, ← HWz.out]
        exact own_nil_str _ _
      · subst e1
        have hH : Go.Sort.Holds encStr wr gb 0 ks.toArray := holds_of_block hgb (by rw [sq_enc] at r4; simpa using r4)
        have hgl : gb < wr.heap.size := heap_lt hgb
        have hkl : ks.length ≤ 1000000 := by
          have h1 := HE.out.kk
          have h2 := HE.out.pm.length_eq
          rw [List.length_append] at h2
          rw [h1, List.length_map]; omega
        have cS := AnyM.slices_Sort_string Try.sortA gb 0 cap ks wr hH hgl (by omega)
        change Calls Try.prog 38 _ _ _ at cS
        go_wp2_with (go_at_call 38; refine cS.mono ?_; rintro e w' ⟨rfl, nn, os, rfl⟩)
        go_ret
        have hg := grownBy_sorted (w := wr) (g := gb) (n := nn) (os := os) (ks.mergeSort fun x y => decide (x ≤ y)).toArray
        have hZ := Kept.of_grown hg
        have haw := own_away HE.out.row
        have hbmg : ¬ some bm = some gb := fun e => by
          injection e with e
          rw [e] at hown
          obtain ⟨es8, hm8, _⟩ := hTr.map
          rw [e] at hm8
          exact map_is hm8 hgb
        refine ⟨_, ks, G, R, rfl, HE.out.kk, HE.out.pm, HE.out.ex, (fun s hs => by have := HA.out s hs; omega), ?_, HJ.out.gone HE.out.pm (hTr.awayP hZ haw ts_no.1 ts_no.2.1 ts_no.2.2.1 ts_no.2.2.2.1 ts_no.2.2.2.2 hbmg), ?_⟩
        · rw [← HWz.out, sq_enc]
          exact ownsRow_sorted (by simp) hbase hgb r1 r2 r3
        · exact HE.out.kp.trans hZ (fun i hi e => by injection e with e; omega)
    · intro s w1 cnt1 hsR hlx hrg1 hlt hg1 hs1 hen
      obtain ⟨hT1, hrow1, hk1⟩ := HE.out.step (by omega) hrg1 hg1 hbmW
      have hSm : s ∈ S := HE.out.pm.mem_iff.2 (List.mem_append.2 (.inr hsR))
      have hbx := hT1.bx s hSm
      have hgz := heap_lt hbx.obj
      have htz := heap_lt hT1.obj
      have KB : Hid (∀ V, Below w1.heap.size w1 V → V.cell? ⟨s.g, 1, none⟩ = some (.int .i64 s.began)) := Lib.hid fun V hV => (hV.cell (p := ⟨s.g, 1, none⟩) hgz).trans (cells_at (i := 1) hbx.obj rfl)
      have KW : Hid (∀ V, Below w1.heap.size w1 V → V.cell? ⟨t, 4, none⟩ = some (.int .i64 wt)) := Lib.hid fun V hV => (hV.cell (p := ⟨t, 4, none⟩) htz).trans (cells_at (i := 4) hT1.obj rfl)
      go_upto_region 7 with fail
      refine wp_region_held_drew (S := fun w' => Below w1.heap.size w1 w') (by kernel_rfl) (Below.refl _ _).drew (fun hS => ?_)
      refine held_pure (i := 0) (oi := ⟨some 29, _, _, _, _, _⟩) rfl (by kernel_rfl) (by kernel_rfl) (by kernel_rfl) (fun _ _ _ h => h) (by rfl) (v := ?_) (fun w hSw => ?_) hS (fun hS => ?_)
      rotate_left
      · go_simp; try with_reducible rfl
      try go_frame
      refine held_pure (i := 1) (oi := ⟨some 30, _, _, _, _, _⟩) rfl (by kernel_rfl) (by kernel_rfl) (by kernel_rfl) (fun _ _ _ h => h) (by rfl) (v := ?_) (fun w hSw => ?_) hS (fun hS => ?_)
      rotate_left
      · go_simp; try with_reducible rfl
      try go_frame
      refine held_pure (i := 2) (oi := ⟨some 31, _, _, _, _, _⟩) rfl (by kernel_rfl) (by kernel_rfl) (by kernel_rfl) (fun _ _ _ h => h) (by rfl) (v := ?_) (fun w hSw => ?_) hS (fun hS => ?_)
      rotate_left
      · go_simp; try with_reducible rfl
      try go_frame
      refine held_pure (i := 3) (oi := ⟨some 32, _, _, _, _, _⟩) rfl (by kernel_rfl) (by kernel_rfl) (by kernel_rfl) (fun _ _ _ h => h) (by rfl) (fun w hSw => run_load_int rfl rfl (KB.out _ hSw)) hS (fun hS => ?_)
      try go_frame
      refine held_pure (i := 4) (oi := ⟨some 33, _, _, _, _, _⟩) rfl (by kernel_rfl) (by kernel_rfl) (by kernel_rfl) (fun _ _ _ h => h) (by rfl) (v := ?_) (fun w hSw => ?_) hS (fun hS => ?_)
      rotate_left
      · go_simp; try with_reducible rfl
      try go_frame
      refine held_pure (i := 5) (oi := ⟨some 34, _, _, _, _, _⟩) rfl (by kernel_rfl) (by kernel_rfl) (by kernel_rfl) (fun _ _ _ h => h) (by rfl) (v := ?_) (fun w hSw => ?_) hS (fun hS => ?_)
      rotate_left
      · go_simp; try with_reducible rfl
      try go_frame
      refine held_pure (i := 6) (oi := ⟨some 35, _, _, _, _, _⟩) rfl (by kernel_rfl) (by kernel_rfl) (by kernel_rfl) (fun _ _ _ h => h) (by rfl) (v := ?_) (fun w hSw => ?_) hS (fun hS => ?_)
      rotate_left
      · go_simp; try with_reducible rfl
      try go_frame
      refine held_pure (i := 7) (oi := ⟨some 36, _, _, _, _, _⟩) rfl (by kernel_rfl) (by kernel_rfl) (by kernel_rfl) (fun _ _ _ h => h) (by rfl) (v := ?_) (fun w hSw => ?_) hS (fun hS => ?_)
      rotate_left
      · go_simp; try with_reducible rfl
      try go_frame
      refine held_pure (i := 8) (oi := ⟨some 37, _, _, _, _, _⟩) rfl (by kernel_rfl) (by kernel_rfl) (by kernel_rfl) (fun _ _ _ h => h) (by rfl) (fun w hSw => run_load_int rfl rfl (KW.out _ hSw)) hS (fun hS => ?_)
      try go_frame
      refine held_pure (i := 9) (oi := ⟨some 38, _, _, _, _, _⟩) rfl (by kernel_rfl) (by kernel_rfl) (by kernel_rfl) (fun _ _ _ h => h) (by rfl) (v := .int .i64 (now - wt)) (fun w hSw => by go_simp; try exact HWR.out) hS (fun hS => ?_)
      try go_frame
      refine held_pure (i := 10) (oi := ⟨some 39, _, _, _, _, _⟩) rfl (by kernel_rfl) (by kernel_rfl) (by kernel_rfl) (fun _ _ _ h => h) (by rfl) (v := ?_) (fun w hSw => ?_) hS (fun hS => ?_)
      rotate_left
      · go_simp; try with_reducible rfl
      try go_frame
      refine wpAnyH_done (by kernel_rfl) ?_ _
      have hTd := hT1.below hS
      have hrowd : w1.drew.ownsRow W 9 1 u5 ks.length (ks.map sq) := hrow1
      have hrgd := ranges_kept hrg1 (Kept.of_below hS (S := fun _ => False)) id id
      have hkd : Kept (fun k => k = t ∨ k = bm) w w1.drew := hk1.then_below hS
      have hzd : w1.heap.size = w1.drew.heap.size := rfl
      have hWz1 : W ≤ w1.heap.size := by have := hk1.size; omega
      rw [hzd] at hWz1
      clear hT1 hrow1 hrg1 hk1 hS KB KW hbx hgz htz hg1 hs1 hen hzd
      generalize w1.drew = V at *
      have hkl : ks.length ≤ 1000000 := by
        have h1 := HE.out.kk
        have h2 := HE.out.pm.length_eq
        rw [List.length_append] at h2
        rw [h1, List.length_map]; omega
      by_cases hbe : s.began ≤ now - wt
      · have d1 : decide (s.began ≤ now - wt) = true := decide_eq_true hbe
        obtain ⟨V2, hV2⟩ : ∃ V2, V2 = V.alloc (.cells #[.string (strB s.key)] 9) := ⟨_, rfl⟩
        have HV2 := Lib.hid hV2
        have bV2 : Below V.heap.size V V2 := by rw [hV2]; exact (Below.refl _ V).alloc (Nat.le_refl _) _
        have kV2 : V2.cell? ⟨V.heap.size, 0, none⟩ = some (sq s.key) := cells_at (i := 0) (by rw [hV2]; exact World.alloc_heap_new V _) rfl
        have rowV2 : V2.ownsRow W 9 1 u5 ks.length (ks.map sq) := by rw [hV2]; exact hrowd.alloc _
        have rgV2 : V2.ranges Try.prog 9 ptrElem bm W n1 D1 _ cnt1 := ranges_kept hrgd (Kept.of_below bV2 (S := fun _ => False)) id id
        have TV2 := hTd.below bV2
        have szV2 := bV2.size
        have hlk := TV2.len s hSm
        have hby2 : 0 ≤ s.by ∧ s.by ≤ 1000000000000 := by
          have h1 := by_nn s
          have h2 := sum_part hSm
          omega
        have hsR2 : 0 ≤ sumB R ∧ sumB R ≤ 1000000000000 := by
          have h1 := sumB_perm HE.out.pm
          rw [sumB_app] at h1
          have h2 := sumB_nn G
          have h3 := sumB_nn R
          omega
        clear hV2
        unfold sq
        go_wp2_with (first
          | (at_builtin; (rw [← HV2.out]; refine append_sq rfl _ _ rfl W _ _ ks rfl rowV2 V.heap.size s.key rfl kV2 hkl (by omega) ?_); intro v' w2 hrow2 hg2)
          | (go_at_call 37; (refine (jdropR (ranges_kept rgV2 (Kept.of_grown hg2) (fun e => by obtain ⟨⟨_, _, _, hc⟩, _⟩ := own_cells rowV2 e; obtain ⟨es8, hm8, _⟩ := TV2.map; exact map_is hm8 hc) (fun e => by obtain ⟨⟨_, _, _, hc⟩, _⟩ := own_cells rowV2 e; exact iter_not_cells rgV2 hc)) (TV2.awayP (Kept.of_grown hg2) (own_away rowV2) ts_no.1 ts_no.2.1 ts_no.2.2.1 ts_no.2.2.2.1 ts_no.2.2.2.2 (fun e => by obtain ⟨⟨_, _, _, hc⟩, _⟩ := own_cells rowV2 e; obtain ⟨es8, hm8, _⟩ := TV2.map; exact map_is hm8 hc)) s ((TV2.awayP (Kept.of_grown hg2) (own_away rowV2) ts_no.1 ts_no.2.1 ts_no.2.2.1 ts_no.2.2.2.1 ts_no.2.2.2.2 (fun e => by obtain ⟨⟨_, _, _, hc⟩, _⟩ := own_cells rowV2 e; obtain ⟨es8, hm8, _⟩ := TV2.map; exact map_is hm8 hc)).bx s hSm) hlk hsR2 hby2).mono ?_; rintro e w3 ⟨rfl, hT3, hk3, cnt3, hrg3, hle3⟩)))
        rw [strike_twice] at hrg3
        obtain ⟨R', q1, q2, q3, q4, q5⟩ := HE.out.goes hsR
        have hTa := TV2.awayP (Kept.of_grown hg2) (own_away rowV2) ts_no.1 ts_no.2.1 ts_no.2.2.1 ts_no.2.2.2.1 ts_no.2.2.2.2 (fun e => by obtain ⟨⟨_, _, _, hc⟩, _⟩ := own_cells rowV2 e; obtain ⟨es8, hm8, _⟩ := TV2.map; exact map_is hm8 hc)
        have hkk3 : Kept (fun k => k = t ∨ k = bm) w w3 := (((hkd.then_below bV2).trans (Kept.of_grown hg2) (fun i hi e => by have := (own_cells rowV2 e).2; omega)).trans hk3 (fun _ _ h => h))
        go_roundw
        case rel =>
          refine ⟨_, cnt3, ks ++ [s.key], G ++ [s], R', Lib.hid ⟨?_, ⟨_, _, hrg3⟩, q2, ?_, q5, ?_, ?_, hkk3⟩⟩
          · rw [← q3]; exact hT3.perm q4 (List.Perm.refl _)
          · intro x hx
            rcases List.mem_append.1 hx with hx | hx
            · exact HE.out.ex x hx
            · rw [List.mem_singleton] at hx; rw [hx]; exact hbe
          · rw [List.length_append]; exact own_keptA hrow2 hk3 hTa.awayTT tt_str
          · rw [HE.out.kk]; simp
        case measure => rw [hrg3.left_eq, hrg.left_eq]; omega
      · have d1 : decide (s.began ≤ now - wt) = false := decide_eq_false hbe
        go_wp2
        go_roundw
        case rel => exact ⟨_, cnt1, ks, G, R, Lib.hid ⟨hTd, ⟨_, _, hrgd⟩, HE.out.pm, HE.out.ex, HE.out.stay hsR (by omega), hrowd, HE.out.kk, hkd⟩⟩
        case measure => rw [hrgd.left_eq, hrg.left_eq]; exact hlt
end Go.Proofs.Ytghbliabmecbcaa

/-
  Buffers as they lie in memory; contracts of the document's New, find, Bytes of layer 16. Conditions are each theorem's own.
-/
namespace Go.Proofs.Ytghbliabmecbcaa
open Go.RowKit Go.Shelf

/-- A buffer, and where its parts lie. -/
structure XB where
  key : List UInt8
  since : Int
  A : Option Addr
  c : Nat
  l : List XP
  head : List UInt8
  has : Bool
def bfE (x : XB) : Bf := ⟨x.key, x.since, piE x.l, x.head, x.has⟩
def tbE (t : List XB) : List Bf := t.map bfE
def clB (x : XB) : List Value := [.string (strB x.key), .int .i64 x.since, .slice x.A x.l.length x.c, .string (strB x.head), .bool x.has]
structure okX (w : World) (B : Nat) (x : XB) : Prop where
  cap : x.l.length ≤ x.c
  rd : RdS clP 3 w B x.A x.l
  arg : ∀ y ∈ x.l, Arg w B y.A y.c y.p.b
  ok : ∀ y ∈ x.l, okP y.p
  n : x.l.length ≤ 1000
  none_ : x.A = none → x.c = 0
theorem okX.below {w w' : World} {B : Nat} {x : XB} (h : okX w B x) (hb : Below B w w') : okX w' B x :=
  ⟨h.cap, h.rd.below hb, fun y hy => (h.arg y hy).below hb, h.ok, h.n, h.none_⟩
/-- At ⟨g, o⟩ lies a table of buffers; what it reaches lies below block B. -/
structure Tb (w : World) (B g o : Nat) (A : Option Addr) (c : Nat) (t : List XB) (most mb wait : Int) : Prop where
  cell : w.cell? ⟨g, o, none⟩ = some (.slice A t.length c)
  most_ : w.cell? ⟨g, o + 1, none⟩ = some (.int .i64 most)
  mb_ : w.cell? ⟨g, o + 2, none⟩ = some (.int .i64 mb)
  wait_ : w.cell? ⟨g, o + 3, none⟩ = some (.int .i64 wait)
  gB : g < B
  cap : t.length ≤ c
  rd : RdS clB 5 w B A t
  parts : ∀ x ∈ t, okX w B x
  n : t.length ≤ 1000
theorem Tb.below {w w' : World} {B g o : Nat} {A : Option Addr} {c : Nat} {t : List XB} {most mb wait : Int} (h : Tb w B g o A c t most mb wait) (hb : Below B w w') : Tb w' B g o A c t most mb wait :=
  ⟨(hb.cell h.gB).trans h.cell, (hb.cell (p := ⟨g, o + 1, none⟩) h.gB).trans h.most_, (hb.cell (p := ⟨g, o + 2, none⟩) h.gB).trans h.mb_, (hb.cell (p := ⟨g, o + 3, none⟩) h.gB).trans h.wait_,
    h.gB, h.cap, h.rd.below hb, fun x hx => (h.parts x hx).below hb, h.n⟩
theorem run_load_bs {o : Oper} {a : Act} {w : World} {x : Operand} {p : Addr} {A : Option Addr} {n c : Nat} (ho : o.op = .load 42 x) (hx : a.eval x = .pointer (some p)) (hc : w.cell? p = some (.slice A n c)) :
    (execOp a.eval o).run Try.prog w = .ok (.value (.slice A n c)) w := by
  unfold execOp
  simp only [ho, hx, Instr.loadAt, Instr.sureAddr, Sem.run_bind, Sem.run_pure, Result.andThen_ok]
  go_simp
set_option maxRecDepth 100000 in
set_option maxHeartbeats 1000000 in
theorem r16bytes (A : Option Addr) (c : Nat) (l : List XB) (B g o : Nat) (most mb wait : Int) (w : World) (h : Tb w B g o A c l most mb wait) (hB : B ≤ w.heap.size) :
    Calls Try.prog 20 #[.pointer (some ⟨g, o, none⟩)] w fun e w' => e = .returned (.int .i64 (bytesJ (tbE l))) ∧ Below w.heap.size w w' := by
  obtain ⟨n, hn⟩ : ∃ n, n = l.length := ⟨_, rfl⟩
  have HN := Lib.hid hn
  obtain ⟨L, hL⟩ : ∃ L, L = tbE l := ⟨_, rfl⟩
  have HL := Lib.hid hL
  have HO := Lib.hid h
  have k0 := h.cell
  have hgz : g < w.heap.size := cell_block k0
  have hn1 : n ≤ 1000 := by rw [hn]; exact h.n
  have hn2 : n ≤ c := by rw [hn]; exact h.cap
  rw [← hn] at k0
  rw [← hL]
  clear hn hL h
  go_enter Try.func20, Try.ntmps20
  go_wp2
  go_loopw [3, 4] (fun t i wr => ∃ (k : Nat) (s : Int), k ≤ n ∧ i = .int .i64 (k : Int) ∧ t = .int .i64 s ∧ (0 ≤ s ∧ s ≤ 65535000 * (k : Int)) ∧ Hid (bytesJ L = s + bytesJ (L.drop k)) ∧ Below w.heap.size w wr)
    (fun t i _ => n - (intOf i).toNat)
  case atStart => exact ⟨0, 0, Nat.zero_le _, rfl, rfl, by omega, Lib.hid (by rw [List.drop_zero, Int.zero_add]), Below.refl _ _⟩
  case round =>
    obtain ⟨k, s, hk, rfl, rfl, hs0, HE, hbel⟩ := hrel
    have kc := (hbel.cell (p := ⟨g, o, none⟩) hgz).trans k0
    by_cases hlt : k < n
    · skip
      obtain ⟨x, hx⟩ : ∃ x, l[k]? = some x := ⟨_, List.getElem?_eq_getElem (by rw [← HN.out]; exact hlt)⟩
      have hxm := List.mem_of_getElem? hx
      have hok := HO.out.parts x hxm
      obtain ⟨b1, o1, e1, hb1', hr1⟩ := HO.out.rd (by rw [← HN.out]; omega)
      obtain rfl := e1
      have hr := range_below (hr1 k x hx) hb1' (hbel.mono hB)
      have kx0 : wr.cell? ⟨b1, o1 + k * 5, none⟩ = some (.string (strB x.key)) := by simpa using hr 0 _ rfl
      have kx2 : wr.cell? ⟨b1, o1 + k * 5 + 2, none⟩ = some (.slice x.A x.l.length x.c) := hr 2 _ rfl
      have HOX : Hid (Ho wr B b1 (o1 + k * 5 + 2) x.A x.c x.l) := Lib.hid (by
        have h1 := hok.below (hbel.mono hB)
        exact ⟨kx2, hb1', h1.cap, h1.rd, h1.arg, h1.ok, by have := h1.n; omega, h1.none_⟩)
      have HXD : Hid (L.drop k = bfE x :: L.drop (k + 1)) := Lib.hid (by
        have hl : k < L.length := by rw [HL.out, tbE, List.length_map, ← HN.out]; exact hlt
        rw [List.drop_eq_getElem_cons hl]
        congr 1
        have h1 : L[k]? = some (bfE x) := by rw [HL.out, tbE, List.getElem?_map, hx]; rfl
        rw [List.getElem?_eq_getElem hl] at h1
        exact Option.some.inj h1)
      have hxn : x.l.length ≤ 1000 := hok.n
      have hbq : 0 ≤ bytesP (piE x.l) ∧ bytesP (piE x.l) ≤ 65535 * ((piE x.l).length : Int) := bytesP_le (by omega) _ fun y hy => by
        obtain ⟨z, hz, rfl⟩ := List.mem_map.1 hy
        have h1 := hok.ok z hz
        have h2 : z.p.stop = z.p.off + z.p.len := rfl
        have h3 := h1.1
        have h4 := h1.2
        omega
      rw [show (piE x.l).length = x.l.length by simp [piE]] at hbq
      have hzr := hbel.size
      have hb1 : b1 < wr.heap.size := by omega
      have hgr : g < wr.heap.size := by omega
      clear hr1 hx hok hr
      have e2 : wrap64 (s + bytesP (piE x.l)) = s + bytesP (piE x.l) := by unfold wrap64; omega
      obtain ⟨Y, hY⟩ : ∃ Y, Y = bytesP (piE x.l) := ⟨_, rfl⟩
      have HY := Lib.hid hY.symm
      rw [← hY] at e2 hbq
      clear hY
      go_wp2_with (go_at_call 50; refine (r15bytes x.A x.c x.l B b1 (o1 + k * 5 + 2) _ HOX.out (Nat.le_trans hB hzr)).mono ?_; rintro e w3 ⟨rfl, x3⟩; rw [HY.out])
      go_roundw
      case rel => exact ⟨k + 1, s + Y, by omega, by simp, rfl, by omega, Lib.hid (by rw [HE.out, HXD.out, bytesJ, show bytesP (bfE x).l = Y from HY.out]; omega), hbel.trans (x3.mono hzr)⟩
      case measure => simp [intOf]; omega
    · obtain rfl : n = k := by omega
      go_wp2
      go_ret
      exact ⟨by rw [HE.out, List.drop_eq_nil_of_le (by rw [HL.out, tbE, List.length_map, ← HN.out]; exact Nat.le_refl _), bytesJ, Int.add_zero]; rfl, hbel⟩
/-- The place of a key's buffer; none: -1. -/
def fndI (t : List Bf) (key : List UInt8) : Int := if findJ t key < t.length then (findJ t key : Int) else -1
theorem findJ_cons (x : Bf) (t : List Bf) (key : List UInt8) : findJ (x :: t) key = if x.key = key then 0 else findJ t key + 1 := by
  unfold findJ
  rw [List.findIdx_cons]
  by_cases h : x.key = key
  · rw [if_pos h, show (x.key == key) = true by simp [h]]; rfl
  · rw [if_neg h, show (x.key == key) = false by simp [h]]; rfl
set_option maxRecDepth 100000 in
set_option maxHeartbeats 1000000 in
theorem r16find (A : Option Addr) (c : Nat) (l : List XB) (B g o : Nat) (most mb wait : Int) (key : List UInt8) (w : World) (h : Tb w B g o A c l most mb wait) (hB : B ≤ w.heap.size) :
    Calls Try.prog 45 #[.pointer (some ⟨g, o, none⟩), .string (strB key)] w fun e w' => e = .returned (.int .i64 (fndI (tbE l) key)) ∧ Below w.heap.size w w' := by
  obtain ⟨n, hn⟩ : ∃ n, n = l.length := ⟨_, rfl⟩
  have HN := Lib.hid hn
  obtain ⟨L, hL⟩ : ∃ L, L = tbE l := ⟨_, rfl⟩
  have HL := Lib.hid hL
  have HO := Lib.hid h
  have k0 := h.cell
  have hgz : g < w.heap.size := cell_block k0
  have hn1 : n ≤ 1000 := by rw [hn]; exact h.n
  have hn2 : n ≤ c := by rw [hn]; exact h.cap
  rw [← hn] at k0
  rw [← hL]
  clear hn hL h
  go_enter Try.func45, Try.ntmps45
  go_wp2
  go_loopw [5] (fun i wr => ∃ (k : Nat), k ≤ n ∧ i = .int .i64 (k : Int) ∧ Hid (findJ L key = k + findJ (L.drop k) key) ∧ Below w.heap.size w wr)
    (fun i _ => n - (intOf i).toNat)
  case atStart => exact ⟨0, Nat.zero_le _, rfl, Lib.hid (by rw [List.drop_zero, Nat.zero_add]), Below.refl _ _⟩
  case round =>
    obtain ⟨k, hk, rfl, HE, hbel⟩ := hrel
    have kc := (hbel.cell (p := ⟨g, o, none⟩) hgz).trans k0
    by_cases hlt : k < n
    · skip
      obtain ⟨x, hx⟩ : ∃ x, l[k]? = some x := ⟨_, List.getElem?_eq_getElem (by rw [← HN.out]; exact hlt)⟩
      have hxm := List.mem_of_getElem? hx
      have hok := HO.out.parts x hxm
      obtain ⟨b1, o1, e1, hb1', hr1⟩ := HO.out.rd (by rw [← HN.out]; omega)
      obtain rfl := e1
      have hr := range_below (hr1 k x hx) hb1' (hbel.mono hB)
      have kx0 : wr.cell? ⟨b1, o1 + k * 5, none⟩ = some (.string (strB x.key)) := by simpa using hr 0 _ rfl
      have kx2 : wr.cell? ⟨b1, o1 + k * 5 + 2, none⟩ = some (.slice x.A x.l.length x.c) := hr 2 _ rfl
      have HOX : Hid (Ho wr B b1 (o1 + k * 5 + 2) x.A x.c x.l) := Lib.hid (by
        have h1 := hok.below (hbel.mono hB)
        exact ⟨kx2, hb1', h1.cap, h1.rd, h1.arg, h1.ok, by have := h1.n; omega, h1.none_⟩)
      have HXD : Hid (L.drop k = bfE x :: L.drop (k + 1)) := Lib.hid (by
        have hl : k < L.length := by rw [HL.out, tbE, List.length_map, ← HN.out]; exact hlt
        rw [List.drop_eq_getElem_cons hl]
        congr 1
        have h1 : L[k]? = some (bfE x) := by rw [HL.out, tbE, List.getElem?_map, hx]; rfl
        rw [List.getElem?_eq_getElem hl] at h1
        exact Option.some.inj h1)
      have hxn : x.l.length ≤ 1000 := hok.n
      have hbq : 0 ≤ bytesP (piE x.l) ∧ bytesP (piE x.l) ≤ 65535 * ((piE x.l).length : Int) := bytesP_le (by omega) _ fun y hy => by
        obtain ⟨z, hz, rfl⟩ := List.mem_map.1 hy
        have h1 := hok.ok z hz
        have h2 : z.p.stop = z.p.off + z.p.len := rfl
        have h3 := h1.1
        have h4 := h1.2
        omega
      rw [show (piE x.l).length = x.l.length by simp [piE]] at hbq
      have hzr := hbel.size
      have hb1 : b1 < wr.heap.size := by omega
      have hgr : g < wr.heap.size := by omega
      clear hr1 hx hok hr
      by_cases hq : x.key = key
      · have e4 : ((strB x.key).toList == (strB key).toList) = true := by rw [strB_eq]; simp [hq]
        have HFD : Hid (fndI L key = (k : Int)) := Lib.hid (by
          have hl : k < L.length := by rw [HL.out, tbE, List.length_map, ← HN.out]; exact hlt
          have h1 : findJ L key = k := by rw [HE.out, HXD.out, findJ_cons, if_pos (show (bfE x).key = key from hq), Nat.add_zero]
          rw [fndI, h1, if_pos hl])
        clear hq
        go_wp2
        go_ret
        exact ⟨by rw [HFD.out]; rfl, hbel⟩
      · have e4 : ((strB x.key).toList == (strB key).toList) = false := by rw [strB_eq]; simp [hq]
        have HFD : Hid (findJ L key = (k + 1) + findJ (L.drop (k + 1)) key) := Lib.hid (by rw [HE.out, HXD.out, findJ_cons, if_neg (show ¬ (bfE x).key = key from hq)]; omega)
        clear hq
        go_wp2
        go_roundw
        case rel => exact ⟨k + 1, by omega, by simp, HFD, hbel⟩
        case measure => simp [intOf]; omega
    · obtain rfl : n = k := by omega
      go_wp2
      go_ret
      exact ⟨by rw [fndI, HE.out, List.drop_eq_nil_of_le (by rw [HL.out, tbE, List.length_map, ← HN.out]; exact Nat.le_refl _), if_neg (by rw [HL.out, tbE, List.length_map, ← HN.out]; simp [findJ])]; rfl, hbel⟩
end Go.Proofs.Ytghbliabmecbcaa

/-
  Contract of the document's New of layer 16. Conditions are each theorem's own.
-/
namespace Go.Proofs.Ytghbliabmecbcaa
open Go.RowKit Go.Shelf
/-- What New refuses. -/
def badN (a b c : Int) : Prop := a < 0 ∨ a > 1073741824 ∨ b < 0 ∨ b > 1073741824 ∨ c < 1 ∨ c > 1099511627776
instance (a b c : Int) : Decidable (badN a b c) := by unfold badN; exact inferInstance
set_option maxRecDepth 100000 in
set_option maxHeartbeats 1000000 in
theorem r16new (a b c : Int) (w : World) :
    Calls Try.prog 10 #[.int .i64 a, .int .i64 b, .int .i64 c] w fun e w' =>
      (badN a b c ∧ e = .returned (.tuple #[.pointer none, .int .i64 1]) ∧ w = w') ∨
      (¬ badN a b c ∧ e = .returned (.tuple #[.pointer (some ⟨w.heap.size, 0, none⟩), .int .i64 0]) ∧ w' = w.alloc (.cells #[.slice none 0 0, .int .i64 a, .int .i64 b, .int .i64 c] 44)) := by
  go_enter Try.func10, Try.ntmps10
  by_cases h0 : a < 0
  · have d0 : decide (a < 0) = true := decide_eq_true h0
    go_wp2
    exact bodyPost_ret (results_tmp2 rfl _ _ _) rfl (.inl ⟨.inl h0, rfl, rfl⟩)
  · have d0 : decide (a < 0) = false := decide_eq_false h0
    by_cases h1 : a > 1073741824
    · have d1 : decide (a > 1073741824) = true := decide_eq_true h1
      have e1 : decide (1073741824 < a) = true := d1
      go_wp2
      exact bodyPost_ret (results_tmp2 rfl _ _ _) rfl (.inl ⟨.inr (.inl h1), rfl, rfl⟩)
    · have d1 : decide (a > 1073741824) = false := decide_eq_false h1
      have e1 : decide (1073741824 < a) = false := d1
      by_cases h2 : b < 0
      · have d2 : decide (b < 0) = true := decide_eq_true h2
        go_wp2
        exact bodyPost_ret (results_tmp2 rfl _ _ _) rfl (.inl ⟨.inr (.inr (.inl h2)), rfl, rfl⟩)
      · have d2 : decide (b < 0) = false := decide_eq_false h2
        by_cases h3 : b > 1073741824
        · have d3 : decide (b > 1073741824) = true := decide_eq_true h3
          have e3 : decide (1073741824 < b) = true := d3
          go_wp2
          exact bodyPost_ret (results_tmp2 rfl _ _ _) rfl (.inl ⟨.inr (.inr (.inr (.inl h3))), rfl, rfl⟩)
        · have d3 : decide (b > 1073741824) = false := decide_eq_false h3
          have e3 : decide (1073741824 < b) = false := d3
          by_cases h4 : c < 1
          · have d4 : decide (c < 1) = true := decide_eq_true h4
            go_wp2
            exact bodyPost_ret (results_tmp2 rfl _ _ _) rfl (.inl ⟨.inr (.inr (.inr (.inr (.inl h4)))), rfl, rfl⟩)
          · have d4 : decide (c < 1) = false := decide_eq_false h4
            by_cases h5 : c > 1099511627776
            · have d5 : decide (c > 1099511627776) = true := decide_eq_true h5
              have e5 : decide (1099511627776 < c) = true := d5
              go_wp2
              exact bodyPost_ret (results_tmp2 rfl _ _ _) rfl (.inl ⟨.inr (.inr (.inr (.inr (.inr (h5))))), rfl, rfl⟩)
            · have d5 : decide (c > 1099511627776) = false := decide_eq_false h5
              have e5 : decide (1099511627776 < c) = false := d5
              go_wp2
              exact bodyPost_ret (results_tmp2 rfl _ _ _) rfl (.inr ⟨by rintro (h | h | h | h | h | h) <;> omega, rfl, rfl⟩)
/-- A new table lies there. -/
theorem tb_new (a b c : Int) (w : World) : Tb (w.alloc (.cells #[.slice none 0 0, .int .i64 a, .int .i64 b, .int .i64 c] 44)) (w.heap.size + 1) w.heap.size 0 none 0 [] a b c := by
  have hh := World.alloc_heap_new w (.cells #[.slice none 0 0, .int .i64 a, .int .i64 b, .int .i64 c] 44)
  refine ⟨?_, ?_, ?_, ?_, by omega, Nat.le_refl _, (fun h => absurd h (by decide)), (fun x hx => by cases hx), by decide⟩ <;> exact cell_of_row _ _ _ _ _ _ hh
end Go.Proofs.Ytghbliabmecbcaa
