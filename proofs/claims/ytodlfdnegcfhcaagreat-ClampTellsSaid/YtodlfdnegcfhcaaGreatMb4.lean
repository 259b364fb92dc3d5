/-
  Contracts and lemmas on which the proofs of this seat stand (several texts in one). Conditions are each theorem's own.
-/
import Derived.Test.YtodlfdnegcfhcaaGreatMb3

/-
  Layer 8's awake, and what Build answers, in one shape. Conditions are each theorem's own.
-/
namespace Go.Proofs.YtodlfdnegcfhcaaGreat
open Go.RowKit

def resT (src dst : Int) (q : PT) : List UInt8 := if chkT q = 0 then bldT src dst q else []
theorem resT_shape {src dst : Int} {q : PT} {w w' : World} {v : Value} (h : (chkT q ≠ 0 → v = .slice none 0 0 ∧ Below w.heap.size w w') ∧ (chkT q = 0 → Made w w' v (bldT src dst q))) :
    ∃ P k, v = .slice P (resT src dst q).length k ∧ Rd w' w'.heap.size P (resT src dst q) ∧ Below w.heap.size w w' := by
  by_cases hc : chkT q = 0
  · obtain ⟨A, c, rfl, hl, hr, ho, hb⟩ := h.2 hc
    exact ⟨A, c, by rw [resT, if_pos hc], by rw [resT, if_pos hc]; exact hr, hb⟩
  · obtain ⟨rfl, hb⟩ := h.1 hc
    exact ⟨none, 0, by rw [resT, if_neg hc]; rfl, by rw [resT, if_neg hc]; exact Rd.nil, hb⟩
def qaT : PT := ⟨1, 2, 0, 0, 0, 0, 0, 0, [1, 2, 4, 5, 180, 1, 1, 1], []⟩
theorem argA {B g : Nat} {w : World} (hg : w.heap[g]? = some (.cells #[.int .u8 1, .int .u8 2, .int .u8 4, .int .u8 5, .int .u8 180, .int .u8 1, .int .u8 1, .int .u8 1] 5 (0, 0))) (hB : g < B) : Arg w B (some ⟨g, 0, none⟩) 8 qaT.opt :=
  ⟨Rd.of_block hg hB 0 (fun j hj => by
    have hj : j < 8 := hj
    rcases (by omega : j = 0 ∨ j = 1 ∨ j = 2 ∨ j = 3 ∨ j = 4 ∨ j = 5 ∨ j = 6 ∨ j = 7) with rfl | rfl | rfl | rfl | rfl | rfl | rfl | rfl <;> rfl), by decide, fun e => by cases e⟩
theorem mss_awake (g : Nat) (w : World) (ha : Arg w w.heap.size (some ⟨g, 0, none⟩) 8 qaT.opt) :
    Calls Tryz.prog 44 #[tsv qaT (some ⟨g, 0, none⟩) 8 none 0] w fun e w' => e = .returned (.tuple #[.int .i64 1460, .int .i64 1, .bool true]) ∧ Below w.heap.size w w' :=
  cTmss qaT (some ⟨g, 0, none⟩) none 8 0 w w.heap.size ha (Nat.le_refl _) (by decide)
theorem buildT_awake (g : Nat) (w : World) (ha : Arg w w.heap.size (some ⟨g, 0, none⟩) 8 qaT.opt) :
    Calls Tryz.prog 48 #[.int .i64 3, .int .i64 4, tsv qaT (some ⟨g, 0, none⟩) 8 none 0] w fun e w' => ∃ A c, e = .returned (.tuple #[.slice A 28 c, .int .i64 0]) ∧ Arg w' w'.heap.size A c (bldT 3 4 qaT) ∧ Below w.heap.size w w' := by
  have hc : chkT qaT = 0 := by decide
  have hlen : (bldT 3 4 qaT).length = 28 := bldT_len 3 4 qaT
  refine (cTbuild qaT (some ⟨g, 0, none⟩) 8 none 0 3 4 w w.heap.size ha (Arg.nil w _) (Nat.le_refl _) (by decide) (by decide)).mono ?_
  rintro e w' ⟨v, rfl, _, hm⟩
  obtain ⟨A, c, rfl, ha, ho, hb⟩ := made_shape (hm hc)
  exact ⟨A, c, by rw [hc, hlen], ha, hb⟩
theorem parseT_awake (A : Option Addr) (c B : Nat) (w : World) (h : Arg w B A c (bldT 3 4 qaT)) (hB : B ≤ w.heap.size) :
    Calls Tryz.prog 47 #[.int .i64 3, .int .i64 4, .slice A 28 c] w fun e w' => ∃ P p P' p', e = .returned (.tuple #[tsv qaT P p P' p', .int .i64 0]) ∧ Rd w' w'.heap.size P qaT.opt ∧ Rd w' w'.heap.size P' qaT.dat ∧ Below w.heap.size w w' := by
  have hlen : (bldT 3 4 qaT).length = 28 := bldT_len 3 4 qaT
  have hk := backT (src := 3) (dst := 4) (q := qaT) (by decide)
  have := cTparse (bldT 3 4 qaT) A c 3 4 w B h hB (by rw [hlen]; decide)
  rw [hk.1, hk.2, hlen] at this
  refine this.mono ?_
  rintro e w' ⟨P, p, P', p', rfl, hm, hm'⟩
  refine ⟨P, p, P', p', rfl, ?_, ?_, hm.below⟩
  · obtain ⟨_, _, e1, _, e3, _, _⟩ := id hm; cases e1; exact e3
  · obtain ⟨_, _, e1, _, e3, _, _⟩ := id hm'; cases e1; exact e3
end Go.Proofs.YtodlfdnegcfhcaaGreat

/-
  Contracts of the document's Option, Places and MSS of layer 8. Conditions are each theorem's own.
-/
namespace Go.Proofs.YtodlfdnegcfhcaaGreat
open Go.RowKit
set_option maxRecDepth 100000 in
set_option maxHeartbeats 2000000 in
theorem rOpt (A : Option Addr) (b : List UInt8) (c B k : Nat) (w : World) (hR : Rd w B A b) (hl : b.length ≤ 1000000) (hk : k ≤ 2000000) :
    Calls Tryz.prog 76 #[.slice A b.length c, .int .i64 (k : Int)] w fun e w' => e = .returned (.int .i64 (optL b k)) ∧ w = w' := by
  obtain ⟨n, hn'⟩ : ∃ n, n = b.length := ⟨_, rfl⟩
  have hn := Lib.hid hn'.symm
  have HR := Lib.hid hR
  rw [← hn'] at hl ⊢
  clear hn' hR
  go_enter Tryz.func76, Tryz.ntmps76
  by_cases h1 : n ≤ k
  · have d1 : decide (n ≤ k) = true := by simpa using h1
    have d1' : decide ((n : Int) ≤ (k : Int)) = true := by simp; omega
    have HE := Lib.hid (show optL b k = 0 by rw [optL, if_pos (by rw [hn.out]; exact h1)])
    go_wp2
    go_ret
    exact ⟨by rw [HE.out]; rfl, rfl⟩
  · have d1 : decide (n ≤ k) = false := by simpa using h1
    have d1' : decide ((n : Int) ≤ (k : Int)) = false := by simp; omega
    obtain ⟨b0, off, e, hb0, hc0⟩ := HR.out (by have := hn.out; omega)
    obtain rfl := e
    have HC := Lib.hid hc0
    clear hc0
    have kx := HC.out k (by rw [hn.out]; omega)
    have l0 := byt_lo b k; have l1 := byt_hi b k
    obtain ⟨X, hX⟩ : ∃ x, x = byt b k := ⟨_, rfl⟩
    rw [← hX] at kx l0 l1
    have HX := Lib.hid hX
    clear hX
    by_cases x1 : X ≤ 1
    · have e1 : decide (X ≤ 1) = true := by simpa using x1
      have HE := Lib.hid (show optL b k = 1 by rw [optL, if_neg (by rw [hn.out]; exact h1), if_pos (by rw [← HX.out]; exact x1)])
      go_wp2
      go_ret
      exact ⟨by rw [HE.out]; rfl, rfl⟩
    · have e1 : decide (X ≤ 1) = false := by simpa using x1
      by_cases h2 : n ≤ k + 1
      · have d2 : decide (n ≤ k + 1) = true := by simpa using h2
        have d2' : decide ((n : Int) ≤ (k : Int) + 1) = true := by simp; omega
        have HE := Lib.hid (show optL b k = 0 by rw [optL, if_neg (by rw [hn.out]; exact h1), if_neg (by rw [← HX.out]; exact x1), if_pos (.inl (by rw [hn.out]; exact h2))])
        go_wp2
        go_ret
        exact ⟨by rw [HE.out]; rfl, rfl⟩
      · have d2 : decide (n ≤ k + 1) = false := by simpa using h2
        have d2' : decide ((n : Int) ≤ (k : Int) + 1) = false := by simp; omega
        have ky := HC.out (k + 1) (by rw [hn.out]; omega)
        have m0 := byt_lo b (k + 1); have m1 := byt_hi b (k + 1)
        obtain ⟨Y, hY⟩ : ∃ y, y = byt b (k + 1) := ⟨_, rfl⟩
        rw [← hY] at ky m0 m1
        have HY := Lib.hid hY
        clear hY
        by_cases y2 : Y < 2
        · have dy : decide (Y < 2) = true := by simpa using y2
          have HE := Lib.hid (show optL b k = 0 by rw [optL, if_neg (by rw [hn.out]; exact h1), if_neg (by rw [← HX.out]; exact x1), if_pos (.inr (.inl (by rw [← HY.out]; exact y2)))])
          go_wp2
          go_ret
          exact ⟨by rw [HE.out]; rfl, rfl⟩
        · have dy : decide (Y < 2) = false := by simpa using y2
          by_cases yn : Y > (n : Int) - k
          · have dn : decide ((n : Int) - (k : Int) < Y) = true := by simpa using yn
            have HE := Lib.hid (show optL b k = 0 by rw [optL, if_neg (by rw [hn.out]; exact h1), if_neg (by rw [← HX.out]; exact x1), if_pos (.inr (.inr (by rw [← HY.out, hn.out]; exact yn)))])
            go_wp2
            go_ret
            exact ⟨by rw [HE.out]; rfl, rfl⟩
          · have dn : decide ((n : Int) - (k : Int) < Y) = false := by simp; omega
            have HE := Lib.hid (show (optL b k : Int) = Y by rw [optL, if_neg (by rw [hn.out]; exact h1), if_neg (by rw [← HX.out]; exact x1), if_neg (by rw [← HY.out, hn.out]; omega), ← HY.out]; omega)
            go_wp2
            go_ret
            exact ⟨by rw [HE.out]; rfl, rfl⟩
end Go.Proofs.YtodlfdnegcfhcaaGreat

/-
  Contract of the document's Places of layer 8. Conditions are each theorem's own.
-/
namespace Go.Proofs.YtodlfdnegcfhcaaGreat
open Go.RowKit
/-- Places as values. -/
def pv (ps : List Nat) : List Value := ps.map fun (x : Nat) => Value.int .i64 (x : Int)
theorem pv_len (ps : List Nat) : (pv ps).length = ps.length := by simp [pv]
theorem info_int : (Tryz.prog.info? 3).map (fun i => (i.zero, i.size, i.bytes)) = some (some (.int .i64 0), 1, 8) := by kernel_rfl
/-- append of one number onto a row of the call's own. -/
theorem append_int {w : World} {ops : Array Oper} {rest : List Oper} {o : Oper} {a : Act} {Q : Exit → Act → World → Prop} (hgd : o.guard = none) (s x : Operand)
    (ho : o.op = .call { callee := .builtin .append, args := #[s, x], argTypes := #[106, 106] })
    (base : Nat) (v : Value) (n : Nat) (ls : List Nat) (hs : a.eval s = v) (hown : w.ownsRow base 3 1 v n (pv ls))
    (g : Nat) (y : Nat) (hx : a.eval x = .slice (some ⟨g, 0, none⟩) 1 1) (hy : w.cell? ⟨g, 0, none⟩ = some (.int .i64 (y : Int)))
    (hlen : n ≤ 1000001) (hbase : base ≤ w.heap.size)
    (h : ∀ v' w', w'.ownsRow base 3 1 v' (n + 1) (pv (ls ++ [y])) → w.grownBy w' v.ownBlock → wpList Tryz.prog ops Q rest (a.put o.dst v') w') : wpList Tryz.prog ops Q (o :: rest) a w := by
  obtain ⟨i0, hi, hz0, hz1, hz2⟩ := info_parts info_int
  refine wpList_append_own w hgd s x 106 ho base 3 i0 (.int .i64 0) 1 8 Tryz.underlying106 hi hz0 hz1 hz2 rfl (by decide) v n (pv ls) hs hown ⟨g, 0, none⟩ 1 1 [.int .i64 (y : Int)] hx
      rfl (fun j u hu => ?_) (by intro u hu; simp only [List.mem_singleton] at hu; subst hu; rfl) (by unfold maxLen; omega) (by omega) hbase (fun v' w' h1 h2 _ => h v' w' (by simpa [pv] using h1) h2)
  have hj : j = 0 := by have := (List.getElem?_eq_some_iff.1 hu).1; simp at this; exact this
  subst hj
  simp only [List.getElem?_cons_zero, Option.some.injEq] at hu
  rw [← hu, add_off]; exact hy
set_option maxRecDepth 100000 in
set_option maxHeartbeats 2000000 in
theorem rPlaces (A : Option Addr) (b : List UInt8) (c B : Nat) (w : World) (hR : Arg w B A c b) (hB : B ≤ w.heap.size) (hl : b.length ≤ 1000000) :
    Calls Tryz.prog 75 #[.slice A b.length c] w fun e w' => ∃ v, e = .returned v ∧ w'.ownsRow w.heap.size 3 1 v (places b).length (pv (places b)) ∧ Below w.heap.size w w' := by
  obtain ⟨n, hn'⟩ : ∃ n, n = b.length := ⟨_, rfl⟩
  have hn := Lib.hid hn'.symm
  have HCALL : ∀ (k : Nat) (V : World), Below w.heap.size w V → k ≤ 2000000 → Calls Tryz.prog 76 #[.slice A n c, .int .i64 (k : Int)] V fun e w' => e = .returned (.int .i64 (optL b k)) ∧ V = w' := fun k V hV hk => by
    have := rOpt A b c B k V (hR.below (hV.mono hB)).rd hl hk
    rwa [hn.out] at this
  have HRD := Lib.hid hR.rd
  rw [← hn'] at hl ⊢
  have HPL := Lib.hid (places_len b)
  clear hn' hR
  go_enter Tryz.func75, Tryz.ntmps75
  go_wp2
  go_loopw [3, 4] (fun v i wr => ∃ (k : Nat) (pre : List Nat), k ≤ n ∧ i = .int .i64 (k : Int) ∧ Hid (places b = pre ++ rest b k) ∧ wr.ownsRow w.heap.size 3 1 v pre.length (pv pre) ∧ Below w.heap.size w wr)
    (fun _ i _ => n - (intOf i).toNat)
  case atStart => exact ⟨0, [], Nat.zero_le _, rfl, Lib.hid rfl, World.ownsRow_nil _ _ _ _, Below.refl _ _⟩
  case round =>
    obtain ⟨k, pre, hk, rfl, HP, hown, hbel⟩ := hrel
    obtain ⟨z, hz⟩ : ∃ z, z = optL b k := ⟨_, rfl⟩
    have HC1 := HCALL k wr hbel (by omega)
    rw [← hz] at HC1
    have HZ := Lib.hid hz.symm
    clear hz
    by_cases z0 : z = 0
    · subst z0
      go_wp2_with (go_at_call 76; refine HC1.mono ?_; rintro e w' ⟨rfl, rfl⟩)
      have HE := Lib.hid (show places b = pre by rw [HP.out, rest_none HZ.out, List.append_nil])
      exact bodyPost_ret (results_tmp rfl _ _ _) rfl ⟨_, rfl, by rw [HE.out]; exact hown, hbel⟩
    · have dz : decide (0 < z) = true := by simp; omega
      have dz' : decide ((0 : Int) < (z : Int)) = true := by simp; omega
      have hle := optL_le (b := b) (at_ := k) (by rw [HZ.out]; omega)
      rw [HZ.out, hn.out] at hle
      obtain ⟨b0, off, eA, hb0, hc0⟩ := HRD.out (by rw [hn.out]; omega)
      have hpl : pre.length ≤ 1000001 := by have h1 := HPL.out; rw [HP.out, List.length_append, hn.out] at h1; omega
      obtain rfl := eA
      have hb0' : b0 < w.heap.size := by omega
      have hc0' := hc0 k (by rw [hn.out]; omega)
      clear hc0
      obtain ⟨X, hX⟩ : ∃ x, x = byt b k := ⟨_, rfl⟩
      rw [← hX] at hc0'
      have HX := Lib.hid hX
      clear hX
      have hlk := hle.2
      by_cases x0 : X = 0
      · have e0 : (X == 0) = true := by simpa using x0
        have HE := Lib.hid (show places b = pre ++ [k] by rw [HP.out, rest_last (by rw [HZ.out]; omega) (by rw [← HX.out]; exact x0)])
        go_wp2_with (first | (go_at_call 76; refine HC1.mono ?_; rintro e w' ⟨rfl, rfl⟩) | (at_builtin; refine append_int rfl _ _ rfl w.heap.size _ _ pre rfl (hown.alloc _) wr.heap.size k rfl (Boxed.new wr 3 (.int .i64 (k : Int))).cell hpl (by have := hbel.size; simp; omega) ?_; intro v' w1 hown' hgrow; have hb1 : Below w.heap.size w w1 := (hbel.alloc hbel.size _).grown hgrow (by have := hbel.size; simp; omega) (own_block_ge hown); have kx1 := (hb1.cell (p := ⟨b0, off + k, none⟩) hb0').trans hc0'; have HC2 := HCALL k w1 hb1 (by omega); rw [HZ.out] at HC2; clear hown hgrow hbel) | (go_at_call 76; refine HC2.mono ?_; rintro e w' ⟨rfl, rfl⟩))
        exact bodyPost_ret (results_tmp rfl _ _ _) rfl ⟨_, rfl, by rw [HE.out, List.length_append]; exact hown', hb1⟩
      · have e0 : (X == 0) = false := by simpa using x0
        have HE := Lib.hid (show places b = (pre ++ [k]) ++ rest b (k + z) by rw [HP.out, rest_more (by rw [HZ.out]; omega) (by rw [← HX.out]; exact x0), HZ.out, List.append_assoc]; rfl)
        go_wp2_with (first | (go_at_call 76; refine HC1.mono ?_; rintro e w' ⟨rfl, rfl⟩) | (at_builtin; refine append_int rfl _ _ rfl w.heap.size _ _ pre rfl (hown.alloc _) wr.heap.size k rfl (Boxed.new wr 3 (.int .i64 (k : Int))).cell hpl (by have := hbel.size; simp; omega) ?_; intro v' w1 hown' hgrow; have hb1 : Below w.heap.size w w1 := (hbel.alloc hbel.size _).grown hgrow (by have := hbel.size; simp; omega) (own_block_ge hown); have kx1 := (hb1.cell (p := ⟨b0, off + k, none⟩) hb0').trans hc0'; have HC2 := HCALL k w1 hb1 (by omega); rw [HZ.out] at HC2; clear hown hgrow hbel) | (go_at_call 76; refine HC2.mono ?_; rintro e w' ⟨rfl, rfl⟩))
        go_roundw
        case rel => exact ⟨k + z, pre ++ [k], by omega, by simp, HE, by rw [List.length_append]; exact hown', hb1⟩
        case measure => simp [intOf]; omega
end Go.Proofs.YtodlfdnegcfhcaaGreat

/-
  Contract of the document's MSS of layer 8. Conditions are each theorem's own.
-/
namespace Go.Proofs.YtodlfdnegcfhcaaGreat
open Go.RowKit
/-- A row of places, as a slice. -/
theorem own_pv {w : World} {base : Nat} {v : Value} {ps : List Nat} (h : w.ownsRow base 3 1 v ps.length (pv ps)) :
    ∃ P c, v = .slice P ps.length c ∧ ∀ j, j < ps.length → ∃ g, P = some ⟨g, 0, none⟩ ∧ g < w.heap.size ∧ w.cell? ⟨g, j, none⟩ = some (.int .i64 ((ps.getD j 0 : Nat) : Int)) := by
  have h' := h
  rcases h'.2 with ⟨e, h0⟩ | ⟨g, cap, cur, e, _, hh, _, _⟩
  · exact ⟨none, 0, by rw [e, h0], fun j hj => by omega⟩
  · refine ⟨_, cap, e, fun j hj => ⟨g, rfl, heap_lt hh, ?_⟩⟩
    have := World.ownsRow.cells h (g := g) (by rw [e]; rfl) j (.int .i64 ((ps.getD j 0 : Nat) : Int)) (by simp [pv, hj])
    rwa [add_off, Nat.zero_add] at this
section
variable (q : PT) (A : Option Addr) (c : Nat) (A' : Option Addr) (c' : Nat) (w : World)
set_option maxRecDepth 100000 in
set_option maxHeartbeats 4000000 in
theorem rTmss (B : Nat) (hO : Arg w B A c q.opt) (hB0 : B ≤ w.heap.size) (ho0 : q.opt.length ≤ 1000000) :
    Calls Tryz.prog 46 #[tsv q A c A' c'] w fun e w' => e = .returned (.tuple #[.int .i64 (mssN q.opt), .int .i64 (mssA q.opt), .bool (mssK q.opt)]) ∧ Below w.heap.size w w' := by
  have hB : Below w.heap.size w (w.alloc (.cells (tsa q A c A' c') 41)) := (Below.refl w.heap.size w).alloc (Nat.le_refl _) _
  have hAt := Atts.new (q := q) (A := A) (c := c) (A' := A') (c' := c') w
  have hz : w.heap.size < (w.alloc (.cells (tsa q A c A' c') 41)).heap.size := by simp
  rw [tsv_eq]
  have k8 := hAt.opt
  go_enter Tryz.func46, Tryz.ntmps46
  go_upto_region 1 with fail
  generalize w.alloc (.cells (tsa q A c A' c') 41) = W at *
  have hOW := hO.below (hB.mono hB0)
  go_wp2_with (go_at_call 75; refine (rPlaces A q.opt c B _ hOW (Nat.le_trans hB0 hB.size) ho0).mono ?_; rintro e X ⟨v, rfl, hown, hx⟩; obtain ⟨P, pc, rfl, hP⟩ := own_pv hown)
  have hAtX := hAt.below hx hz
  have hBX : Below w.heap.size w X := hB.trans (hx.mono hB.size)
  have hzX : w.heap.size < X.heap.size := Nat.lt_of_lt_of_le hz hx.size
  have HRX : Hid (∀ V, Below X.heap.size X V → Rd V B A q.opt) := Lib.hid fun V hV => (hO.below ((hBX.trans (hV.mono hBX.size)).mono hB0)).rd
  have HRD := Lib.hid hO.rd
  obtain ⟨ps, hps⟩ : ∃ ps, ps = places q.opt := ⟨_, rfl⟩
  rw [← hps] at hP ⊢
  have HPS := Lib.hid hps
  have HPP := Lib.hid hP
  obtain ⟨m, hm'⟩ : ∃ m, m = ps.length := ⟨_, rfl⟩
  have hm := Lib.hid hm'
  have hml : m ≤ 1000001 := by rw [hm', hps]; have := places_len q.opt; omega
  rw [← hm']
  clear hown hx hOW k8 hAt hm' hps hP
  go_loopw [6] (fun i wr => ∃ k : Nat, k ≤ m ∧ i = .int .i64 (k : Int) ∧ (∀ j, j < k → mssB q.opt (ps.getD j 0) = false) ∧ Below X.heap.size X wr)
    (fun i _ => m - (intOf i).toNat)
  case atStart => exact ⟨0, Nat.zero_le _, rfl, fun j hj => absurd hj (Nat.not_lt_zero j), Below.refl _ _⟩
  case round =>
    obtain ⟨k, hk, rfl, hno, hw⟩ := hrel
    by_cases hlt : k < m
    · have dk : decide (k < m) = true := by simpa using hlt
      have dk' : decide ((k : Int) < (m : Int)) = true := by simp; omega
      obtain ⟨g, eP, hg, hc⟩ := HPP.out k (by rw [← hm.out]; exact hlt)
      obtain rfl := eP
      obtain ⟨a, ha⟩ : ∃ a, a = ps.getD k 0 := ⟨_, rfl⟩
      rw [← ha] at hc
      have KG : Hid (∀ V, Below X.heap.size X V → V.cell? ⟨g, k, none⟩ = some (.int .i64 (a : Int))) := Lib.hid fun V hV => (hV.cell (p := ⟨g, k, none⟩) hg).trans hc
      have hmem : a ∈ places q.opt := by
        rw [← HPS.out, ha, List.getD_eq_getElem?_getD, List.getElem?_eq_getElem (by rw [← hm.out]; exact hlt)]; exact List.getElem_mem _
      have hpos := places_mem hmem
      have hle := optL_le hpos
      obtain ⟨b0, off, eA, hb0, hc0⟩ := HRD.out (by omega)
      obtain rfl := eA
      have hca := hc0 a hle.2
      obtain ⟨Y, hY⟩ : ∃ y, y = byt q.opt a := ⟨_, rfl⟩
      rw [← hY] at hca
      have HY := Lib.hid hY
      have KB : Hid (∀ V, Below X.heap.size X V → V.cell? ⟨b0, off + a, none⟩ = some (.int .u8 Y)) := Lib.hid fun V hV => (hV.cell (p := ⟨b0, off + a, none⟩) (by show b0 < X.heap.size; omega)).trans (((hBX.mono hB0).cell (p := ⟨b0, off + a, none⟩) hb0).trans hca)
      have hlea := hle.2
      have HNX : Hid (mssB q.opt a = false → ∀ j, j < k + 1 → mssB q.opt (ps.getD j 0) = false) := Lib.hid fun h j hj => by
        rcases Nat.lt_or_ge j k with h1 | h1
        · exact hno j h1
        · obtain rfl : j = k := by omega
          rw [← ha]; exact h
      have HA := Lib.hid ha
      have HMEM := Lib.hid hno
      obtain ⟨z, hz'⟩ : ∃ z, z = optL q.opt a := ⟨_, rfl⟩
      have HZ := Lib.hid hz'.symm
      clear hc0 hca hc hY hle hno ha hmem hpos hz'
      by_cases y2 : Y = 2
      · subst y2
        by_cases z4 : z = 4
        · subst z4
          have hG : getV q.opt ((a : Int) + 2) 2 = n2 q.opt (a + 2) := by
            have h4 := optL_le (b := q.opt) (at_ := a) (by rw [HZ.out]; omega)
            rw [HZ.out] at h4
            have := get_two (b := q.opt) (i := a + 2) (by omega)
            simpa using this
          obtain ⟨N, hN⟩ : ∃ n, n = n2 q.opt (a + 2) := ⟨_, rfl⟩
          have HG := Lib.hid (show getV q.opt ((a : Int) + 2) 2 = N by rw [hG, hN])
          have HT := Lib.hid (show mssT q.opt = some a by
            unfold mssT
            rw [find_split (pre := ps.take k) (more := a :: ps.drop (k + 1)) (by
                rw [← HPS.out, HA.out, List.getD_eq_getElem?_getD, List.getElem?_eq_getElem (by rw [← hm.out]; exact hlt), Option.getD_some, List.getElem_cons_drop, List.take_append_drop])
              (fun x hx => by
                obtain ⟨j, hj, rfl⟩ := List.getElem_of_mem hx
                rw [List.length_take] at hj
                have := HMEM.out j (by omega)
                rwa [List.getD_eq_getElem?_getD, List.getElem?_eq_getElem (by omega), Option.getD_some, ← List.getElem_take] at this),
              List.find?_cons_of_pos (by unfold mssB; rw [← HY.out, HZ.out]; rfl)])
          have HN := Lib.hid hN
          clear hN hG
          go_upto_region 5 with fail
          refine wp_region_held_drew (S := fun w' => Below X.heap.size X w') (by kernel_rfl) hw.drew (fun hS => ?_)
          refine held_pure (i := 0) (oi := ⟨some 16, _, _, _, _, _⟩) rfl (by kernel_rfl) (by kernel_rfl) (by kernel_rfl) (fun _ _ _ h => h) (by rfl) (v := ?_) (fun w hSw => ?_) hS (fun hS => ?_)
          rotate_left
          · go_simp; try with_reducible rfl
          try go_frame
          refine held_pure (i := 1) (oi := ⟨some 17, _, _, _, _, _⟩) rfl (by kernel_rfl) (by kernel_rfl) (by kernel_rfl) (fun _ _ _ h => h) (by rfl) (fun w hSw => run_load_sl rfl rfl (hAtX.below hSw (by omega)).opt) hS (fun hS => ?_)
          try go_frame
          refine held_pure (i := 2) (oi := ⟨some 18, _, _, _, _, _⟩) rfl (by kernel_rfl) (by kernel_rfl) (by kernel_rfl) (fun _ _ _ h => h) (by rfl) (v := ?_) (fun w hSw => ?_) hS (fun hS => ?_)
          rotate_left
          · go_simp; try with_reducible rfl
          try go_frame
          refine held_pure (i := 3) (oi := ⟨some 19, _, _, _, _, _⟩) rfl (by kernel_rfl) (by kernel_rfl) (by kernel_rfl) (fun _ _ _ h => h) (by rfl) (v := ?_) (fun w hSw => ?_) hS (fun hS => ?_)
          rotate_left
          · go_simp; try with_reducible rfl
          try go_frame
          refine held_pure (i := 4) (oi := ⟨some 20, _, _, _, _, _⟩) rfl (by kernel_rfl) (by kernel_rfl) (by kernel_rfl) (fun _ _ _ h => h) (by rfl) (v := Value.pointer (some ⟨g, k, none⟩)) (fun w hSw => by go_simp) hS (fun hS => ?_)
          try go_frame
          refine held_pure (i := 5) (oi := ⟨some 21, _, _, _, _, _⟩) rfl (by kernel_rfl) (by kernel_rfl) (by kernel_rfl) (fun _ _ _ h => h) (by rfl) (fun w hSw => run_load_int rfl rfl (KG.out _ hSw)) hS (fun hS => ?_)
          try go_frame
          refine held_pure (i := 6) (oi := ⟨some 22, _, _, _, _, _⟩) rfl (by kernel_rfl) (by kernel_rfl) (by kernel_rfl) (fun _ _ _ h => h) (by rfl) (v := Value.pointer (some ⟨b0, off + a, none⟩)) (fun w hSw => by go_simp) hS (fun hS => ?_)
          try go_frame
          refine held_pure (i := 7) (oi := ⟨some 23, _, _, _, _, _⟩) rfl (by kernel_rfl) (by kernel_rfl) (by kernel_rfl) (fun _ _ _ h => h) (by rfl) (fun w hSw => run_load_byte rfl rfl (KB.out _ hSw)) hS (fun hS => ?_)
          try go_frame
          refine held_pure (i := 8) (oi := ⟨some 24, _, _, _, _, _⟩) rfl (by kernel_rfl) (by kernel_rfl) (by kernel_rfl) (fun _ _ _ h => h) (by rfl) (v := ?_) (fun w hSw => ?_) hS (fun hS => ?_)
          rotate_left
          · go_simp; try with_reducible rfl
          try go_frame
          refine held_pure (i := 9) (oi := ⟨some 25, _, _, _, _, _⟩) rfl (by kernel_rfl) (by kernel_rfl) (by kernel_rfl) (fun _ _ _ h => h) (by rfl) (v := ?_) (fun w hSw => ?_) hS (fun hS => ?_)
          rotate_left
          · go_simp; try with_reducible rfl
          try go_frame
          refine held_pure (i := 10) (oi := ⟨some 26, _, _, _, _, _⟩) rfl (by kernel_rfl) (by kernel_rfl) (by kernel_rfl) (fun _ _ _ h => h) (by rfl) (v := ?_) (fun w hSw => ?_) hS (fun hS => ?_)
          rotate_left
          · go_simp; try with_reducible rfl
          try go_frame
          refine held_pure (i := 11) (oi := ⟨some 27, _, _, _, _, _⟩) rfl (by kernel_rfl) (by kernel_rfl) (by kernel_rfl) (fun _ _ _ h => h) (by rfl) (fun w hSw => run_load_sl rfl rfl (hAtX.below hSw (by omega)).opt) hS (fun hS => ?_)
          try go_frame
          refine held_pure (i := 12) (oi := ⟨some 28, _, _, _, _, _⟩) rfl (by kernel_rfl) (by kernel_rfl) (by kernel_rfl) (fun _ _ _ h => h) (by rfl) (v := ?_) (fun w hSw => ?_) hS (fun hS => ?_)
          rotate_left
          · go_simp; try with_reducible rfl
          try go_frame
          refine held_pure (i := 13) (oi := ⟨some 29, _, _, _, _, _⟩) rfl (by kernel_rfl) (by kernel_rfl) (by kernel_rfl) (fun _ _ _ h => h) (by rfl) (v := ?_) (fun w hSw => ?_) hS (fun hS => ?_)
          rotate_left
          · go_simp; try with_reducible rfl
          try go_frame
          refine held_pure (i := 14) (oi := ⟨some 30, _, _, _, _, _⟩) rfl (by kernel_rfl) (by kernel_rfl) (by kernel_rfl) (fun _ _ _ h => h) (by rfl) (v := Value.pointer (some ⟨g, k, none⟩)) (fun w hSw => by go_simp) hS (fun hS => ?_)
          try go_frame
          refine held_pure (i := 15) (oi := ⟨some 31, _, _, _, _, _⟩) rfl (by kernel_rfl) (by kernel_rfl) (by kernel_rfl) (fun _ _ _ h => h) (by rfl) (fun w hSw => run_load_int rfl rfl (KG.out _ hSw)) hS (fun hS => ?_)
          try go_frame
          refine wpAnyH_ready (rs := [16]) (by kernel_rfl) (by simp) (AllReadyH.cons (o := ⟨some 32, _, _, _, _, _⟩) rfl (fun K hK => ?_) AllReadyH.nil)
          rw [if_pos (by rfl)]
          go_simp
          refine (rOpt (some ⟨b0, off, none⟩) q.opt c B a _ (HRX.out _ hS) ho0 (by omega)).mono ?_
          rintro e u16 ⟨rfl, rfl⟩
          rw [HZ.out]
          show K _ _
          refine hK.out _ _ hS (fun hS => ?_)
          clear hK K
          try go_frame
          refine held_pure (i := 17) (oi := ⟨some 33, _, _, _, _, _⟩) rfl (by kernel_rfl) (by kernel_rfl) (by kernel_rfl) (fun _ _ _ h => h) (by rfl) (v := ?_) (fun w hSw => ?_) hS (fun hS => ?_)
          rotate_left
          · go_simp; try with_reducible rfl
          try go_frame
          refine held_pure (i := 18) (oi := ⟨some 34, _, _, _, _, _⟩) rfl (by kernel_rfl) (by kernel_rfl) (by kernel_rfl) (fun _ _ _ h => h) (by rfl) (v := ?_) (fun w hSw => ?_) hS (fun hS => ?_)
          rotate_left
          · go_simp; try with_reducible rfl
          try go_frame
          refine wpAnyH_done (by kernel_rfl) ?_ _
          go_upto_region 6 with fail
          refine wp_region_held_drew (S := fun w' => Below X.heap.size X w') (by kernel_rfl) hS.drew (fun hS => ?_)
          refine held_pure (i := 0) (oi := ⟨some 35, _, _, _, _, _⟩) rfl (by kernel_rfl) (by kernel_rfl) (by kernel_rfl) (fun _ _ _ h => h) (by rfl) (v := ?_) (fun w hSw => ?_) hS (fun hS => ?_)
          rotate_left
          · go_simp; try with_reducible rfl
          try go_frame
          refine held_pure (i := 1) (oi := ⟨some 36, _, _, _, _, _⟩) rfl (by kernel_rfl) (by kernel_rfl) (by kernel_rfl) (fun _ _ _ h => h) (by rfl) (fun w hSw => run_load_sl rfl rfl (hAtX.below hSw (by omega)).opt) hS (fun hS => ?_)
          try go_frame
          refine held_pure (i := 2) (oi := ⟨some 37, _, _, _, _, _⟩) rfl (by kernel_rfl) (by kernel_rfl) (by kernel_rfl) (fun _ _ _ h => h) (by rfl) (v := ?_) (fun w hSw => ?_) hS (fun hS => ?_)
          rotate_left
          · go_simp; try with_reducible rfl
          try go_frame
          refine held_pure (i := 3) (oi := ⟨some 38, _, _, _, _, _⟩) rfl (by kernel_rfl) (by kernel_rfl) (by kernel_rfl) (fun _ _ _ h => h) (by rfl) (v := ?_) (fun w hSw => ?_) hS (fun hS => ?_)
          rotate_left
          · go_simp; try with_reducible rfl
          try go_frame
          refine held_pure (i := 4) (oi := ⟨some 39, _, _, _, _, _⟩) rfl (by kernel_rfl) (by kernel_rfl) (by kernel_rfl) (fun _ _ _ h => h) (by rfl) (v := Value.pointer (some ⟨g, k, none⟩)) (fun w hSw => by go_simp) hS (fun hS => ?_)
          try go_frame
          refine held_pure (i := 5) (oi := ⟨some 40, _, _, _, _, _⟩) rfl (by kernel_rfl) (by kernel_rfl) (by kernel_rfl) (fun _ _ _ h => h) (by rfl) (fun w hSw => run_load_int rfl rfl (KG.out _ hSw)) hS (fun hS => ?_)
          try go_frame
          refine held_pure (i := 6) (oi := ⟨some 41, _, _, _, _, _⟩) rfl (by kernel_rfl) (by kernel_rfl) (by kernel_rfl) (fun _ _ _ h => h) (by rfl) (v := .int .i64 ((a : Int) + 2)) (fun w hSw => by go_simp; exact IntWalk.i64_in _ (by omega)) hS (fun hS => ?_)
          try go_frame
          refine held_pure (i := 8) (oi := ⟨some 43, _, _, _, _, _⟩) rfl (by kernel_rfl) (by kernel_rfl) (by kernel_rfl) (fun _ _ _ h => h) (by rfl) (v := ?_) (fun w hSw => ?_) hS (fun hS => ?_)
          rotate_left
          · go_simp; try with_reducible rfl
          try go_frame
          refine held_pure (i := 9) (oi := ⟨some 44, _, _, _, _, _⟩) rfl (by kernel_rfl) (by kernel_rfl) (by kernel_rfl) (fun _ _ _ h => h) (by rfl) (v := ?_) (fun w hSw => ?_) hS (fun hS => ?_)
          rotate_left
          · go_simp; try with_reducible rfl
          try go_frame
          refine held_pure (i := 10) (oi := ⟨some 45, _, _, _, _, _⟩) rfl (by kernel_rfl) (by kernel_rfl) (by kernel_rfl) (fun _ _ _ h => h) (by rfl) (v := Value.pointer (some ⟨g, k, none⟩)) (fun w hSw => by go_simp) hS (fun hS => ?_)
          try go_frame
          refine held_pure (i := 11) (oi := ⟨some 46, _, _, _, _, _⟩) rfl (by kernel_rfl) (by kernel_rfl) (by kernel_rfl) (fun _ _ _ h => h) (by rfl) (fun w hSw => run_load_int rfl rfl (KG.out _ hSw)) hS (fun hS => ?_)
          try go_frame
          refine wpAnyH_ready (rs := [7]) (by kernel_rfl) (by simp) (AllReadyH.cons (o := ⟨some 42, _, _, _, _, _⟩) rfl (fun K hK => ?_) AllReadyH.nil)
          rw [if_pos (by rfl)]
          go_simp
          refine (r8num (some ⟨b0, off, none⟩) q.opt c B ((a : Int) + 2) 2 _ (HRX.out _ hS) (by omega)).mono ?_
          rintro e u7 ⟨rfl, rfl⟩
          rw [HG.out]
          show K _ _
          refine hK.out _ _ hS (fun hS => ?_)
          clear hK K
          try go_frame
          refine held_pure (i := 12) (oi := ⟨some 2, _, _, _, _, _⟩) rfl (by kernel_rfl) (by kernel_rfl) (by kernel_rfl) (fun _ _ _ h => h) (by rfl) (v := ?_) (fun w hSw => ?_) hS (fun hS => ?_)
          rotate_left
          · go_simp; try with_reducible rfl
          try go_frame
          refine held_pure (i := 13) (oi := ⟨some 3, _, _, _, _, _⟩) rfl (by kernel_rfl) (by kernel_rfl) (by kernel_rfl) (fun _ _ _ h => h) (by rfl) (v := ?_) (fun w hSw => ?_) hS (fun hS => ?_)
          rotate_left
          · go_simp; try with_reducible rfl
          try go_frame
          refine held_pure (i := 14) (oi := ⟨some 4, _, _, _, _, _⟩) rfl (by kernel_rfl) (by kernel_rfl) (by kernel_rfl) (fun _ _ _ h => h) (by rfl) (v := ?_) (fun w hSw => ?_) hS (fun hS => ?_)
          rotate_left
          · go_simp; try with_reducible rfl
          try go_frame
          refine wpAnyH_done (by kernel_rfl) ?_ _
          go_wp2_with fail
          go_ret3
          refine ⟨?_, hBX.trans (hS.mono hBX.size)⟩
          unfold mssN mssA mssK
          rw [HT.out, HN.out]
          rfl
        · have e4 : ((z : Int) == 4) = false := by simp; omega
          have HNO := Lib.hid (HNX.out (by unfold mssB; rw [HZ.out, decide_eq_false z4, Bool.and_false]))
          go_upto_region 5 with fail
          refine wp_region_held_drew (S := fun w' => Below X.heap.size X w') (by kernel_rfl) hw.drew (fun hS => ?_)
          refine held_pure (i := 0) (oi := ⟨some 16, _, _, _, _, _⟩) rfl (by kernel_rfl) (by kernel_rfl) (by kernel_rfl) (fun _ _ _ h => h) (by rfl) (v := ?_) (fun w hSw => ?_) hS (fun hS => ?_)
          rotate_left
          · go_simp; try with_reducible rfl
          try go_frame
          refine held_pure (i := 1) (oi := ⟨some 17, _, _, _, _, _⟩) rfl (by kernel_rfl) (by kernel_rfl) (by kernel_rfl) (fun _ _ _ h => h) (by rfl) (fun w hSw => run_load_sl rfl rfl (hAtX.below hSw (by omega)).opt) hS (fun hS => ?_)
          try go_frame
          refine held_pure (i := 2) (oi := ⟨some 18, _, _, _, _, _⟩) rfl (by kernel_rfl) (by kernel_rfl) (by kernel_rfl) (fun _ _ _ h => h) (by rfl) (v := ?_) (fun w hSw => ?_) hS (fun hS => ?_)
          rotate_left
          · go_simp; try with_reducible rfl
          try go_frame
          refine held_pure (i := 3) (oi := ⟨some 19, _, _, _, _, _⟩) rfl (by kernel_rfl) (by kernel_rfl) (by kernel_rfl) (fun _ _ _ h => h) (by rfl) (v := ?_) (fun w hSw => ?_) hS (fun hS => ?_)
          rotate_left
          · go_simp; try with_reducible rfl
          try go_frame
          refine held_pure (i := 4) (oi := ⟨some 20, _, _, _, _, _⟩) rfl (by kernel_rfl) (by kernel_rfl) (by kernel_rfl) (fun _ _ _ h => h) (by rfl) (v := Value.pointer (some ⟨g, k, none⟩)) (fun w hSw => by go_simp) hS (fun hS => ?_)
          try go_frame
          refine held_pure (i := 5) (oi := ⟨some 21, _, _, _, _, _⟩) rfl (by kernel_rfl) (by kernel_rfl) (by kernel_rfl) (fun _ _ _ h => h) (by rfl) (fun w hSw => run_load_int rfl rfl (KG.out _ hSw)) hS (fun hS => ?_)
          try go_frame
          refine held_pure (i := 6) (oi := ⟨some 22, _, _, _, _, _⟩) rfl (by kernel_rfl) (by kernel_rfl) (by kernel_rfl) (fun _ _ _ h => h) (by rfl) (v := Value.pointer (some ⟨b0, off + a, none⟩)) (fun w hSw => by go_simp) hS (fun hS => ?_)
          try go_frame
          refine held_pure (i := 7) (oi := ⟨some 23, _, _, _, _, _⟩) rfl (by kernel_rfl) (by kernel_rfl) (by kernel_rfl) (fun _ _ _ h => h) (by rfl) (fun w hSw => run_load_byte rfl rfl (KB.out _ hSw)) hS (fun hS => ?_)
          try go_frame
          refine held_pure (i := 8) (oi := ⟨some 24, _, _, _, _, _⟩) rfl (by kernel_rfl) (by kernel_rfl) (by kernel_rfl) (fun _ _ _ h => h) (by rfl) (v := ?_) (fun w hSw => ?_) hS (fun hS => ?_)
          rotate_left
          · go_simp; try with_reducible rfl
          try go_frame
          refine held_pure (i := 9) (oi := ⟨some 25, _, _, _, _, _⟩) rfl (by kernel_rfl) (by kernel_rfl) (by kernel_rfl) (fun _ _ _ h => h) (by rfl) (v := ?_) (fun w hSw => ?_) hS (fun hS => ?_)
          rotate_left
          · go_simp; try with_reducible rfl
          try go_frame
          refine held_pure (i := 10) (oi := ⟨some 26, _, _, _, _, _⟩) rfl (by kernel_rfl) (by kernel_rfl) (by kernel_rfl) (fun _ _ _ h => h) (by rfl) (v := ?_) (fun w hSw => ?_) hS (fun hS => ?_)
          rotate_left
          · go_simp; try with_reducible rfl
          try go_frame
          refine held_pure (i := 11) (oi := ⟨some 27, _, _, _, _, _⟩) rfl (by kernel_rfl) (by kernel_rfl) (by kernel_rfl) (fun _ _ _ h => h) (by rfl) (fun w hSw => run_load_sl rfl rfl (hAtX.below hSw (by omega)).opt) hS (fun hS => ?_)
          try go_frame
          refine held_pure (i := 12) (oi := ⟨some 28, _, _, _, _, _⟩) rfl (by kernel_rfl) (by kernel_rfl) (by kernel_rfl) (fun _ _ _ h => h) (by rfl) (v := ?_) (fun w hSw => ?_) hS (fun hS => ?_)
          rotate_left
          · go_simp; try with_reducible rfl
          try go_frame
          refine held_pure (i := 13) (oi := ⟨some 29, _, _, _, _, _⟩) rfl (by kernel_rfl) (by kernel_rfl) (by kernel_rfl) (fun _ _ _ h => h) (by rfl) (v := ?_) (fun w hSw => ?_) hS (fun hS => ?_)
          rotate_left
          · go_simp; try with_reducible rfl
          try go_frame
          refine held_pure (i := 14) (oi := ⟨some 30, _, _, _, _, _⟩) rfl (by kernel_rfl) (by kernel_rfl) (by kernel_rfl) (fun _ _ _ h => h) (by rfl) (v := Value.pointer (some ⟨g, k, none⟩)) (fun w hSw => by go_simp) hS (fun hS => ?_)
          try go_frame
          refine held_pure (i := 15) (oi := ⟨some 31, _, _, _, _, _⟩) rfl (by kernel_rfl) (by kernel_rfl) (by kernel_rfl) (fun _ _ _ h => h) (by rfl) (fun w hSw => run_load_int rfl rfl (KG.out _ hSw)) hS (fun hS => ?_)
          try go_frame
          refine wpAnyH_ready (rs := [16]) (by kernel_rfl) (by simp) (AllReadyH.cons (o := ⟨some 32, _, _, _, _, _⟩) rfl (fun K hK => ?_) AllReadyH.nil)
          rw [if_pos (by rfl)]
          go_simp
          refine (rOpt (some ⟨b0, off, none⟩) q.opt c B a _ (HRX.out _ hS) ho0 (by omega)).mono ?_
          rintro e u16 ⟨rfl, rfl⟩
          rw [HZ.out]
          show K _ _
          refine hK.out _ _ hS (fun hS => ?_)
          clear hK K
          try go_frame
          refine held_pure (i := 17) (oi := ⟨some 33, _, _, _, _, _⟩) rfl (by kernel_rfl) (by kernel_rfl) (by kernel_rfl) (fun _ _ _ h => h) (by rfl) (v := ?_) (fun w hSw => ?_) hS (fun hS => ?_)
          rotate_left
          · go_simp; try with_reducible rfl
          try go_frame
          refine held_pure (i := 18) (oi := ⟨some 34, _, _, _, _, _⟩) rfl (by kernel_rfl) (by kernel_rfl) (by kernel_rfl) (fun _ _ _ h => h) (by rfl) (v := ?_) (fun w hSw => ?_) hS (fun hS => ?_)
          rotate_left
          · go_simp; try with_reducible rfl
          try go_frame
          refine wpAnyH_done (by kernel_rfl) ?_ _
          go_wp2_with fail
          go_roundw
          case rel => exact ⟨k + 1, by omega, by simp, HNO.out, hS⟩
          case measure => simp [intOf]; omega
      · have e2 : (Y == 2) = false := by simpa using y2
        have HNO := Lib.hid (HNX.out (by unfold mssB; rw [← HY.out, decide_eq_false y2, Bool.false_and]))
        go_upto_region 5 with fail
        refine wp_region_held_drew (S := fun w' => Below X.heap.size X w') (by kernel_rfl) hw.drew (fun hS => ?_)
        refine held_pure (i := 0) (oi := ⟨some 16, _, _, _, _, _⟩) rfl (by kernel_rfl) (by kernel_rfl) (by kernel_rfl) (fun _ _ _ h => h) (by rfl) (v := ?_) (fun w hSw => ?_) hS (fun hS => ?_)
        rotate_left
        · go_simp; try with_reducible rfl
        try go_frame
        refine held_pure (i := 1) (oi := ⟨some 17, _, _, _, _, _⟩) rfl (by kernel_rfl) (by kernel_rfl) (by kernel_rfl) (fun _ _ _ h => h) (by rfl) (fun w hSw => run_load_sl rfl rfl (hAtX.below hSw (by omega)).opt) hS (fun hS => ?_)
        try go_frame
        refine held_pure (i := 2) (oi := ⟨some 18, _, _, _, _, _⟩) rfl (by kernel_rfl) (by kernel_rfl) (by kernel_rfl) (fun _ _ _ h => h) (by rfl) (v := ?_) (fun w hSw => ?_) hS (fun hS => ?_)
        rotate_left
        · go_simp; try with_reducible rfl
        try go_frame
        refine held_pure (i := 3) (oi := ⟨some 19, _, _, _, _, _⟩) rfl (by kernel_rfl) (by kernel_rfl) (by kernel_rfl) (fun _ _ _ h => h) (by rfl) (v := ?_) (fun w hSw => ?_) hS (fun hS => ?_)
        rotate_left
        · go_simp; try with_reducible rfl
        try go_frame
        refine held_pure (i := 4) (oi := ⟨some 20, _, _, _, _, _⟩) rfl (by kernel_rfl) (by kernel_rfl) (by kernel_rfl) (fun _ _ _ h => h) (by rfl) (v := Value.pointer (some ⟨g, k, none⟩)) (fun w hSw => by go_simp) hS (fun hS => ?_)
        try go_frame
        refine held_pure (i := 5) (oi := ⟨some 21, _, _, _, _, _⟩) rfl (by kernel_rfl) (by kernel_rfl) (by kernel_rfl) (fun _ _ _ h => h) (by rfl) (fun w hSw => run_load_int rfl rfl (KG.out _ hSw)) hS (fun hS => ?_)
        try go_frame
        refine held_pure (i := 6) (oi := ⟨some 22, _, _, _, _, _⟩) rfl (by kernel_rfl) (by kernel_rfl) (by kernel_rfl) (fun _ _ _ h => h) (by rfl) (v := Value.pointer (some ⟨b0, off + a, none⟩)) (fun w hSw => by go_simp) hS (fun hS => ?_)
        try go_frame
        refine held_pure (i := 7) (oi := ⟨some 23, _, _, _, _, _⟩) rfl (by kernel_rfl) (by kernel_rfl) (by kernel_rfl) (fun _ _ _ h => h) (by rfl) (fun w hSw => run_load_byte rfl rfl (KB.out _ hSw)) hS (fun hS => ?_)
        try go_frame
        refine held_pure (i := 8) (oi := ⟨some 24, _, _, _, _, _⟩) rfl (by kernel_rfl) (by kernel_rfl) (by kernel_rfl) (fun _ _ _ h => h) (by rfl) (v := ?_) (fun w hSw => ?_) hS (fun hS => ?_)
        rotate_left
        · go_simp; try with_reducible rfl
        try go_frame
        refine held_pure (i := 9) (oi := ⟨some 25, _, _, _, _, _⟩) rfl (by kernel_rfl) (by kernel_rfl) (by kernel_rfl) (fun _ _ _ h => h) (by rfl) (v := ?_) (fun w hSw => ?_) hS (fun hS => ?_)
        rotate_left
        · go_simp; try with_reducible rfl
        try go_frame
        refine held_skip (i := 10) (oi := ⟨some 26, _, _, _, _, _⟩) rfl (by kernel_rfl) (by kernel_rfl) (by kernel_rfl) (fun _ _ _ h => h) (by rfl) hS (fun hS => ?_)
        try go_frame
        refine held_skip (i := 11) (oi := ⟨some 27, _, _, _, _, _⟩) rfl (by kernel_rfl) (by kernel_rfl) (by kernel_rfl) (fun _ _ _ h => h) (by rfl) hS (fun hS => ?_)
        try go_frame
        refine held_skip (i := 12) (oi := ⟨some 28, _, _, _, _, _⟩) rfl (by kernel_rfl) (by kernel_rfl) (by kernel_rfl) (fun _ _ _ h => h) (by rfl) hS (fun hS => ?_)
        try go_frame
        refine held_skip (i := 13) (oi := ⟨some 29, _, _, _, _, _⟩) rfl (by kernel_rfl) (by kernel_rfl) (by kernel_rfl) (fun _ _ _ h => h) (by rfl) hS (fun hS => ?_)
        try go_frame
        refine held_skip (i := 14) (oi := ⟨some 30, _, _, _, _, _⟩) rfl (by kernel_rfl) (by kernel_rfl) (by kernel_rfl) (fun _ _ _ h => h) (by rfl) hS (fun hS => ?_)
        try go_frame
        refine held_skip (i := 15) (oi := ⟨some 31, _, _, _, _, _⟩) rfl (by kernel_rfl) (by kernel_rfl) (by kernel_rfl) (fun _ _ _ h => h) (by rfl) hS (fun hS => ?_)
        try go_frame
        refine held_skip (i := 16) (oi := ⟨some 32, _, _, _, _, _⟩) rfl (by kernel_rfl) (by kernel_rfl) (by kernel_rfl) (fun _ _ _ h => h) (by rfl) hS (fun hS => ?_)
        try go_frame
        refine held_skip (i := 17) (oi := ⟨some 33, _, _, _, _, _⟩) rfl (by kernel_rfl) (by kernel_rfl) (by kernel_rfl) (fun _ _ _ h => h) (by rfl) hS (fun hS => ?_)
        try go_frame
        refine held_pure (i := 18) (oi := ⟨some 34, _, _, _, _, _⟩) rfl (by kernel_rfl) (by kernel_rfl) (by kernel_rfl) (fun _ _ _ h => h) (by rfl) (v := ?_) (fun w hSw => ?_) hS (fun hS => ?_)
        rotate_left
        · go_simp; try with_reducible rfl
        try go_frame
        refine wpAnyH_done (by kernel_rfl) ?_ _
        go_wp2_with fail
        go_roundw
        case rel => exact ⟨k + 1, by omega, by simp, HNO.out, hS⟩
        case measure => simp [intOf]; omega
    · have dk : decide (k < m) = false := by simpa using hlt
      have dk' : decide ((k : Int) < (m : Int)) = false := by simp; omega
      have HT := Lib.hid (show mssT q.opt = none by
        unfold mssT
        rw [← HPS.out]
        exact List.find?_eq_none.2 (fun x hx => by
          obtain ⟨j, hj, rfl⟩ := List.getElem_of_mem hx
          have := hno j (by have := hm.out; omega)
          rw [List.getD_eq_getElem?_getD, List.getElem?_eq_getElem hj, Option.getD_some] at this
          rw [this]; simp))
      clear hno
      go_wp2
      go_ret3
      refine ⟨?_, hBX.trans (hw.mono hBX.size)⟩
      unfold mssN mssA mssK
      rw [HT.out]
      rfl
end
end Go.Proofs.YtodlfdnegcfhcaaGreat
