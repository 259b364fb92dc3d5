/-
  Whatever the bytes and the cuts, HolesOrder answers true and its arguments read as they did: bytes that are cut anywhere, and come in either order, or twice, are the bytes. No condition.
-/
import Derived.Test.YtkncgjjflkbnfaaRows
import Derived.WalkKit
import Derived.ProofKit
import Derived.OpenShut
import Derived.ChangeOld
import Derived.Below
import Derived.Test.YtkncgjjflkbnfaaMa2
import Derived.Test.YtkncgjjflkbnfaaMc1
namespace Go.Proofs.Ytkncgjjflkbnfaa.holesOrder
open Go.ChangeShapes Go.WideShapes Go.ChangeAt Go.RowKit
set_option linter.unusedVariables false
attribute [local go_sem] Oper.semAt_some

theorem own : ownKnob Try.prog.godebug = none := by kernel_rfl
theorem laidOut : laidOutB Try.prog = true := by kernel_rfl

/-! ### The walk -/
set_option maxRecDepth 100000 in
set_option maxHeartbeats 4000000 in
theorem walk (A0 : Option Addr) (c0 : Nat) (b0 : List UInt8) (A1 : Option Addr) (c1 : Nat) (b1 : List UInt8) (w : World) (h0 : Arg w w.heap.size A0 c0 b0) (m0 : c0 ≤ maxLen) (h1 : Arg w w.heap.size A1 c1 b1) (m1 : c1 ≤ maxLen) :
    Calls Try.prog 5 #[.slice A0 b0.length c0, .slice A1 b1.length c1] w fun e w' => e = .returned (.bool true) ∧ Below w.heap.size w w' := by
  obtain ⟨n, hn⟩ : ∃ n, n = b0.length := ⟨_, rfl⟩
  obtain ⟨q, hq⟩ : ∃ q, q = b1.length := ⟨_, rfl⟩
  have HN := Lib.hid hn
  have HQ := Lib.hid hq
  have HB0 := Lib.hid h0
  have HB1 := Lib.hid h1
  have hc0 : n ≤ c0 := by rw [hn]; exact h0.cap
  have hc1 : q ≤ c1 := by rw [hq]; exact h1.cap
  unfold maxLen at m0 m1
  rw [← hn, ← hq]
  clear hn hq h0 h1
  by_cases t1 : n > 2000
  · have d1 : decide ((n : Int) > 2000) = true := decide_eq_true (by omega)
    have d1' : decide (2000 < (n : Int)) = true := d1
    go_enter Try.func5, Try.ntmps5
    go_wp2_with (first | (go_at_call 11; refine (awake15 w1).mono ?_; rintro e w2 ⟨rfl, x2⟩) | (go_at_call 11; refine (awake15 w).mono ?_; rintro e w1 ⟨rfl, x1⟩))
    go_ret
    exact ⟨rfl, x1.trans (x2.mono x1.size)⟩
  · have d1 : decide ((n : Int) > 2000) = false := decide_eq_false (by omega)
    have d1' : decide (2000 < (n : Int)) = false := d1
    by_cases t2 : q > 40
    · have d2 : decide ((q : Int) > 40) = true := decide_eq_true (by omega)
      have d2' : decide (40 < (q : Int)) = true := d2
      go_enter Try.func5, Try.ntmps5
      go_wp2_with (first | (go_at_call 11; refine (awake15 w1).mono ?_; rintro e w2 ⟨rfl, x2⟩) | (go_at_call 11; refine (awake15 w).mono ?_; rintro e w1 ⟨rfl, x1⟩))
      go_ret
      exact ⟨rfl, x1.trans (x2.mono x1.size)⟩
    · have d2 : decide ((q : Int) > 40) = false := decide_eq_false (by omega)
      have d2' : decide (40 < (q : Int)) = false := d2
      have hn2 : n ≤ 2000 := by omega
      have hq4 : q ≤ 40 := by omega
      clear t1 t2
      go_enter Try.func5, Try.ntmps5
      go_wp2_with (go_at_call 11; refine (awake15 w).mono ?_; rintro e w1 ⟨rfl, x1⟩)
      clear d1 d1' d2 d2'
      go_loopw [5, 6, 31] (fun v5 s6 i wr => ∃ (k ak : Nat) (v : Value) (l : List XP) (ln : Nat), k ≤ q ∧ i = .int .i64 (k : Int) ∧ s6 = .int .i64 (ak : Int) ∧ v = v5 ∧ (ln = l.length ∧ ln ≤ k) ∧ (ak = 0 ∨ ak < n) ∧ wr.ownsRow w.heap.size 32 3 v ln (l.flatMap clP) ∧
          Hid (∀ tail, Chain b0 ak tail → Chain b0 0 (piE l ++ tail)) ∧ Hid (∀ y ∈ l, Arg w w.heap.size y.A y.c y.p.b) ∧ Below w.heap.size w wr)
        (fun _ _ i _ => q - (intOf i).toNat)
      case atStart => exact ⟨0, 0, _, [], 0, Nat.zero_le _, rfl, rfl, rfl, ⟨rfl, Nat.le_refl _⟩, .inl rfl, World.ownsRow_nil _ _ _ _, Lib.hid (fun tail h => h), Lib.hid (fun y h => by cases h), x1⟩
      case round =>
        obtain ⟨k, ak, v, l, ln, hk, rfl, rfl, rfl, ⟨hln, hlk⟩, hak, ownR, HCH, HARG, hbel⟩ := hrel
        clear x1
        have hak2 : ak ≤ n := by omega
        by_cases hlt : k < q
        · obtain ⟨b9, o9, e9, hb9, hc9⟩ := HB1.out.rd (by rw [← HQ.out]; omega)
          have kc := (hbel.cell (p := ⟨b9, o9 + k, none⟩) hb9).trans (hc9 k (by rw [← HQ.out]; exact hlt))
          obtain ⟨X, hX⟩ : ∃ X, X = byt b1 k := ⟨_, rfl⟩
          have hX0 := byt_lo b1 k
          have hX1 := byt_hi b1 k
          rw [← hX] at kc hX0 hX1
          obtain ⟨z, hz⟩ : ∃ z : Nat, (z : Int) = 8 * (1 + X % 20) := ⟨(8 * (1 + X % 20)).toNat, by omega⟩
          have hz1 : 0 < z := by omega
          have hz2 : z ≤ 160 := by omega
          have hz8 : z % 8 = 0 := by omega
          have HZ := Lib.hid hz.symm
          subst e9
          clear hX hc9 hz
          by_cases hbr : ak + z ≥ n
          · have db : decide ((ak : Int) + 8 * (1 + X % 20) ≥ (n : Int)) = true := decide_eq_true (by have := HZ.out; omega)
            have db' : decide ((n : Int) ≤ (ak : Int) + 8 * (1 + X % 20)) = true := db
            clear hbr
            obtain ⟨x, hx⟩ : ∃ x, x = XP.mk ⟨(ak : Int), false, b0.drop ak⟩ (cutA A0 c0 ak) (c0 - ak) := ⟨_, rfl⟩
            have hxl : (b0.drop ak).length = n - ak := by rw [List.length_drop, ← HN.out]
            have HXP : Hid (Value.agg #[.int .i64 (ak : Int), .bool false, .slice (cutA A0 c0 ak) (n - ak) (c0 - ak)] = .agg (clP x).toArray) := Lib.hid (by rw [hx]; simp only [clP]; rw [hxl])
            have hxa : Arg w w.heap.size x.A x.c x.p.b := by rw [hx]; exact HB0.out.cut_lo ak
            have HCC : Hid (Chain b0 0 (piE (l ++ [x]))) := Lib.hid (by
              have h9 := HCH.out _ (Chain.last (b := b0) (k := ak) (by rw [← HN.out]; omega) (by rw [← HN.out]; omega))
              rw [piE, List.map_append, hx]
              exact h9)
            have HA2 : Hid (∀ y ∈ l ++ [x], Arg w w.heap.size y.A y.c y.p.b) := Lib.hid (fun y hy => by
              rcases List.mem_append.1 hy with hy | hy
              · exact HARG.out y hy
              · rw [List.mem_singleton.1 hy]; exact hxa)
            have HFM : Hid (l.flatMap clP ++ [x].flatMap clP = (l ++ [x]).flatMap clP) := Lib.hid (List.flatMap_append).symm
            have bA : Below w.heap.size w (wr.alloc (.cells (clP x).toArray 32)) := hbel.alloc hbel.size _
            have ownA : (wr.alloc (.cells (clP x).toArray 32)).ownsRow w.heap.size 32 3 v ln (l.flatMap clP) := ownR.alloc _
            obtain ⟨N2, hN2⟩ : ∃ N2, N2 = ln + 1 := ⟨_, rfl⟩
            have HN2 := Lib.hid hN2
            have hN3 : N2 ≤ 41 := by omega
            have hN4 : 0 < N2 := by omega
            have HL2 : Hid (N2 = (l ++ [x]).length) := Lib.hid (by rw [hN2, hln]; simp)
            clear hx hxl hxa hN2
            go_wp2_with (first
              | (go_at_call 13; refine (hcnew w7).mono ?_; rintro e w8 ⟨rfl, h8, x8, -⟩)
              | (go_at_call 13; refine (hcnew w6).mono ?_; rintro e w7 ⟨rfl, h7, x7, -⟩)
              | (at_builtin; refine append_lps rfl _ _ rfl w.heap.size v ln (l.flatMap clP) rfl ownA (wr.heap.size + 1) ⟨wr.heap.size, 0, none⟩ 1 1 [x] rfl rfl (lps_new wr x) (by omega) bA.size ?_; intro v6 w6 own6 grow6; rw [HFM.out, ← HN2.out] at own6; have b6 := bA.grown grow6 bA.size (fun k hk => own_block_ge ownA k hk); obtain ⟨gl, cl, cur, rfl, hcl, hgl, hrl⟩ := own_row32n own6 HL2.out hN4; have HRL := Lib.hid hrl; clear own6 grow6 hrl)
              | ((with_reducible show wpList _ _ _ (Oper.mk _ (Op.buildSlice _ _ _) _ _ _ _ :: _) _ _); refine wpList_growU rfl (run_bslp (cs := (clP x).toArray) rfl HXP.out rfl) ?_)
              | ((with_reducible show wpList _ _ _ (Oper.mk _ (Op.slice _ _ _ _ _) _ _ _ _ :: _) _ _); refine wpList_val rfl (run_cut_l (l := ak) (m := n - ak) rfl rfl rfl (by omega) rfl) ?_))
            have b7 := b6.trans (x7.mono b6.size)
            have b8 := b7.trans (x8.mono b7.size)
            have hgl8 := (x8.block gl (Nat.lt_of_lt_of_le (heap_lt hgl) x7.size)).trans ((x7.block gl (heap_lt hgl)).trans hgl)
            have HR8 : Hid (∀ (j : Nat) (y : XP), (l ++ [x])[j]? = some y → w8.rangeAt gl (j * 3) (clP y)) := Lib.hid (fun j y hy => range_blk (HRL.out j y hy) ((x8.block gl (Nat.lt_of_lt_of_le (heap_lt hgl) x7.size)).trans (x7.block gl (heap_lt hgl))))
            have h18 := h7.below x8
            have hg12 : w6.heap.size ≠ w7.heap.size := by have := heap_lt h7.obj; omega
            have own10 : Own0 w.heap.size w6.heap.size (.slice none 0 0) := ⟨b6.size, fun k h => by cases h⟩
            have own20 : Own0 w.heap.size w7.heap.size (.slice none 0 0) := ⟨b7.size, fun k h => by cases h⟩
            generalize hgg1 : w6.heap.size = g1 at *
            generalize hgg2 : w7.heap.size = g2 at *
            have HG1 := Lib.hid hgg1
            have HG2 := Lib.hid hgg2
            obtain ⟨P, hP⟩ : ∃ P, P = piE (l ++ [x]) := ⟨_, rfl⟩
            have HPP := Lib.hid hP
            have HCP : Hid (Chain b0 0 P) := Lib.hid (by rw [hP]; exact HCC.out)
            have hPl : P.length = N2 := by rw [hP, piE, List.length_map, ← HL2.out]
            have HPL := Lib.hid hPl
            have hb6 : b0.length ≤ 65535 := by rw [← HN.out]; omega
            have HFA := Lib.hid HCP.out.facts.1
            have HLL : Hid (∀ y ∈ l ++ [x], 0 ≤ y.p.off ∧ y.p.stop ≤ 2000) := Lib.hid (fun y hy => by
              obtain ⟨⟨h1, h2, _⟩, _⟩ := HFA.out y.p (by rw [hP]; exact List.mem_map.2 ⟨y, hy, rfl⟩)
              exact ⟨h1, by rw [← HN.out] at h2; omega⟩)
            clear hgg1 hgg2 hP hPl h7 b6 b7 x7 x8 hgl bA ownA hbel ownR hak hak2
            go_loopw [73] (fun i wr => ∃ (j : Nat) (A1' : Option Addr) (c1' : Nat) (L1 : List XP) (A2' : Option Addr) (c2' : Nat) (L2 : List XP), j ≤ N2 ∧ i = .int .i64 (j : Int) ∧ Hx wr g1 A1' c1' L1 ∧ Hx wr g2 A2' c2' L2 ∧ Hid (Same (piE L1) (P.take j)) ∧ Hid (Same (piE L2) (P.reverse.take j)) ∧
                Own0 w.heap.size g1 (.slice A1' L1.length c1') ∧ Own0 w.heap.size g2 (.slice A2' L2.length c2') ∧ Apart2 (.slice A1' L1.length c1') (.slice A2' L2.length c2') ∧ KP w8 wr ∧ Below w.heap.size w wr)
              (fun i _ => N2 - (intOf i).toNat)
            case atStart => exact ⟨0, none, 0, [], none, 0, [], Nat.zero_le _, rfl, h18, h8, Lib.hid Same.nil, Lib.hid Same.nil, own10, own20, (fun k h => by cases h), ⟨Nat.le_refl _, fun _ _ _ _ => rfl⟩, b8⟩
            case round =>
              obtain ⟨j, A1', c1', L1, A2', c2', L2, hj, rfl, hx1, hx2, HSM1, HSM2, hown1, hown2, hap, hkp, hbel⟩ := hrel
              clear h18 h8 own10 own20 b8
              have hL1 : L1.length ≤ 41 := by
                have := HSM1.out.perm.length_eq
                rw [piE, List.length_map, List.length_take] at this
                omega
              have hL2 : L2.length ≤ 41 := by
                have := HSM2.out.perm.length_eq
                rw [piE, List.length_map, List.length_take] at this
                omega
              by_cases hlt : j < N2
              · obtain ⟨xj, hxj⟩ : ∃ xj, (l ++ [x])[j]? = some xj := ⟨_, List.getElem?_eq_getElem (by rw [← HL2.out]; exact hlt)⟩
                obtain ⟨xk, hxk⟩ : ∃ xk, (l ++ [x])[N2 - 1 - j]? = some xk := ⟨_, List.getElem?_eq_getElem (by rw [← HL2.out]; omega)⟩
                have hxjm := List.mem_of_getElem? hxj
                have hxkm := List.mem_of_getElem? hxk
                obtain ⟨oj0, oj1⟩ := HLL.out xj hxjm
                obtain ⟨ok0, ok1⟩ := HLL.out xk hxkm
                have ej := xj.p.stop_eq
                have ek := xk.p.stop_eq
                have elj : xj.p.len = (xj.p.b.length : Int) := rfl
                have elk : xk.p.len = (xk.p.b.length : Int) := rfl
                have hlj : xj.p.b.length ≤ 2000 := by omega
                have hlk2 : xk.p.b.length ≤ 2000 := by omega
                have hoj : -9223372036854775808 ≤ xj.p.off ∧ xj.p.off ≤ 9223372036854775807 := by omega
                have hok : -9223372036854775808 ≤ xk.p.off ∧ xk.p.off ≤ 9223372036854775807 := by omega
                have hPj : P[j]? = some xj.p := by rw [HPP.out, piE, List.getElem?_map, hxj]; rfl
                have hPk : P.reverse[j]? = some xk.p := by
                  rw [List.getElem?_reverse (by rw [HPL.out]; exact hlt), HPL.out, HPP.out, piE, List.getElem?_map, hxk]; rfl
                obtain ⟨f1, f2⟩ := chain_take HCP.out hb6 hPj
                obtain ⟨f3, f4, f5, f6⟩ := chain_rev HCP.out hb6 hPk
                have HE1 : Hid (addC (piE L1) ⟨xj.p.off, xj.p.more, xj.p.b⟩ = 0) := Lib.hid ((HSM1.out.addE _).trans f1)
                have HF1 := Lib.hid f2
                have HE2 : Hid (addC (piE L2) ⟨xk.p.off, xk.p.more, xk.p.b⟩ = 0) := Lib.hid ((HSM2.out.addE _).trans f3)
                have HF2 := Lib.hid f4
                have HF3 := Lib.hid f5
                have HF4 := Lib.hid f6
                have hgw := (hkp.block gl _ _ hgl8).trans hgl8
                have hrj0 := range_blk (HR8.out j xj hxj) (hkp.block gl _ _ hgl8)
                have hrk := range_blk (HR8.out (N2 - 1 - j) xk hxk) (hkp.block gl _ _ hgl8)
                obtain ⟨V, hV⟩ : ∃ V, V = wr.alloc (.cells (clP xk).toArray 32) := ⟨_, rfl⟩
                have HVV := Lib.hid hV
                have bV : Below wr.heap.size wr V := by rw [hV]; exact (Below.refl _ wr).alloc (Nat.le_refl _) _
                have hbV : V.heap[wr.heap.size]? = some (.cells (clP xk).toArray 32 (0, 0)) := by rw [hV]; exact World.alloc_heap_new wr _
                have hgV := (bV.block gl (heap_lt hgw)).trans hgw
                have hrj := range_blk hrj0 (bV.block gl (heap_lt hgw))
                have dV : Below V.heap.size V V.drew := (Below.refl _ V).drew
                have dW := (hbel.trans (bV.mono hbel.size)).trans (dV.mono (Nat.le_trans hbel.size bV.size))
                have zdW := dW.size
                have h1D := (hx1.below bV).below dV
                have h2D := (hx2.below bV).below dV
                have hkV := hkp.trans (KP.of_below bV)
                have ht9 : ((N2 : Int) - 1 - (j : Int)).toNat = N2 - 1 - j := by omega
                have ht8 : (N2 - 1 - j : Nat) < N2 := by omega
                clear hV hxj hxk hPj hPk f1 f2 f3 f4 f5 f6 ej ek elj elk hrj0 hgw
                go_upto_region 21 with (first
                  | ((with_reducible show wpList _ _ _ (Oper.mk _ (Op.load 32 _) _ _ _ _ :: _) _ _); refine wpList_val rfl (run_load_lp rfl rfl hrk rfl) ?_)
                  | ((with_reducible show wpList _ _ _ (Oper.mk _ (Op.store 32 _ _) _ _ _ _ :: _) _ _); refine lp_store_new (cs := (clP xk).toArray) rfl rfl rfl rfl (clP_one xk) ?_; rw [← HVV.out]))
                refine wp_region_held_drew (S := fun w' => KP V w') (by kernel_rfl) (KP.of_below dV) (fun hS => ?_)
                refine held_pure (i := 0) (oi := ⟨some 84, _, _, _, _, _⟩) rfl (by kernel_rfl) (by kernel_rfl) (by kernel_rfl) (fun _ _ _ h => h) (by rfl) (v := ?_) (fun w hSw => ?_) hS (fun hS => ?_)
                rotate_left
                · go_simp; try with_reducible rfl
                try go_frame
                refine held_pure (i := 1) (oi := ⟨some 85, _, _, _, _, _⟩) rfl (by kernel_rfl) (by kernel_rfl) (by kernel_rfl) (fun _ _ _ h => h) (by rfl) (v := ?_) (fun w hSw => ?_) hS (fun hS => ?_)
                rotate_left
                · go_simp; try with_reducible rfl
                try go_frame
                refine held_pure (i := 2) (oi := ⟨some 86, _, _, _, _, _⟩) rfl (by kernel_rfl) (by kernel_rfl) (by kernel_rfl) (fun _ _ _ h => h) (by rfl) (v := ?_) (fun w hSw => ?_) hS (fun hS => ?_)
                rotate_left
                · go_simp; try with_reducible rfl
                try go_frame
                refine held_pure (i := 3) (oi := ⟨some 87, _, _, _, _, _⟩) rfl (by kernel_rfl) (by kernel_rfl) (by kernel_rfl) (fun _ _ _ h => h) (by rfl) (v := Value.pointer (some ⟨gl, j * 3, none⟩)) (fun w hSw => by go_simp; try (exact fun h => absurd h (by omega))) hS (fun hS => ?_)
                try go_frame
                refine held_pure (i := 4) (oi := ⟨some 88, _, _, _, _, _⟩) rfl (by kernel_rfl) (by kernel_rfl) (by kernel_rfl) (fun _ _ _ h => h) (by rfl) (v := Value.pointer (some ⟨gl, j * 3, none⟩)) (fun w hSw => by go_simp) hS (fun hS => ?_)
                try go_frame
                refine held_pure (i := 5) (oi := ⟨some 89, _, _, _, _, _⟩) rfl (by kernel_rfl) (by kernel_rfl) (by kernel_rfl) (fun _ _ _ h => h) (by rfl) (fun w hSw => run_load_int rfl rfl (by simpa using (range_blk hrj (hSw.block _ _ _ hgV)) 0 _ rfl)) hS (fun hS => ?_)
                try go_frame
                refine held_pure (i := 6) (oi := ⟨some 90, _, _, _, _, _⟩) rfl (by kernel_rfl) (by kernel_rfl) (by kernel_rfl) (fun _ _ _ h => h) (by rfl) (v := ?_) (fun w hSw => ?_) hS (fun hS => ?_)
                rotate_left
                · go_simp; try with_reducible rfl
                try go_frame
                refine held_pure (i := 7) (oi := ⟨some 91, _, _, _, _, _⟩) rfl (by kernel_rfl) (by kernel_rfl) (by kernel_rfl) (fun _ _ _ h => h) (by rfl) (v := ?_) (fun w hSw => ?_) hS (fun hS => ?_)
                rotate_left
                · go_simp; try with_reducible rfl
                try go_frame
                refine held_pure (i := 8) (oi := ⟨some 92, _, _, _, _, _⟩) rfl (by kernel_rfl) (by kernel_rfl) (by kernel_rfl) (fun _ _ _ h => h) (by rfl) (v := Value.pointer (some ⟨gl, j * 3, none⟩)) (fun w hSw => by go_simp; try (exact fun h => absurd h (by omega))) hS (fun hS => ?_)
                try go_frame
                refine held_pure (i := 9) (oi := ⟨some 93, _, _, _, _, _⟩) rfl (by kernel_rfl) (by kernel_rfl) (by kernel_rfl) (fun _ _ _ h => h) (by rfl) (v := Value.pointer (some ⟨gl, j * 3 + 1, none⟩)) (fun w hSw => by go_simp) hS (fun hS => ?_)
                try go_frame
                refine held_pure (i := 10) (oi := ⟨some 94, _, _, _, _, _⟩) rfl (by kernel_rfl) (by kernel_rfl) (by kernel_rfl) (fun _ _ _ h => h) (by rfl) (fun w hSw => run_load_bool rfl rfl (by simpa using (range_blk hrj (hSw.block _ _ _ hgV)) 1 _ rfl)) hS (fun hS => ?_)
                try go_frame
                refine held_pure (i := 11) (oi := ⟨some 95, _, _, _, _, _⟩) rfl (by kernel_rfl) (by kernel_rfl) (by kernel_rfl) (fun _ _ _ h => h) (by rfl) (v := ?_) (fun w hSw => ?_) hS (fun hS => ?_)
                rotate_left
                · go_simp; try with_reducible rfl
                try go_frame
                refine held_pure (i := 12) (oi := ⟨some 96, _, _, _, _, _⟩) rfl (by kernel_rfl) (by kernel_rfl) (by kernel_rfl) (fun _ _ _ h => h) (by rfl) (v := ?_) (fun w hSw => ?_) hS (fun hS => ?_)
                rotate_left
                · go_simp; try with_reducible rfl
                try go_frame
                refine held_pure (i := 13) (oi := ⟨some 97, _, _, _, _, _⟩) rfl (by kernel_rfl) (by kernel_rfl) (by kernel_rfl) (fun _ _ _ h => h) (by rfl) (v := Value.pointer (some ⟨gl, j * 3, none⟩)) (fun w hSw => by go_simp; try (exact fun h => absurd h (by omega))) hS (fun hS => ?_)
                try go_frame
                refine held_pure (i := 14) (oi := ⟨some 98, _, _, _, _, _⟩) rfl (by kernel_rfl) (by kernel_rfl) (by kernel_rfl) (fun _ _ _ h => h) (by rfl) (v := Value.pointer (some ⟨gl, j * 3 + 2, none⟩)) (fun w hSw => by go_simp) hS (fun hS => ?_)
                try go_frame
                refine held_pure (i := 15) (oi := ⟨some 99, _, _, _, _, _⟩) rfl (by kernel_rfl) (by kernel_rfl) (by kernel_rfl) (fun _ _ _ h => h) (by rfl) (fun w hSw => run_load_sl rfl rfl (by simpa using (range_blk hrj (hSw.block _ _ _ hgV)) 2 _ rfl)) hS (fun hS => ?_)
                try go_frame
                refine wpAnyH_ready (rs := [16]) (by kernel_rfl) (by simp) (AllReadyH.cons (o := ⟨some 100, _, _, _, _, _⟩) rfl (fun K hK => ?_) AllReadyH.nil)
                rw [if_pos (by rfl)]
                go_simp
                refine (hcadd g1 A1' c1' L1 xj.p.off xj.p.more xj.A xj.p.b xj.c V.drew h1D ((HA2.out xj hxjm).below dW |>.more zdW) (by omega) hoj (by omega)).mono ?_
                rintro e w16 ⟨rfl, A3, c3, L3, h13, hp3, k3, ob3, ln3⟩
                rw [HE1.out]
                have h23 := h1D.beside h2D k3 hg12 hap
                have kp3 := (KP.of_below dV).trans (KP.of_kept k3 h1D.ofT th_no.2.2.2)
                have B3 := hown1.kept dW zdW k3
                have own3 := hown1.next zdW ob3
                have ap3 := Apart2.next hap (own_lt h2D) ob3
                have zB3 := B3.size
                show K _ _
                refine hK.out _ _ kp3 (fun hS => ?_)
                clear hK K
                try go_frame
                refine held_pure (i := 17) (oi := ⟨some 101, _, _, _, _, _⟩) rfl (by kernel_rfl) (by kernel_rfl) (by kernel_rfl) (fun _ _ _ h => h) (by rfl) (v := .bool false) (fun w hSw => by go_simp) hS (fun hS => ?_)
                try go_frame
                refine held_pure (i := 18) (oi := ⟨some 102, _, _, _, _, _⟩) rfl (by kernel_rfl) (by kernel_rfl) (by kernel_rfl) (fun _ _ _ h => h) (by rfl) (v := ?_) (fun w hSw => ?_) hS (fun hS => ?_)
                rotate_left
                · go_simp; try with_reducible rfl
                try go_frame
                refine held_pure (i := 19) (oi := ⟨some 103, _, _, _, _, _⟩) rfl (by kernel_rfl) (by kernel_rfl) (by kernel_rfl) (fun _ _ _ h => h) (by rfl) (v := ?_) (fun w hSw => ?_) hS (fun hS => ?_)
                rotate_left
                · go_simp; try with_reducible rfl
                try go_frame
                refine held_pure (i := 20) (oi := ⟨some 104, _, _, _, _, _⟩) rfl (by kernel_rfl) (by kernel_rfl) (by kernel_rfl) (fun _ _ _ h => h) (by rfl) (v := ?_) (fun w hSw => ?_) hS (fun hS => ?_)
                rotate_left
                · go_simp; try with_reducible rfl
                try go_frame
                refine held_pure (i := 21) (oi := ⟨some 105, _, _, _, _, _⟩) rfl (by kernel_rfl) (by kernel_rfl) (by kernel_rfl) (fun _ _ _ h => h) (by rfl) (fun w hSw => run_load_int rfl rfl (cells_at (i := 0) ((hSw.block _ _ _ hbV).trans hbV) rfl)) hS (fun hS => ?_)
                try go_frame
                refine held_pure (i := 22) (oi := ⟨some 106, _, _, _, _, _⟩) rfl (by kernel_rfl) (by kernel_rfl) (by kernel_rfl) (fun _ _ _ h => h) (by rfl) (v := ?_) (fun w hSw => ?_) hS (fun hS => ?_)
                rotate_left
                · go_simp; try with_reducible rfl
                try go_frame
                refine held_pure (i := 23) (oi := ⟨some 107, _, _, _, _, _⟩) rfl (by kernel_rfl) (by kernel_rfl) (by kernel_rfl) (fun _ _ _ h => h) (by rfl) (fun w hSw => run_load_bool rfl rfl (cells_at (i := 1) ((hSw.block _ _ _ hbV).trans hbV) rfl)) hS (fun hS => ?_)
                try go_frame
                refine held_pure (i := 24) (oi := ⟨some 108, _, _, _, _, _⟩) rfl (by kernel_rfl) (by kernel_rfl) (by kernel_rfl) (fun _ _ _ h => h) (by rfl) (v := ?_) (fun w hSw => ?_) hS (fun hS => ?_)
                rotate_left
                · go_simp; try with_reducible rfl
                try go_frame
                refine held_pure (i := 25) (oi := ⟨some 109, _, _, _, _, _⟩) rfl (by kernel_rfl) (by kernel_rfl) (by kernel_rfl) (fun _ _ _ h => h) (by rfl) (fun w hSw => run_load_sl rfl rfl (cells_at (i := 2) ((hSw.block _ _ _ hbV).trans hbV) rfl)) hS (fun hS => ?_)
                try go_frame
                refine wpAnyH_ready (rs := [26]) (by kernel_rfl) (by simp) (AllReadyH.cons (o := ⟨some 110, _, _, _, _, _⟩) rfl (fun K hK => ?_) AllReadyH.nil)
                rw [if_pos (by rfl)]
                go_simp
                refine (hcadd g2 A2' c2' L2 xk.p.off xk.p.more xk.A xk.p.b xk.c w16 h23 ((HA2.out xk hxkm).below B3 |>.more zB3) (by omega) hok (by omega)).mono ?_
                rintro e w26 ⟨rfl, A4, c4, L4, h24, hp4, k4, ob4, ln4⟩
                rw [HE2.out]
                have h14 := h23.beside h13 k4 (Ne.symm hg12) ap3.symm
                have kp4 := kp3.trans (KP.of_kept k4 h23.ofT th_no.2.2.2)
                have B4 := hown2.kept B3 zB3 k4
                have own4 := hown2.next zB3 ob4
                have ap4 := (Apart2.next ap3.symm (own_lt h13) ob4).symm
                have zB4 := B4.size
                have HS4 : Hid (Same (piE L4) (P.reverse.take (j + 1))) := Lib.hid (by rw [hp4, ← HF2.out]; exact HSM2.out.addL _)
                have HE3 : Hid (addC (piE L4) ⟨xk.p.off, xk.p.more, xk.p.b⟩ = 0) := Lib.hid ((HS4.out.addE _).trans HF3.out)
                show K _ _
                refine hK.out _ _ kp4 (fun hS => ?_)
                clear hK K
                try go_frame
                refine held_pure (i := 27) (oi := ⟨some 111, _, _, _, _, _⟩) rfl (by kernel_rfl) (by kernel_rfl) (by kernel_rfl) (fun _ _ _ h => h) (by rfl) (v := .bool false) (fun w hSw => by go_simp) hS (fun hS => ?_)
                try go_frame
                refine held_pure (i := 28) (oi := ⟨some 112, _, _, _, _, _⟩) rfl (by kernel_rfl) (by kernel_rfl) (by kernel_rfl) (fun _ _ _ h => h) (by rfl) (v := ?_) (fun w hSw => ?_) hS (fun hS => ?_)
                rotate_left
                · go_simp; try with_reducible rfl
                try go_frame
                refine held_pure (i := 29) (oi := ⟨some 113, _, _, _, _, _⟩) rfl (by kernel_rfl) (by kernel_rfl) (by kernel_rfl) (fun _ _ _ h => h) (by rfl) (v := ?_) (fun w hSw => ?_) hS (fun hS => ?_)
                rotate_left
                · go_simp; try with_reducible rfl
                try go_frame
                refine held_pure (i := 30) (oi := ⟨some 114, _, _, _, _, _⟩) rfl (by kernel_rfl) (by kernel_rfl) (by kernel_rfl) (fun _ _ _ h => h) (by rfl) (v := ?_) (fun w hSw => ?_) hS (fun hS => ?_)
                rotate_left
                · go_simp; try with_reducible rfl
                try go_frame
                refine held_pure (i := 31) (oi := ⟨some 115, _, _, _, _, _⟩) rfl (by kernel_rfl) (by kernel_rfl) (by kernel_rfl) (fun _ _ _ h => h) (by rfl) (v := ?_) (fun w hSw => ?_) hS (fun hS => ?_)
                rotate_left
                · go_simp; try with_reducible rfl
                try go_frame
                refine held_pure (i := 32) (oi := ⟨some 116, _, _, _, _, _⟩) rfl (by kernel_rfl) (by kernel_rfl) (by kernel_rfl) (fun _ _ _ h => h) (by rfl) (fun w hSw => run_load_int rfl rfl (cells_at (i := 0) ((hSw.block _ _ _ hbV).trans hbV) rfl)) hS (fun hS => ?_)
                try go_frame
                refine held_pure (i := 33) (oi := ⟨some 117, _, _, _, _, _⟩) rfl (by kernel_rfl) (by kernel_rfl) (by kernel_rfl) (fun _ _ _ h => h) (by rfl) (v := ?_) (fun w hSw => ?_) hS (fun hS => ?_)
                rotate_left
                · go_simp; try with_reducible rfl
                try go_frame
                refine held_pure (i := 34) (oi := ⟨some 118, _, _, _, _, _⟩) rfl (by kernel_rfl) (by kernel_rfl) (by kernel_rfl) (fun _ _ _ h => h) (by rfl) (fun w hSw => run_load_bool rfl rfl (cells_at (i := 1) ((hSw.block _ _ _ hbV).trans hbV) rfl)) hS (fun hS => ?_)
                try go_frame
                refine held_pure (i := 35) (oi := ⟨some 119, _, _, _, _, _⟩) rfl (by kernel_rfl) (by kernel_rfl) (by kernel_rfl) (fun _ _ _ h => h) (by rfl) (v := ?_) (fun w hSw => ?_) hS (fun hS => ?_)
                rotate_left
                · go_simp; try with_reducible rfl
                try go_frame
                refine held_pure (i := 36) (oi := ⟨some 120, _, _, _, _, _⟩) rfl (by kernel_rfl) (by kernel_rfl) (by kernel_rfl) (fun _ _ _ h => h) (by rfl) (fun w hSw => run_load_sl rfl rfl (cells_at (i := 2) ((hSw.block _ _ _ hbV).trans hbV) rfl)) hS (fun hS => ?_)
                try go_frame
                refine wpAnyH_ready (rs := [37]) (by kernel_rfl) (by simp) (AllReadyH.cons (o := ⟨some 121, _, _, _, _, _⟩) rfl (fun K hK => ?_) AllReadyH.nil)
                rw [if_pos (by rfl)]
                go_simp
                refine (hcadd g2 A4 c4 L4 xk.p.off xk.p.more xk.A xk.p.b xk.c w26 h24 ((HA2.out xk hxkm).below B4 |>.more zB4) (by omega) hok (by omega)).mono ?_
                rintro e w37 ⟨rfl, A5, c5, L5, h25, hp5, k5, ob5, ln5⟩
                rw [HE3.out]
                have h15 := h24.beside h14 k5 (Ne.symm hg12) ap4.symm
                have kp5 := kp4.trans (KP.of_kept k5 h24.ofT th_no.2.2.2)
                have B5 := own4.kept B4 zB4 k5
                have own5 := own4.next zB4 ob5
                have ap5 := (Apart2.next ap4.symm (own_lt h14) ob5).symm
                have HS5 : Hid (Same (piE L5) (P.reverse.take (j + 1))) := Lib.hid (by rw [hp5, ← HF4.out]; exact HS4.out.addL _)
                have HS3 : Hid (Same (piE L3) (P.take (j + 1))) := Lib.hid (by rw [hp3, ← HF1.out]; exact HSM1.out.addL _)
                show K _ _
                refine hK.out _ _ kp5 (fun hS => ?_)
                clear hK K
                try go_frame
                refine held_pure (i := 38) (oi := ⟨some 122, _, _, _, _, _⟩) rfl (by kernel_rfl) (by kernel_rfl) (by kernel_rfl) (fun _ _ _ h => h) (by rfl) (v := .bool false) (fun w hSw => by go_simp) hS (fun hS => ?_)
                try go_frame
                refine held_pure (i := 39) (oi := ⟨some 123, _, _, _, _, _⟩) rfl (by kernel_rfl) (by kernel_rfl) (by kernel_rfl) (fun _ _ _ h => h) (by rfl) (v := ?_) (fun w hSw => ?_) hS (fun hS => ?_)
                rotate_left
                · go_simp; try with_reducible rfl
                try go_frame
                refine wpAnyH_done (by kernel_rfl) ?_ _
                go_wp2_with fail
                go_roundw
                case rel => exact ⟨j + 1, A3, c3, L3, A5, c5, L5, by omega, by simp, h15, h25, HS3, HS5, own3, own5, ap5, hkV.trans kp5, B5⟩
                case measure => simp [intOf]; omega
              · obtain rfl : N2 = j := by omega
                have hS1 : Same (piE L1) P := by have := HSM1.out; rwa [List.take_of_length_le (Nat.le_of_eq HPL.out)] at this
                have hS2 : Same (piE L2) P.reverse := by have := HSM2.out; rwa [List.take_of_length_le (by rw [List.length_reverse]; exact Nat.le_of_eq HPL.out)] at this
                obtain ⟨p1, p2⟩ := order_done HCP.out (List.Perm.refl P)
                obtain ⟨p3, p4⟩ := order_done HCP.out (List.reverse_perm P)
                have HD1 : Hid ((endedP (piE L1) && decide (gapsS 0 (piE L1) = [])) = true) := Lib.hid (by rw [← hS1.done.1]; exact p1)
                have HD2 : Hid ((endedP (piE L2) && decide (gapsS 0 (piE L2) = [])) = true) := Lib.hid (by rw [← hS2.done.1]; exact p3)
                have HC1 : Hid (catP (piE L1) = b0) := Lib.hid (by rw [← hS1.done.2 p1]; exact p2)
                have HC2 : Hid (catP (piE L2) = b0) := Lib.hid (by rw [← hS2.done.2 p3]; exact p4)
                have hbb := (HB0.out.below hbel).more hbel.size
                have HBB := Lib.hid hbb
                clear hS1 hS2 p1 p2 p3 p4 hlt hbb
                go_wp2_with (first
                  | (go_at_call 22; (with_reducible show Calls _ _ #[.slice P6 _ _, _] _ _); refine (equal_n P6 A0 b0 b0.length n p6 c0 w6'.heap.size w6'.heap.size w6' rfl HN.out a6.rd (((HBB.out.below y5).more y5.size).below y6 |>.more y6.size).rd).mono ?_; rintro e w7' ⟨rfl, rfl⟩)
                  | (go_at_call 22; (with_reducible show Calls _ _ #[.slice P5 _ _, _] _ _); refine (equal_n P5 A0 b0 b0.length n p5 c0 w6'.heap.size w6'.heap.size w6' rfl HN.out ((a5.below y6).more y6.size).rd (((HBB.out.below y5).more y5.size).below y6 |>.more y6.size).rd).mono ?_; rintro e w7' ⟨rfl, rfl⟩)
                  | (go_at_call 11; refine (awake15 _).mono ?_; rintro e w8' ⟨rfl, x8'⟩)
                  | (go_at_call 20; refine (hcdone g2 A2' c2' L2 w5' (hx2.below y5)).mono ?_; rintro e w6' ⟨v6', rfl, m6⟩; rw [HD2.out]; rw [HD2.out, if_pos rfl, HC2.out] at m6; obtain ⟨P6, p6, rfl, a6, o6, y6⟩ := made_shape m6; clear m6 o6)
                  | (go_at_call 20; refine (hcdone g1 A1' c1' L1 wr hx1).mono ?_; rintro e w5' ⟨v5', rfl, m5⟩; rw [HD1.out]; rw [HD1.out, if_pos rfl, HC1.out] at m5; obtain ⟨P5, p5, rfl, a5, o5, y5⟩ := made_shape m5; clear m5 o5))
                go_ret
                exact ⟨rfl, ((hbel.trans (y5.mono hbel.size)).trans (y6.mono (Nat.le_trans hbel.size y5.size))).trans (x8'.mono (Nat.le_trans hbel.size (Nat.le_trans y5.size y6.size)))⟩
          · have db : decide ((ak : Int) + 8 * (1 + X % 20) ≥ (n : Int)) = false := decide_eq_false (by have := HZ.out; omega)
            have db' : decide ((n : Int) ≤ (ak : Int) + 8 * (1 + X % 20)) = false := db
            obtain ⟨x, hx⟩ : ∃ x, x = XP.mk ⟨(ak : Int), true, (b0.drop ak).take z⟩ (cutA A0 c0 ak) (c0 - ak) := ⟨_, rfl⟩
            have hxl : ((b0.drop ak).take z).length = z := by rw [List.length_take, List.length_drop, ← HN.out]; omega
            have HXP : Hid (Value.agg #[.int .i64 (ak : Int), .bool true, .slice (cutA A0 c0 ak) z (c0 - ak)] = .agg (clP x).toArray) := Lib.hid (by rw [hx]; simp only [clP]; rw [hxl])
            have hxa : Arg w w.heap.size x.A x.c x.p.b := by
              have hh := HB0.out.cut ak (ak + z) (by rw [← HN.out]; omega)
              rw [hx]
              show Arg w w.heap.size (cutA A0 c0 ak) (c0 - ak) ((b0.drop ak).take z)
              have e : (b0.take (ak + z)).drop ak = (b0.drop ak).take z := by rw [List.drop_take]; congr 1; omega
              rw [e] at hh; exact hh
            have HC2 : Hid (∀ tail, Chain b0 (ak + z) tail → Chain b0 0 (piE (l ++ [x]) ++ tail)) := Lib.hid (fun tail ht => by
              have h9 := HCH.out _ (Chain.more (b := b0) (k := ak) (n := z) hz1 hz8 (by rw [← HN.out]; omega) ht)
              rw [piE, List.map_append, List.append_assoc, hx]
              exact h9)
            have HA2 : Hid (∀ y ∈ l ++ [x], Arg w w.heap.size y.A y.c y.p.b) := Lib.hid (fun y hy => by
              rcases List.mem_append.1 hy with hy | hy
              · exact HARG.out y hy
              · rw [List.mem_singleton.1 hy]; exact hxa)
            have hfm : l.flatMap clP ++ [x].flatMap clP = (l ++ [x]).flatMap clP := (List.flatMap_append).symm
            have bA : Below w.heap.size w (wr.alloc (.cells (clP x).toArray 32)) := hbel.alloc hbel.size _
            have ownA : (wr.alloc (.cells (clP x).toArray 32)).ownsRow w.heap.size 32 3 v ln (l.flatMap clP) := ownR.alloc _
            have HFM := Lib.hid hfm
            have hzn : ak + z < n := by omega
            clear hx hxl hxa hfm hbr
            go_wp2_with (first
              | (at_builtin; refine append_lps rfl _ _ rfl w.heap.size v ln (l.flatMap clP) rfl ownA (wr.heap.size + 1) ⟨wr.heap.size, 0, none⟩ 1 1 [x] rfl rfl (lps_new wr x) (by omega) bA.size ?_; intro v6 w6 own6 grow6; rw [HFM.out] at own6; have b6 := bA.grown grow6 bA.size (fun k hk => own_block_ge ownA k hk); have OW6 := Lib.hid own6; clear own6 grow6)
              | ((with_reducible show wpList _ _ _ (Oper.mk _ (Op.buildSlice _ _ _) _ _ _ _ :: _) _ _); refine wpList_growU rfl (run_bslp (cs := (clP x).toArray) rfl HXP.out rfl) ?_)
              | ((with_reducible show wpList _ _ _ (Oper.mk _ (Op.slice _ _ _ _ _) _ _ _ _ :: _) _ _); refine wpList_val rfl (run_cut_lh (m := z) rfl rfl rfl rfl (by omega) (by omega) (by have := HZ.out; omega) (by have := HZ.out; omega)) ?_))
            go_roundw
            case rel => exact ⟨k + 1, ak + z, v6, l ++ [x], ln + 1, by omega, by simp, by rw [HZ.out]; simp, rfl, ⟨by simp [hln], by omega⟩, .inr (by have := HZ.out; omega), OW6.out, HC2, HA2, b6⟩
            case measure => simp [intOf]; omega
        · obtain rfl : q = k := by omega
          clear hlt
          obtain ⟨x, hx⟩ : ∃ x, x = XP.mk ⟨(ak : Int), false, b0.drop ak⟩ (cutA A0 c0 ak) (c0 - ak) := ⟨_, rfl⟩
          have hxl : (b0.drop ak).length = n - ak := by rw [List.length_drop, ← HN.out]
          have HXP : Hid (Value.agg #[.int .i64 (ak : Int), .bool false, .slice (cutA A0 c0 ak) (n - ak) (c0 - ak)] = .agg (clP x).toArray) := Lib.hid (by rw [hx]; simp only [clP]; rw [hxl])
          have hxa : Arg w w.heap.size x.A x.c x.p.b := by rw [hx]; exact HB0.out.cut_lo ak
          have HCC : Hid (Chain b0 0 (piE (l ++ [x]))) := Lib.hid (by
            have h9 := HCH.out _ (Chain.last (b := b0) (k := ak) (by rw [← HN.out]; omega) (by rw [← HN.out]; omega))
            rw [piE, List.map_append, hx]
            exact h9)
          have HA2 : Hid (∀ y ∈ l ++ [x], Arg w w.heap.size y.A y.c y.p.b) := Lib.hid (fun y hy => by
            rcases List.mem_append.1 hy with hy | hy
            · exact HARG.out y hy
            · rw [List.mem_singleton.1 hy]; exact hxa)
          have HFM : Hid (l.flatMap clP ++ [x].flatMap clP = (l ++ [x]).flatMap clP) := Lib.hid (List.flatMap_append).symm
          have bA : Below w.heap.size w (wr.alloc (.cells (clP x).toArray 32)) := hbel.alloc hbel.size _
          have ownA : (wr.alloc (.cells (clP x).toArray 32)).ownsRow w.heap.size 32 3 v ln (l.flatMap clP) := ownR.alloc _
          obtain ⟨N2, hN2⟩ : ∃ N2, N2 = ln + 1 := ⟨_, rfl⟩
          have HN2 := Lib.hid hN2
          have hN3 : N2 ≤ 41 := by omega
          have hN4 : 0 < N2 := by omega
          have HL2 : Hid (N2 = (l ++ [x]).length) := Lib.hid (by rw [hN2, hln]; simp)
          clear hx hxl hxa hN2
          go_wp2_with (first
            | (go_at_call 13; refine (hcnew w7).mono ?_; rintro e w8 ⟨rfl, h8, x8, -⟩)
            | (go_at_call 13; refine (hcnew w6).mono ?_; rintro e w7 ⟨rfl, h7, x7, -⟩)
            | (at_builtin; refine append_lps rfl _ _ rfl w.heap.size v ln (l.flatMap clP) rfl ownA (wr.heap.size + 1) ⟨wr.heap.size, 0, none⟩ 1 1 [x] rfl rfl (lps_new wr x) (by omega) bA.size ?_; intro v6 w6 own6 grow6; rw [HFM.out, ← HN2.out] at own6; have b6 := bA.grown grow6 bA.size (fun k hk => own_block_ge ownA k hk); obtain ⟨gl, cl, cur, rfl, hcl, hgl, hrl⟩ := own_row32n own6 HL2.out hN4; have HRL := Lib.hid hrl; clear own6 grow6 hrl)
            | ((with_reducible show wpList _ _ _ (Oper.mk _ (Op.buildSlice _ _ _) _ _ _ _ :: _) _ _); refine wpList_growU rfl (run_bslp (cs := (clP x).toArray) rfl HXP.out rfl) ?_)
            | ((with_reducible show wpList _ _ _ (Oper.mk _ (Op.slice _ _ _ _ _) _ _ _ _ :: _) _ _); refine wpList_val rfl (run_cut_l (l := ak) (m := n - ak) rfl rfl rfl (by omega) rfl) ?_))
          have b7 := b6.trans (x7.mono b6.size)
          have b8 := b7.trans (x8.mono b7.size)
          have hgl8 := (x8.block gl (Nat.lt_of_lt_of_le (heap_lt hgl) x7.size)).trans ((x7.block gl (heap_lt hgl)).trans hgl)
          have HR8 : Hid (∀ (j : Nat) (y : XP), (l ++ [x])[j]? = some y → w8.rangeAt gl (j * 3) (clP y)) := Lib.hid (fun j y hy => range_blk (HRL.out j y hy) ((x8.block gl (Nat.lt_of_lt_of_le (heap_lt hgl) x7.size)).trans (x7.block gl (heap_lt hgl))))
          have h18 := h7.below x8
          have hg12 : w6.heap.size ≠ w7.heap.size := by have := heap_lt h7.obj; omega
          have own10 : Own0 w.heap.size w6.heap.size (.slice none 0 0) := ⟨b6.size, fun k h => by cases h⟩
          have own20 : Own0 w.heap.size w7.heap.size (.slice none 0 0) := ⟨b7.size, fun k h => by cases h⟩
          generalize hgg1 : w6.heap.size = g1 at *
          generalize hgg2 : w7.heap.size = g2 at *
          have HG1 := Lib.hid hgg1
          have HG2 := Lib.hid hgg2
          obtain ⟨P, hP⟩ : ∃ P, P = piE (l ++ [x]) := ⟨_, rfl⟩
          have HPP := Lib.hid hP
          have HCP : Hid (Chain b0 0 P) := Lib.hid (by rw [hP]; exact HCC.out)
          have hPl : P.length = N2 := by rw [hP, piE, List.length_map, ← HL2.out]
          have HPL := Lib.hid hPl
          have hb6 : b0.length ≤ 65535 := by rw [← HN.out]; omega
          have HFA := Lib.hid HCP.out.facts.1
          have HLL : Hid (∀ y ∈ l ++ [x], 0 ≤ y.p.off ∧ y.p.stop ≤ 2000) := Lib.hid (fun y hy => by
            obtain ⟨⟨h1, h2, _⟩, _⟩ := HFA.out y.p (by rw [hP]; exact List.mem_map.2 ⟨y, hy, rfl⟩)
            exact ⟨h1, by rw [← HN.out] at h2; omega⟩)
          clear hgg1 hgg2 hP hPl h7 b6 b7 x7 x8 hgl bA ownA hbel ownR hak hak2
          go_loopw [73] (fun i wr => ∃ (j : Nat) (A1' : Option Addr) (c1' : Nat) (L1 : List XP) (A2' : Option Addr) (c2' : Nat) (L2 : List XP), j ≤ N2 ∧ i = .int .i64 (j : Int) ∧ Hx wr g1 A1' c1' L1 ∧ Hx wr g2 A2' c2' L2 ∧ Hid (Same (piE L1) (P.take j)) ∧ Hid (Same (piE L2) (P.reverse.take j)) ∧
              Own0 w.heap.size g1 (.slice A1' L1.length c1') ∧ Own0 w.heap.size g2 (.slice A2' L2.length c2') ∧ Apart2 (.slice A1' L1.length c1') (.slice A2' L2.length c2') ∧ KP w8 wr ∧ Below w.heap.size w wr)
            (fun i _ => N2 - (intOf i).toNat)
          case atStart => exact ⟨0, none, 0, [], none, 0, [], Nat.zero_le _, rfl, h18, h8, Lib.hid Same.nil, Lib.hid Same.nil, own10, own20, (fun k h => by cases h), ⟨Nat.le_refl _, fun _ _ _ _ => rfl⟩, b8⟩
          case round =>
            obtain ⟨j, A1', c1', L1, A2', c2', L2, hj, rfl, hx1, hx2, HSM1, HSM2, hown1, hown2, hap, hkp, hbel⟩ := hrel
            clear h18 h8 own10 own20 b8
            have hL1 : L1.length ≤ 41 := by
              have := HSM1.out.perm.length_eq
              rw [piE, List.length_map, List.length_take] at this
              omega
            have hL2 : L2.length ≤ 41 := by
              have := HSM2.out.perm.length_eq
              rw [piE, List.length_map, List.length_take] at this
              omega
            by_cases hlt : j < N2
            · obtain ⟨xj, hxj⟩ : ∃ xj, (l ++ [x])[j]? = some xj := ⟨_, List.getElem?_eq_getElem (by rw [← HL2.out]; exact hlt)⟩
              obtain ⟨xk, hxk⟩ : ∃ xk, (l ++ [x])[N2 - 1 - j]? = some xk := ⟨_, List.getElem?_eq_getElem (by rw [← HL2.out]; omega)⟩
              have hxjm := List.mem_of_getElem? hxj
              have hxkm := List.mem_of_getElem? hxk
              obtain ⟨oj0, oj1⟩ := HLL.out xj hxjm
              obtain ⟨ok0, ok1⟩ := HLL.out xk hxkm
              have ej := xj.p.stop_eq
              have ek := xk.p.stop_eq
              have elj : xj.p.len = (xj.p.b.length : Int) := rfl
              have elk : xk.p.len = (xk.p.b.length : Int) := rfl
              have hlj : xj.p.b.length ≤ 2000 := by omega
              have hlk2 : xk.p.b.length ≤ 2000 := by omega
              have hoj : -9223372036854775808 ≤ xj.p.off ∧ xj.p.off ≤ 9223372036854775807 := by omega
              have hok : -9223372036854775808 ≤ xk.p.off ∧ xk.p.off ≤ 9223372036854775807 := by omega
              have hPj : P[j]? = some xj.p := by rw [HPP.out, piE, List.getElem?_map, hxj]; rfl
              have hPk : P.reverse[j]? = some xk.p := by
                rw [List.getElem?_reverse (by rw [HPL.out]; exact hlt), HPL.out, HPP.out, piE, List.getElem?_map, hxk]; rfl
              obtain ⟨f1, f2⟩ := chain_take HCP.out hb6 hPj
              obtain ⟨f3, f4, f5, f6⟩ := chain_rev HCP.out hb6 hPk
              have HE1 : Hid (addC (piE L1) ⟨xj.p.off, xj.p.more, xj.p.b⟩ = 0) := Lib.hid ((HSM1.out.addE _).trans f1)
              have HF1 := Lib.hid f2
              have HE2 : Hid (addC (piE L2) ⟨xk.p.off, xk.p.more, xk.p.b⟩ = 0) := Lib.hid ((HSM2.out.addE _).trans f3)
              have HF2 := Lib.hid f4
              have HF3 := Lib.hid f5
              have HF4 := Lib.hid f6
              have hgw := (hkp.block gl _ _ hgl8).trans hgl8
              have hrj0 := range_blk (HR8.out j xj hxj) (hkp.block gl _ _ hgl8)
              have hrk := range_blk (HR8.out (N2 - 1 - j) xk hxk) (hkp.block gl _ _ hgl8)
              obtain ⟨V, hV⟩ : ∃ V, V = wr.alloc (.cells (clP xk).toArray 32) := ⟨_, rfl⟩
              have HVV := Lib.hid hV
              have bV : Below wr.heap.size wr V := by rw [hV]; exact (Below.refl _ wr).alloc (Nat.le_refl _) _
              have hbV : V.heap[wr.heap.size]? = some (.cells (clP xk).toArray 32 (0, 0)) := by rw [hV]; exact World.alloc_heap_new wr _
              have hgV := (bV.block gl (heap_lt hgw)).trans hgw
              have hrj := range_blk hrj0 (bV.block gl (heap_lt hgw))
              have dV : Below V.heap.size V V.drew := (Below.refl _ V).drew
              have dW := (hbel.trans (bV.mono hbel.size)).trans (dV.mono (Nat.le_trans hbel.size bV.size))
              have zdW := dW.size
              have h1D := (hx1.below bV).below dV
              have h2D := (hx2.below bV).below dV
              have hkV := hkp.trans (KP.of_below bV)
              have ht9 : ((N2 : Int) - 1 - (j : Int)).toNat = N2 - 1 - j := by omega
              have ht8 : (N2 - 1 - j : Nat) < N2 := by omega
              clear hV hxj hxk hPj hPk f1 f2 f3 f4 f5 f6 ej ek elj elk hrj0 hgw
              go_upto_region 21 with (first
                | ((with_reducible show wpList _ _ _ (Oper.mk _ (Op.load 32 _) _ _ _ _ :: _) _ _); refine wpList_val rfl (run_load_lp rfl rfl hrk rfl) ?_)
                | ((with_reducible show wpList _ _ _ (Oper.mk _ (Op.store 32 _ _) _ _ _ _ :: _) _ _); refine lp_store_new (cs := (clP xk).toArray) rfl rfl rfl rfl (clP_one xk) ?_; rw [← HVV.out]))
              refine wp_region_held_drew (S := fun w' => KP V w') (by kernel_rfl) (KP.of_below dV) (fun hS => ?_)
              refine held_pure (i := 0) (oi := ⟨some 84, _, _, _, _, _⟩) rfl (by kernel_rfl) (by kernel_rfl) (by kernel_rfl) (fun _ _ _ h => h) (by rfl) (v := ?_) (fun w hSw => ?_) hS (fun hS => ?_)
              rotate_left
              · go_simp; try with_reducible rfl
              try go_frame
              refine held_pure (i := 1) (oi := ⟨some 85, _, _, _, _, _⟩) rfl (by kernel_rfl) (by kernel_rfl) (by kernel_rfl) (fun _ _ _ h => h) (by rfl) (v := ?_) (fun w hSw => ?_) hS (fun hS => ?_)
              rotate_left
              · go_simp; try with_reducible rfl
              try go_frame
              refine held_pure (i := 2) (oi := ⟨some 86, _, _, _, _, _⟩) rfl (by kernel_rfl) (by kernel_rfl) (by kernel_rfl) (fun _ _ _ h => h) (by rfl) (v := ?_) (fun w hSw => ?_) hS (fun hS => ?_)
              rotate_left
              · go_simp; try with_reducible rfl
              try go_frame
              refine held_pure (i := 3) (oi := ⟨some 87, _, _, _, _, _⟩) rfl (by kernel_rfl) (by kernel_rfl) (by kernel_rfl) (fun _ _ _ h => h) (by rfl) (v := Value.pointer (some ⟨gl, j * 3, none⟩)) (fun w hSw => by go_simp; try (exact fun h => absurd h (by omega))) hS (fun hS => ?_)
              try go_frame
              refine held_pure (i := 4) (oi := ⟨some 88, _, _, _, _, _⟩) rfl (by kernel_rfl) (by kernel_rfl) (by kernel_rfl) (fun _ _ _ h => h) (by rfl) (v := Value.pointer (some ⟨gl, j * 3, none⟩)) (fun w hSw => by go_simp) hS (fun hS => ?_)
              try go_frame
              refine held_pure (i := 5) (oi := ⟨some 89, _, _, _, _, _⟩) rfl (by kernel_rfl) (by kernel_rfl) (by kernel_rfl) (fun _ _ _ h => h) (by rfl) (fun w hSw => run_load_int rfl rfl (by simpa using (range_blk hrj (hSw.block _ _ _ hgV)) 0 _ rfl)) hS (fun hS => ?_)
              try go_frame
              refine held_pure (i := 6) (oi := ⟨some 90, _, _, _, _, _⟩) rfl (by kernel_rfl) (by kernel_rfl) (by kernel_rfl) (fun _ _ _ h => h) (by rfl) (v := ?_) (fun w hSw => ?_) hS (fun hS => ?_)
              rotate_left
              · go_simp; try with_reducible rfl
              try go_frame
              refine held_pure (i := 7) (oi := ⟨some 91, _, _, _, _, _⟩) rfl (by kernel_rfl) (by kernel_rfl) (by kernel_rfl) (fun _ _ _ h => h) (by rfl) (v := ?_) (fun w hSw => ?_) hS (fun hS => ?_)
              rotate_left
              · go_simp; try with_reducible rfl
              try go_frame
              refine held_pure (i := 8) (oi := ⟨some 92, _, _, _, _, _⟩) rfl (by kernel_rfl) (by kernel_rfl) (by kernel_rfl) (fun _ _ _ h => h) (by rfl) (v := Value.pointer (some ⟨gl, j * 3, none⟩)) (fun w hSw => by go_simp; try (exact fun h => absurd h (by omega))) hS (fun hS => ?_)
              try go_frame
              refine held_pure (i := 9) (oi := ⟨some 93, _, _, _, _, _⟩) rfl (by kernel_rfl) (by kernel_rfl) (by kernel_rfl) (fun _ _ _ h => h) (by rfl) (v := Value.pointer (some ⟨gl, j * 3 + 1, none⟩)) (fun w hSw => by go_simp) hS (fun hS => ?_)
              try go_frame
              refine held_pure (i := 10) (oi := ⟨some 94, _, _, _, _, _⟩) rfl (by kernel_rfl) (by kernel_rfl) (by kernel_rfl) (fun _ _ _ h => h) (by rfl) (fun w hSw => run_load_bool rfl rfl (by simpa using (range_blk hrj (hSw.block _ _ _ hgV)) 1 _ rfl)) hS (fun hS => ?_)
              try go_frame
              refine held_pure (i := 11) (oi := ⟨some 95, _, _, _, _, _⟩) rfl (by kernel_rfl) (by kernel_rfl) (by kernel_rfl) (fun _ _ _ h => h) (by rfl) (v := ?_) (fun w hSw => ?_) hS (fun hS => ?_)
              rotate_left
              · go_simp; try with_reducible rfl
              try go_frame
              refine held_pure (i := 12) (oi := ⟨some 96, _, _, _, _, _⟩) rfl (by kernel_rfl) (by kernel_rfl) (by kernel_rfl) (fun _ _ _ h => h) (by rfl) (v := ?_) (fun w hSw => ?_) hS (fun hS => ?_)
              rotate_left
              · go_simp; try with_reducible rfl
              try go_frame
              refine held_pure (i := 13) (oi := ⟨some 97, _, _, _, _, _⟩) rfl (by kernel_rfl) (by kernel_rfl) (by kernel_rfl) (fun _ _ _ h => h) (by rfl) (v := Value.pointer (some ⟨gl, j * 3, none⟩)) (fun w hSw => by go_simp; try (exact fun h => absurd h (by omega))) hS (fun hS => ?_)
              try go_frame
              refine held_pure (i := 14) (oi := ⟨some 98, _, _, _, _, _⟩) rfl (by kernel_rfl) (by kernel_rfl) (by kernel_rfl) (fun _ _ _ h => h) (by rfl) (v := Value.pointer (some ⟨gl, j * 3 + 2, none⟩)) (fun w hSw => by go_simp) hS (fun hS => ?_)
              try go_frame
              refine held_pure (i := 15) (oi := ⟨some 99, _, _, _, _, _⟩) rfl (by kernel_rfl) (by kernel_rfl) (by kernel_rfl) (fun _ _ _ h => h) (by rfl) (fun w hSw => run_load_sl rfl rfl (by simpa using (range_blk hrj (hSw.block _ _ _ hgV)) 2 _ rfl)) hS (fun hS => ?_)
              try go_frame
              refine wpAnyH_ready (rs := [16]) (by kernel_rfl) (by simp) (AllReadyH.cons (o := ⟨some 100, _, _, _, _, _⟩) rfl (fun K hK => ?_) AllReadyH.nil)
              rw [if_pos (by rfl)]
              go_simp
              refine (hcadd g1 A1' c1' L1 xj.p.off xj.p.more xj.A xj.p.b xj.c V.drew h1D ((HA2.out xj hxjm).below dW |>.more zdW) (by omega) hoj (by omega)).mono ?_
              rintro e w16 ⟨rfl, A3, c3, L3, h13, hp3, k3, ob3, ln3⟩
              rw [HE1.out]
              have h23 := h1D.beside h2D k3 hg12 hap
              have kp3 := (KP.of_below dV).trans (KP.of_kept k3 h1D.ofT th_no.2.2.2)
              have B3 := hown1.kept dW zdW k3
              have own3 := hown1.next zdW ob3
              have ap3 := Apart2.next hap (own_lt h2D) ob3
              have zB3 := B3.size
              show K _ _
              refine hK.out _ _ kp3 (fun hS => ?_)
              clear hK K
              try go_frame
              refine held_pure (i := 17) (oi := ⟨some 101, _, _, _, _, _⟩) rfl (by kernel_rfl) (by kernel_rfl) (by kernel_rfl) (fun _ _ _ h => h) (by rfl) (v := .bool false) (fun w hSw => by go_simp) hS (fun hS => ?_)
              try go_frame
              refine held_pure (i := 18) (oi := ⟨some 102, _, _, _, _, _⟩) rfl (by kernel_rfl) (by kernel_rfl) (by kernel_rfl) (fun _ _ _ h => h) (by rfl) (v := ?_) (fun w hSw => ?_) hS (fun hS => ?_)
              rotate_left
              · go_simp; try with_reducible rfl
              try go_frame
              refine held_pure (i := 19) (oi := ⟨some 103, _, _, _, _, _⟩) rfl (by kernel_rfl) (by kernel_rfl) (by kernel_rfl) (fun _ _ _ h => h) (by rfl) (v := ?_) (fun w hSw => ?_) hS (fun hS => ?_)
              rotate_left
              · go_simp; try with_reducible rfl
              try go_frame
              refine held_pure (i := 20) (oi := ⟨some 104, _, _, _, _, _⟩) rfl (by kernel_rfl) (by kernel_rfl) (by kernel_rfl) (fun _ _ _ h => h) (by rfl) (v := ?_) (fun w hSw => ?_) hS (fun hS => ?_)
              rotate_left
              · go_simp; try with_reducible rfl
              try go_frame
              refine held_pure (i := 21) (oi := ⟨some 105, _, _, _, _, _⟩) rfl (by kernel_rfl) (by kernel_rfl) (by kernel_rfl) (fun _ _ _ h => h) (by rfl) (fun w hSw => run_load_int rfl rfl (cells_at (i := 0) ((hSw.block _ _ _ hbV).trans hbV) rfl)) hS (fun hS => ?_)
              try go_frame
              refine held_pure (i := 22) (oi := ⟨some 106, _, _, _, _, _⟩) rfl (by kernel_rfl) (by kernel_rfl) (by kernel_rfl) (fun _ _ _ h => h) (by rfl) (v := ?_) (fun w hSw => ?_) hS (fun hS => ?_)
              rotate_left
              · go_simp; try with_reducible rfl
              try go_frame
              refine held_pure (i := 23) (oi := ⟨some 107, _, _, _, _, _⟩) rfl (by kernel_rfl) (by kernel_rfl) (by kernel_rfl) (fun _ _ _ h => h) (by rfl) (fun w hSw => run_load_bool rfl rfl (cells_at (i := 1) ((hSw.block _ _ _ hbV).trans hbV) rfl)) hS (fun hS => ?_)
              try go_frame
              refine held_pure (i := 24) (oi := ⟨some 108, _, _, _, _, _⟩) rfl (by kernel_rfl) (by kernel_rfl) (by kernel_rfl) (fun _ _ _ h => h) (by rfl) (v := ?_) (fun w hSw => ?_) hS (fun hS => ?_)
              rotate_left
              · go_simp; try with_reducible rfl
              try go_frame
              refine held_pure (i := 25) (oi := ⟨some 109, _, _, _, _, _⟩) rfl (by kernel_rfl) (by kernel_rfl) (by kernel_rfl) (fun _ _ _ h => h) (by rfl) (fun w hSw => run_load_sl rfl rfl (cells_at (i := 2) ((hSw.block _ _ _ hbV).trans hbV) rfl)) hS (fun hS => ?_)
              try go_frame
              refine wpAnyH_ready (rs := [26]) (by kernel_rfl) (by simp) (AllReadyH.cons (o := ⟨some 110, _, _, _, _, _⟩) rfl (fun K hK => ?_) AllReadyH.nil)
              rw [if_pos (by rfl)]
              go_simp
              refine (hcadd g2 A2' c2' L2 xk.p.off xk.p.more xk.A xk.p.b xk.c w16 h23 ((HA2.out xk hxkm).below B3 |>.more zB3) (by omega) hok (by omega)).mono ?_
              rintro e w26 ⟨rfl, A4, c4, L4, h24, hp4, k4, ob4, ln4⟩
              rw [HE2.out]
              have h14 := h23.beside h13 k4 (Ne.symm hg12) ap3.symm
              have kp4 := kp3.trans (KP.of_kept k4 h23.ofT th_no.2.2.2)
              have B4 := hown2.kept B3 zB3 k4
              have own4 := hown2.next zB3 ob4
              have ap4 := (Apart2.next ap3.symm (own_lt h13) ob4).symm
              have zB4 := B4.size
              have HS4 : Hid (Same (piE L4) (P.reverse.take (j + 1))) := Lib.hid (by rw [hp4, ← HF2.out]; exact HSM2.out.addL _)
              have HE3 : Hid (addC (piE L4) ⟨xk.p.off, xk.p.more, xk.p.b⟩ = 0) := Lib.hid ((HS4.out.addE _).trans HF3.out)
              show K _ _
              refine hK.out _ _ kp4 (fun hS => ?_)
              clear hK K
              try go_frame
              refine held_pure (i := 27) (oi := ⟨some 111, _, _, _, _, _⟩) rfl (by kernel_rfl) (by kernel_rfl) (by kernel_rfl) (fun _ _ _ h => h) (by rfl) (v := .bool false) (fun w hSw => by go_simp) hS (fun hS => ?_)
              try go_frame
              refine held_pure (i := 28) (oi := ⟨some 112, _, _, _, _, _⟩) rfl (by kernel_rfl) (by kernel_rfl) (by kernel_rfl) (fun _ _ _ h => h) (by rfl) (v := ?_) (fun w hSw => ?_) hS (fun hS => ?_)
              rotate_left
              · go_simp; try with_reducible rfl
              try go_frame
              refine held_pure (i := 29) (oi := ⟨some 113, _, _, _, _, _⟩) rfl (by kernel_rfl) (by kernel_rfl) (by kernel_rfl) (fun _ _ _ h => h) (by rfl) (v := ?_) (fun w hSw => ?_) hS (fun hS => ?_)
              rotate_left
              · go_simp; try with_reducible rfl
              try go_frame
              refine held_pure (i := 30) (oi := ⟨some 114, _, _, _, _, _⟩) rfl (by kernel_rfl) (by kernel_rfl) (by kernel_rfl) (fun _ _ _ h => h) (by rfl) (v := ?_) (fun w hSw => ?_) hS (fun hS => ?_)
              rotate_left
              · go_simp; try with_reducible rfl
              try go_frame
              refine held_pure (i := 31) (oi := ⟨some 115, _, _, _, _, _⟩) rfl (by kernel_rfl) (by kernel_rfl) (by kernel_rfl) (fun _ _ _ h => h) (by rfl) (v := ?_) (fun w hSw => ?_) hS (fun hS => ?_)
              rotate_left
              · go_simp; try with_reducible rfl
              try go_frame
              refine held_pure (i := 32) (oi := ⟨some 116, _, _, _, _, _⟩) rfl (by kernel_rfl) (by kernel_rfl) (by kernel_rfl) (fun _ _ _ h => h) (by rfl) (fun w hSw => run_load_int rfl rfl (cells_at (i := 0) ((hSw.block _ _ _ hbV).trans hbV) rfl)) hS (fun hS => ?_)
              try go_frame
              refine held_pure (i := 33) (oi := ⟨some 117, _, _, _, _, _⟩) rfl (by kernel_rfl) (by kernel_rfl) (by kernel_rfl) (fun _ _ _ h => h) (by rfl) (v := ?_) (fun w hSw => ?_) hS (fun hS => ?_)
              rotate_left
              · go_simp; try with_reducible rfl
              try go_frame
              refine held_pure (i := 34) (oi := ⟨some 118, _, _, _, _, _⟩) rfl (by kernel_rfl) (by kernel_rfl) (by kernel_rfl) (fun _ _ _ h => h) (by rfl) (fun w hSw => run_load_bool rfl rfl (cells_at (i := 1) ((hSw.block _ _ _ hbV).trans hbV) rfl)) hS (fun hS => ?_)
              try go_frame
              refine held_pure (i := 35) (oi := ⟨some 119, _, _, _, _, _⟩) rfl (by kernel_rfl) (by kernel_rfl) (by kernel_rfl) (fun _ _ _ h => h) (by rfl) (v := ?_) (fun w hSw => ?_) hS (fun hS => ?_)
              rotate_left
              · go_simp; try with_reducible rfl
              try go_frame
              refine held_pure (i := 36) (oi := ⟨some 120, _, _, _, _, _⟩) rfl (by kernel_rfl) (by kernel_rfl) (by kernel_rfl) (fun _ _ _ h => h) (by rfl) (fun w hSw => run_load_sl rfl rfl (cells_at (i := 2) ((hSw.block _ _ _ hbV).trans hbV) rfl)) hS (fun hS => ?_)
              try go_frame
              refine wpAnyH_ready (rs := [37]) (by kernel_rfl) (by simp) (AllReadyH.cons (o := ⟨some 121, _, _, _, _, _⟩) rfl (fun K hK => ?_) AllReadyH.nil)
              rw [if_pos (by rfl)]
              go_simp
              refine (hcadd g2 A4 c4 L4 xk.p.off xk.p.more xk.A xk.p.b xk.c w26 h24 ((HA2.out xk hxkm).below B4 |>.more zB4) (by omega) hok (by omega)).mono ?_
              rintro e w37 ⟨rfl, A5, c5, L5, h25, hp5, k5, ob5, ln5⟩
              rw [HE3.out]
              have h15 := h24.beside h14 k5 (Ne.symm hg12) ap4.symm
              have kp5 := kp4.trans (KP.of_kept k5 h24.ofT th_no.2.2.2)
              have B5 := own4.kept B4 zB4 k5
              have own5 := own4.next zB4 ob5
              have ap5 := (Apart2.next ap4.symm (own_lt h14) ob5).symm
              have HS5 : Hid (Same (piE L5) (P.reverse.take (j + 1))) := Lib.hid (by rw [hp5, ← HF4.out]; exact HS4.out.addL _)
              have HS3 : Hid (Same (piE L3) (P.take (j + 1))) := Lib.hid (by rw [hp3, ← HF1.out]; exact HSM1.out.addL _)
              show K _ _
              refine hK.out _ _ kp5 (fun hS => ?_)
              clear hK K
              try go_frame
              refine held_pure (i := 38) (oi := ⟨some 122, _, _, _, _, _⟩) rfl (by kernel_rfl) (by kernel_rfl) (by kernel_rfl) (fun _ _ _ h => h) (by rfl) (v := .bool false) (fun w hSw => by go_simp) hS (fun hS => ?_)
              try go_frame
              refine held_pure (i := 39) (oi := ⟨some 123, _, _, _, _, _⟩) rfl (by kernel_rfl) (by kernel_rfl) (by kernel_rfl) (fun _ _ _ h => h) (by rfl) (v := ?_) (fun w hSw => ?_) hS (fun hS => ?_)
              rotate_left
              · go_simp; try with_reducible rfl
              try go_frame
              refine wpAnyH_done (by kernel_rfl) ?_ _
              go_wp2_with fail
              go_roundw
              case rel => exact ⟨j + 1, A3, c3, L3, A5, c5, L5, by omega, by simp, h15, h25, HS3, HS5, own3, own5, ap5, hkV.trans kp5, B5⟩
              case measure => simp [intOf]; omega
            · obtain rfl : N2 = j := by omega
              have hS1 : Same (piE L1) P := by have := HSM1.out; rwa [List.take_of_length_le (Nat.le_of_eq HPL.out)] at this
              have hS2 : Same (piE L2) P.reverse := by have := HSM2.out; rwa [List.take_of_length_le (by rw [List.length_reverse]; exact Nat.le_of_eq HPL.out)] at this
              obtain ⟨p1, p2⟩ := order_done HCP.out (List.Perm.refl P)
              obtain ⟨p3, p4⟩ := order_done HCP.out (List.reverse_perm P)
              have HD1 : Hid ((endedP (piE L1) && decide (gapsS 0 (piE L1) = [])) = true) := Lib.hid (by rw [← hS1.done.1]; exact p1)
              have HD2 : Hid ((endedP (piE L2) && decide (gapsS 0 (piE L2) = [])) = true) := Lib.hid (by rw [← hS2.done.1]; exact p3)
              have HC1 : Hid (catP (piE L1) = b0) := Lib.hid (by rw [← hS1.done.2 p1]; exact p2)
              have HC2 : Hid (catP (piE L2) = b0) := Lib.hid (by rw [← hS2.done.2 p3]; exact p4)
              have hbb := (HB0.out.below hbel).more hbel.size
              have HBB := Lib.hid hbb
              clear hS1 hS2 p1 p2 p3 p4 hlt hbb
              go_wp2_with (first
                | (go_at_call 22; (with_reducible show Calls _ _ #[.slice P6 _ _, _] _ _); refine (equal_n P6 A0 b0 b0.length n p6 c0 w6'.heap.size w6'.heap.size w6' rfl HN.out a6.rd (((HBB.out.below y5).more y5.size).below y6 |>.more y6.size).rd).mono ?_; rintro e w7' ⟨rfl, rfl⟩)
                | (go_at_call 22; (with_reducible show Calls _ _ #[.slice P5 _ _, _] _ _); refine (equal_n P5 A0 b0 b0.length n p5 c0 w6'.heap.size w6'.heap.size w6' rfl HN.out ((a5.below y6).more y6.size).rd (((HBB.out.below y5).more y5.size).below y6 |>.more y6.size).rd).mono ?_; rintro e w7' ⟨rfl, rfl⟩)
                | (go_at_call 11; refine (awake15 _).mono ?_; rintro e w8' ⟨rfl, x8'⟩)
                | (go_at_call 20; refine (hcdone g2 A2' c2' L2 w5' (hx2.below y5)).mono ?_; rintro e w6' ⟨v6', rfl, m6⟩; rw [HD2.out]; rw [HD2.out, if_pos rfl, HC2.out] at m6; obtain ⟨P6, p6, rfl, a6, o6, y6⟩ := made_shape m6; clear m6 o6)
                | (go_at_call 20; refine (hcdone g1 A1' c1' L1 wr hx1).mono ?_; rintro e w5' ⟨v5', rfl, m5⟩; rw [HD1.out]; rw [HD1.out, if_pos rfl, HC1.out] at m5; obtain ⟨P5, p5, rfl, a5, o5, y5⟩ := made_shape m5; clear m5 o5))
              go_ret
              exact ⟨rfl, ((hbel.trans (y5.mono hbel.size)).trans (y6.mono (Nat.le_trans hbel.size y5.size))).trans (x8'.mono (Nat.le_trans hbel.size (Nat.le_trans y5.size y6.size)))⟩

/-! ### The row's step -/
set_option maxRecDepth 100000 in
theorem lifted (os : Os) (started : os.Started) (H : Type) (enc : TypeId × Value → H) :
    ReturnsInHanded {} Try.checked os 5 .any (Rows.holesOrderSpec.pre6 enc Try.prog Try.f5 Rows.holesOrderRow.domain false) (Rows.holesOrderSpec.post enc Try.prog Try.f5 false true false false) := by
  refine returnsInHanded_of_change (C := Try.checked) own started (by kernel_rfl) Try.func5
    (ChangeSpec.witness6 (enc := enc) (C := Try.checked) false ⟨#[], #[.slice none 0 0, .slice none 0 0], []⟩ 8 (by kernel_rfl) (by kernel_rfl) (by kernel_rfl) (by kernel_rfl)) ?_
  intro W base args ds gs before hval0 hW hcnd _
  have hval : ∀ (j : Nat) t v, Try.f5.params[j]? = some t → args[j]? = some v → Value.okWide Try.prog W .any base t v := hval0
  have hW' := hW
  obtain ⟨p, q, hA0, hV, rfl, hfz, hnd⟩ := hW
  have hA : DataW.TrodAll enc Try.prog W 0 (fun _ => true) true Try.f5.params.toList args.toList ds p := hA0
  rw [Try.params5] at hA hval
  obtain ⟨v0, vs0, d0, ds0, p0, q0, hargs, rfl, rfl, t0, r0⟩ := trodAll_cons hA
  obtain ⟨v1, vs1, d1, ds1, p1, q1, rfl, rfl, rfl, t1, r1⟩ := trodAll_cons r0
  obtain ⟨rfl, rfl, rfl⟩ := trodAll_nil r1
  obtain rfl : args = #[v0, v1] := by cases args; simp_all
  obtain ⟨rfl, rfl⟩ := trodVars_none hV
  have k0 := t0
  have lt0 := Trod_lt t0
  have k1 := t1
  have lt1 := Trod_lt t1
  obtain ⟨A0, c0, b0, rfl, h0, m0⟩ := get_bytes Try.underlying30 Try.underlying5 (by kernel_rfl) (hval 0 30 v0 rfl rfl) t0
  obtain ⟨A1, c1, b1, rfl, h1, m1⟩ := get_bytes Try.underlying30 Try.underlying5 (by kernel_rfl) (hval 1 30 v1 rfl rfl) t1
  clear hA0 hval0
  refine (walk A0 c0 b0 A1 c1 b1 W h0 m0 h1 m1).mono fun e W' ⟨he, bel⟩ => ?_
  subst he
  exact ⟨_, rfl, _, _, _, [], _, [], hW', trodAll_mk1 (shut_bool Try.underlying4 _), (trodAll_cons_mk (Below.trod laidOut (by kernel_rfl) (of_decide_eq_true (by kernel_rfl)) k0 bel lt0) (trodAll_cons_mk (Below.trod laidOut (by kernel_rfl) (of_decide_eq_true (by kernel_rfl)) k1 bel lt1) trodAll_mk0)), rfl, bel.frame _, fun h => by cases h⟩

theorem over : Rows.holesOrderRow.holds Try.pinned (OpenSpec.ofChange Rows.holesOrderSpec) :=
  OpenClaim.holds_of_wide 5 Try.f5 rfl rfl rfl rfl rfl rfl rfl ⟨rfl, rfl, rfl, rfl, rfl⟩ rfl rfl rfl rfl rfl (by kernel_rfl) Try.func5 (by kernel_rfl)
    (of_decide_eq_true (by kernel_rfl)) (by unfold Func.isWrapper; first | (rw [if_pos (by decide +kernel)]; kernel_rfl) | (rw [if_neg (by decide +kernel)]; exact ⟨rfl, rfl⟩))
    (fun os started H enc _ => lifted os started H enc)

theorem proved : Rows.HolesOrderSaid := over
end Go.Proofs.Ytkncgjjflkbnfaa.holesOrder
