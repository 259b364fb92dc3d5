/-
  For all packets of IPv6, identifiers and sizes, goosepondlaw14.Cut6Back answers true: the parts, one behind the other, are the packet's data, and tell what it was; each fragment is as small as was asked.
  Conditions: none but the statement's own.
-/
import Derived.Test.YtcebobcakiljhaaRows
import Derived.WalkKit
import Derived.ProofKit
import Derived.OpenShut
import Derived.ChangeOld
import Derived.Below
import Derived.Test.YtcebobcakiljhaaNa1
import Derived.Test.YtcebobcakiljhaaNc2
import Derived.Test.YtcebobcakiljhaaNa5
namespace Go.Proofs.Ytcebobcakiljhaa.cut6Back
open Go.ChangeShapes Go.WideShapes Go.ChangeAt Go.RowKit
set_option linter.unusedVariables false
attribute [local go_sem] Oper.semAt_some

theorem own : ownKnob Try.prog.godebug = none := by kernel_rfl
theorem laidOut : laidOutB Try.prog = true := by kernel_rfl

/-! ### The walk -/
set_option maxRecDepth 100000 in
set_option maxHeartbeats 4000000 in
theorem walk (x0 : P6) (A0 : Option Addr) (c0 : Nat) (a1 : Int) (a2 : Int) (w : World) (h0 : Arg w w.heap.size A0 c0 x0.dat) (m0 : c0 ≤ maxLen) (w0 : x0.fits) (s0 : x0.src.length = 16) (e0 : x0.dst.length = 16) (w1 : (Lit.int .i64 a1).wf = true) (w2 : (Lit.int .i64 a2).wf = true) :
    Calls Try.prog 7 #[v6v x0 A0 c0, .int .i64 a1, .int .i64 a2] w fun e w' => e = .returned (.bool true) ∧ Below w.heap.size w w' := by
  have h6 : ok6 x0 := ⟨s0, e0⟩
  have hB : Below w.heap.size w (w.alloc (.cells (v6a x0 A0 c0) 45)) := (Below.refl w.heap.size w).alloc (Nat.le_refl _) _
  have hrow := World.alloc_heap_new w (.cells (v6a x0 A0 c0) 45)
  rw [v6v_eq]
  go_enter Try.func7, Try.ntmps7
  go_upto_region 1 with fail
  obtain ⟨g, hg⟩ : ∃ g, g = w.heap.size := ⟨_, rfl⟩
  rw [← hg] at hrow ⊢
  generalize w.alloc (.cells (v6a x0 A0 c0) 45) = W at *
  have hgW := heap_lt hrow
  clear hg
  have kd := (at6_of hrow).dat s0 e0
  by_cases h1 : 6000 < x0.dat.length
  · have d1 : decide (6000 < (x0.dat.length : Int)) = true := by simp; omega
    go_wp2_with (go_at_call 21; refine (awake14_any _).mono ?_; rintro e w10 ⟨rfl, b10⟩)
    go_ret
    exact ⟨rfl, hB.trans (b10.mono hB.size)⟩
  · have d1 : decide (6000 < (x0.dat.length : Int)) = false := by simp; omega
    have hd : x0.dat.length ≤ 1000000 := by omega
    have HDX : Hid (x0.dat.length ≤ 6000) := Lib.hid (by omega)
    obtain ⟨E, hE⟩ : ∃ E, E = cutE6 x0 a1 a2 := ⟨_, rfl⟩
    have HE := Lib.hid hE
    clear h1 hE
    go_upto_region 4 with (first
      | ((with_reducible show wpList _ _ _ (Oper.mk _ (Op.load 45 _) _ _ _ _ :: _) _ _); refine wpList_val rfl (run_load_v6 rfl rfl (at6_of hrow) (v6l_len s0 e0)) ?_)
      | (go_at_call 22; refine (c14cut x0 A0 c0 a1 a2 w.heap.size W h6 (h0.below hB) hB.size hd).mono ?_; rintro e w1 ⟨v1, l1, rfl, r1, q1, y1⟩; rw [← HE.out]; obtain ⟨P1, p1, rfl, t1, z1⟩ := r1.l6))
    have hrow1 := (y1.block g hgW).trans hrow
    have hB1 := hB.trans (y1.mono hB.size)
    have hg1 := heap_lt hrow1
    have HL := Lib.hid t1
    have HQ1 := Lib.hid q1
    have hl1 : l1.length ≤ 1000000 := by
      have h1 : l1.length = (cutL6 x0 a1 a2).length := by rw [← q1, List.length_map]
      rw [h1, cutL6]
      split
      · split
        · simp
        · have := rst6_len x0 a1 a2 0; have := HDX.out; omega
      · simp
    clear t1 q1 r1 y1 hrow kd hgW hB d1
    by_cases hE0 : E = 0
    · obtain rfl := hE0
      by_cases hn1 : l1.length = 1
      · obtain ⟨x, rfl⟩ : ∃ x, l1 = [x] := by
          rcases l1 with _ | ⟨x, _ | ⟨y, l⟩⟩
          · cases hn1
          · exact ⟨x, rfl⟩
          · simp only [List.length_cons] at hn1; omega
        obtain ⟨ho, hsz⟩ := cut6_one HE.out.symm (by rw [← HQ1.out]; rfl)
        have hxq : x0 = x.q := by
          have := HQ1.out
          rw [ho] at this
          simpa using this.symm
        obtain ⟨b1, o1, f1, hb1, hr1'⟩ := HL.out.rd (by simp)
        obtain rfl := f1
        have hr1 : w1.rangeAt b1 o1 (cl6 x) := by simpa using hr1' 0 x rfl
        have HSM : Hid (same6 x0 x.q = true) := Lib.hid (same6_iff.2 hxq)
        have HX : Hid (∀ V, Below w1.heap.size w1 V → Rd V w1.heap.size A0 x0.dat ∧ Rd V w1.heap.size x.A x.q.dat) := Lib.hid fun V hV => ⟨((h0.below (hB1.trans (hV.mono hB1.size))).rd.more hB1.size), ((HL.out.arg x (by simp)).below hV).rd⟩
        have ds : decide (size6 x0 ≤ a2) = true := by simpa using hsz
        clear hr1' ho hsz hxq hn1
        rw [show [x].length = 1 from rfl] at *
        go_upto_region 5 with fail
        refine wp_region_held_drew (S := fun w' => Below w1.heap.size w1 w') (by kernel_rfl) (Below.refl _ w1).drew (fun hS => ?_)
        refine held_pure (i := 0) (oi := ⟨some 34, _, _, _, _, _⟩) rfl (by kernel_rfl) (by kernel_rfl) (by kernel_rfl) (fun _ _ _ h => h) (by rfl) (v := ?_) (fun w hSw => ?_) hS (fun hS => ?_)
        rotate_left
        · go_simp; try with_reducible rfl
        try go_frame
        refine held_pure (i := 1) (oi := ⟨some 35, _, _, _, _, _⟩) rfl (by kernel_rfl) (by kernel_rfl) (by kernel_rfl) (fun _ _ _ h => h) (by rfl) (v := ?_) (fun w hSw => ?_) hS (fun hS => ?_)
        rotate_left
        · go_simp; try with_reducible rfl
        try go_frame
        refine held_pure (i := 2) (oi := ⟨some 36, _, _, _, _, _⟩) rfl (by kernel_rfl) (by kernel_rfl) (by kernel_rfl) (fun _ _ _ h => h) (by rfl) (v := ?_) (fun w hSw => ?_) hS (fun hS => ?_)
        rotate_left
        · go_simp; try with_reducible rfl
        try go_frame
        refine held_pure (i := 3) (oi := ⟨some 37, _, _, _, _, _⟩) rfl (by kernel_rfl) (by kernel_rfl) (by kernel_rfl) (fun _ _ _ h => h) (by rfl) (v := ?_) (fun w hSw => ?_) hS (fun hS => ?_)
        rotate_left
        · go_simp; try with_reducible rfl
        try go_frame
        refine held_pure (i := 4) (oi := ⟨some 38, _, _, _, _, _⟩) rfl (by kernel_rfl) (by kernel_rfl) (by kernel_rfl) (fun _ _ _ h => h) (by rfl) (v := ?_) (fun w hSw => ?_) hS (fun hS => ?_)
        rotate_left
        · go_simp; try with_reducible rfl
        try go_frame
        refine held_pure (i := 5) (oi := ⟨some 39, _, _, _, _, _⟩) rfl (by kernel_rfl) (by kernel_rfl) (by kernel_rfl) (fun _ _ _ h => h) (by rfl) (v := ?_) (fun w hSw => ?_) hS (fun hS => ?_)
        rotate_left
        · go_simp; try with_reducible rfl
        try go_frame
        refine held_pure (i := 6) (oi := ⟨some 40, _, _, _, _, _⟩) rfl (by kernel_rfl) (by kernel_rfl) (by kernel_rfl) (fun _ _ _ h => h) (by rfl) (v := ?_) (fun w hSw => ?_) hS (fun hS => ?_)
        rotate_left
        · go_simp; try with_reducible rfl
        try go_frame
        refine held_pure (i := 7) (oi := ⟨some 41, _, _, _, _, _⟩) rfl (by kernel_rfl) (by kernel_rfl) (by kernel_rfl) (fun _ _ _ h => h) (by rfl) (v := ?_) (fun w hSw => ?_) hS (fun hS => ?_)
        rotate_left
        · go_simp; try with_reducible rfl
        try go_frame
        refine held_pure (i := 8) (oi := ⟨some 42, _, _, _, _, _⟩) rfl (by kernel_rfl) (by kernel_rfl) (by kernel_rfl) (fun _ _ _ h => h) (by rfl) (v := ?_) (fun w hSw => ?_) hS (fun hS => ?_)
        rotate_left
        · go_simp; try with_reducible rfl
        try go_frame
        refine held_pure (i := 9) (oi := ⟨some 43, _, _, _, _, _⟩) rfl (by kernel_rfl) (by kernel_rfl) (by kernel_rfl) (fun _ _ _ h => h) (by rfl) (v := ?_) (fun w hSw => ?_) hS (fun hS => ?_)
        rotate_left
        · go_simp; try with_reducible rfl
        try go_frame
        refine held_pure (i := 10) (oi := ⟨some 44, _, _, _, _, _⟩) rfl (by kernel_rfl) (by kernel_rfl) (by kernel_rfl) (fun _ _ _ h => h) (by rfl) (fun w hSw => run_load_v6 rfl rfl (at6_of ((hSw.block g hg1).trans hrow1)) (v6l_len s0 e0)) hS (fun hS => ?_)
        try go_frame
        refine held_pure (i := 11) (oi := ⟨some 45, _, _, _, _, _⟩) rfl (by kernel_rfl) (by kernel_rfl) (by kernel_rfl) (fun _ _ _ h => h) (by rfl) (v := ?_) (fun w hSw => ?_) hS (fun hS => ?_)
        rotate_left
        · go_simp; try with_reducible rfl
        try go_frame
        refine held_pure (i := 12) (oi := ⟨some 46, _, _, _, _, _⟩) rfl (by kernel_rfl) (by kernel_rfl) (by kernel_rfl) (fun _ _ _ h => h) (by rfl) (v := Value.pointer (some ⟨b1, o1, none⟩)) (fun w hSw => by go_simp) hS (fun hS => ?_)
        try go_frame
        refine held_pure (i := 13) (oi := ⟨some 47, _, _, _, _, _⟩) rfl (by kernel_rfl) (by kernel_rfl) (by kernel_rfl) (fun _ _ _ h => h) (by rfl) (fun w hSw => run_load_v6o rfl rfl (range_below hr1 hb1 hSw) (cl6_len x.h6)) hS (fun hS => ?_)
        try go_frame
        refine wpAnyH_ready (rs := [14]) (by kernel_rfl) (by simp) (AllReadyH.cons (o := ⟨some 48, _, _, _, _, _⟩) rfl (fun K hK => ?_) AllReadyH.nil)
        rw [if_pos (by rfl)]
        go_simp
        refine (c6same x0 x.q A0 c0 x.A x.c w1.heap.size _ s0 e0 x.h6.1 x.h6.2 hS.size (HX.out _ hS).1 (HX.out _ hS).2).mono ?_
        rintro e w14 ⟨rfl, x14⟩
        rw [HSM.out]
        show K _ _
        refine hK.out _ _ (below_step hS x14) (fun hS => ?_)
        clear hK K
        try go_frame
        refine held_pure (i := 15) (oi := ⟨some 49, _, _, _, _, _⟩) rfl (by kernel_rfl) (by kernel_rfl) (by kernel_rfl) (fun _ _ _ h => h) (by rfl) (v := ?_) (fun w hSw => ?_) hS (fun hS => ?_)
        rotate_left
        · go_simp; try with_reducible rfl
        try go_frame
        refine held_pure (i := 16) (oi := ⟨some 50, _, _, _, _, _⟩) rfl (by kernel_rfl) (by kernel_rfl) (by kernel_rfl) (fun _ _ _ h => h) (by rfl) (fun w hSw => run_load_v6 rfl rfl (at6_of ((hSw.block g hg1).trans hrow1)) (v6l_len s0 e0)) hS (fun hS => ?_)
        try go_frame
        refine held_pure (i := 18) (oi := ⟨some 52, _, _, _, _, _⟩) rfl (by kernel_rfl) (by kernel_rfl) (by kernel_rfl) (fun _ _ _ h => h) (by rfl) (v := ?_) (fun w hSw => ?_) hS (fun hS => ?_)
        rotate_left
        · go_simp; try with_reducible rfl
        try go_frame
        refine wpAnyH_ready (rs := [17]) (by kernel_rfl) (by simp) (AllReadyH.cons (o := ⟨some 51, _, _, _, _, _⟩) rfl (fun K hK => ?_) AllReadyH.nil)
        rw [if_pos (by rfl)]
        go_simp
        refine (c6size x0 A0 c0 _ s0 e0 hd).mono ?_
        rintro e w17 ⟨rfl, x17⟩
        show K _ _
        refine hK.out _ _ (below_step hS x17) (fun hS => ?_)
        clear hK K
        try go_frame
        refine held_pure (i := 19) (oi := ⟨some 53, _, _, _, _, _⟩) rfl (by kernel_rfl) (by kernel_rfl) (by kernel_rfl) (fun _ _ _ h => h) (by rfl) (v := .bool true) (fun w hSw => by go_simp) hS (fun hS => ?_)
        try go_frame
        refine held_pure (i := 20) (oi := ⟨some 54, _, _, _, _, _⟩) rfl (by kernel_rfl) (by kernel_rfl) (by kernel_rfl) (fun _ _ _ h => h) (by rfl) (v := ?_) (fun w hSw => ?_) hS (fun hS => ?_)
        rotate_left
        · go_simp; try with_reducible rfl
        try go_frame
        refine held_pure (i := 21) (oi := ⟨some 55, _, _, _, _, _⟩) rfl (by kernel_rfl) (by kernel_rfl) (by kernel_rfl) (fun _ _ _ h => h) (by rfl) (v := ?_) (fun w hSw => ?_) hS (fun hS => ?_)
        rotate_left
        · go_simp; try with_reducible rfl
        try go_frame
        refine held_pure (i := 22) (oi := ⟨some 56, _, _, _, _, _⟩) rfl (by kernel_rfl) (by kernel_rfl) (by kernel_rfl) (fun _ _ _ h => h) (by rfl) (v := ?_) (fun w hSw => ?_) hS (fun hS => ?_)
        rotate_left
        · go_simp; try with_reducible rfl
        try go_frame
        refine held_pure (i := 23) (oi := ⟨some 57, _, _, _, _, _⟩) rfl (by kernel_rfl) (by kernel_rfl) (by kernel_rfl) (fun _ _ _ h => h) (by rfl) (v := ?_) (fun w hSw => ?_) hS (fun hS => ?_)
        rotate_left
        · go_simp; try with_reducible rfl
        try go_frame
        refine wpAnyH_ready (rs := [24]) (by kernel_rfl) (by simp) (AllReadyH.cons (o := ⟨some 58, _, _, _, _, _⟩) rfl (fun K hK => ?_) AllReadyH.nil)
        rw [if_pos (by rfl)]
        go_simp
        refine (awake14_any _).mono ?_
        rintro e w24 ⟨rfl, x24⟩
        show K _ _
        refine hK.out _ _ (below_step hS x24) (fun hS => ?_)
        clear hK K
        try go_frame
        refine held_pure (i := 25) (oi := ⟨some 59, _, _, _, _, _⟩) rfl (by kernel_rfl) (by kernel_rfl) (by kernel_rfl) (fun _ _ _ h => h) (by rfl) (v := ?_) (fun w hSw => ?_) hS (fun hS => ?_)
        rotate_left
        · go_simp; try with_reducible rfl
        try go_frame
        refine held_pure (i := 26) (oi := ⟨some 6, _, _, _, _, _⟩) rfl (by kernel_rfl) (by kernel_rfl) (by kernel_rfl) (fun _ _ _ h => h) (by rfl) (v := ?_) (fun w hSw => ?_) hS (fun hS => ?_)
        rotate_left
        · go_simp; try with_reducible rfl
        try go_frame
        refine wpAnyH_done (by kernel_rfl) ?_ _
        go_wp2_with fail
        go_ret
        exact ⟨rfl, hB1.trans (hS.mono hB1.size)⟩
      · have dn : ((l1.length : Int) == 1) = false := by simp; omega
        have HF := Lib.hid (cut6_many HE.out.symm (by rw [← HQ1.out, List.length_map]; exact hn1))
        obtain ⟨n, hn⟩ : ∃ n, n = l1.length := ⟨_, rfl⟩
        have HN := Lib.hid hn
        rw [← hn] at z1 hl1 dn ⊢
        clear hn hn1
        go_wp2
        go_loopw [9, 62] (fun d i wr => ∃ (k : Nat) (P : Option Addr) (p : Nat) (D : List UInt8), k ≤ n ∧ i = .int .i64 (k : Int) ∧ d = .slice P D.length p ∧ Hid (D = behs ((l1.map (·.q)).take k)) ∧ Below w1.heap.size w1 wr ∧ wr.ownsRow w1.heap.size 5 1 (.slice P D.length p) D.length (row D))
          (fun _ i _ => n - (intOf i).toNat)
        case atStart => exact ⟨0, none, 0, [], Nat.zero_le _, rfl, rfl, Lib.hid rfl, Below.refl _ _, World.ownsRow_nil _ _ _ _⟩
        case round =>
          obtain ⟨k, P, p, D, hk, rfl, rfl, HDk, hbel, hown⟩ := hrel
          have HDl : Hid (D.length ≤ 6000) := Lib.hid (by
            have h1 := behs_take_le (l1.map (·.q)) k
            rw [← HDk.out, HQ1.out, HF.out.all, List.length_drop] at h1
            have := HDX.out; omega)
          have hzr := hbel.size
          by_cases hlt : k < n
          · obtain ⟨x, hx⟩ : ∃ x, l1[k]? = some x := ⟨_, List.getElem?_eq_getElem (by rw [← HN.out]; exact hlt)⟩
            have hkl : k < (cutL6 x0 a1 a2).length := by rw [← HQ1.out, List.length_map, ← HN.out]; exact hlt
            have hkm : k < (l1.map (·.q)).length := by rw [List.length_map, ← HN.out]; exact hlt
            have hxq : (cutL6 x0 a1 a2)[k] = x.q := by
              have h1 : (l1.map (·.q))[k]? = some x.q := by rw [List.getElem?_map, hx]; rfl
              rw [HQ1.out, List.getElem?_eq_getElem hkl] at h1
              exact Option.some.inj h1
            have HXQ : Hid ((l1.map (·.q))[k] = x.q) := Lib.hid (by
              have h1 : (l1.map (·.q))[k]? = some x.q := by rw [List.getElem?_map, hx]; rfl
              rw [List.getElem?_eq_getElem hkm] at h1
              exact Option.some.inj h1)
            have hxm := List.mem_of_getElem? hx
            have hat := HF.out.at_ k hkl
            rw [hxq] at hat
            obtain ⟨g1, g2, g3, g4, g5, g6, g7, g8, g9⟩ := hat
            rw [← HQ1.out, ← HDk.out, Nat.zero_add] at g3
            have hnn : (cutL6 x0 a1 a2).length = n := by rw [← HQ1.out, List.length_map, ← HN.out]
            rw [hnn] at g6
            have HPO := Lib.hid g1
            have HPF : Hid (prtF x.q = ⟨x0.next, (D.length : Int), a1, decide (k + 1 < n)⟩) := Lib.hid (by
              rcases hf : prtF x.q with ⟨f1, f2, f3, f4⟩
              rw [hf] at g3 g4 g5 g6
              simp only at g3 g4 g5 g6
              rw [g3, g4, g5, g6])
            have HSR := Lib.hid g7
            have HDS := Lib.hid g8
            have HHP := Lib.hid g9
            have hsz := g2
            have HD1l : Hid ((prtB x.q).length ≤ 6000) := Lib.hid (by
              have h1 := behs_take_le (l1.map (·.q)) (k + 1)
              rw [behs_take _ hkm, HXQ.out, List.length_append] at h1
              rw [HQ1.out, HF.out.all, List.length_drop] at h1
              have := HDX.out; omega)
            have hxd : x.q.dat.length ≤ 1000000 := by
              have h1 : size6 x.q = 40 + (x.q.dat.length : Int) := rfl
              have h2 := (cutE6_ok HE.out.symm).1.hi
              omega
            obtain ⟨b1, o1, f1, hb1', hr1'⟩ := HL.out.rd (by rw [← HN.out]; omega)
            obtain rfl := f1
            have hrx := range_below (hr1' k x hx) hb1' hbel
            have HAx := Lib.hid (HL.out.arg x hxm)
            have eS : ∀ w, (Op.equalIn 10000 43 (.agg (cel x0.src)) (.agg (cel x0.src))).run Try.prog w = .ok true w := fun w => by rw [six_eq _ _ s0 s0 w, decide_eq_true rfl]
            have eD : ∀ w, (Op.equalIn 10000 43 (.agg (cel x0.dst)) (.agg (cel x0.dst))).run Try.prog w = .ok true w := fun w => by rw [six_eq _ _ e0 e0 w, decide_eq_true rfl]
            clear hr1' hx hxm hxq g1 g3 g4 g5 g6 g7 g8 g9 hnn hkl g2
            by_cases hm : k + 1 < n
            · skip
              have HM2 : Hid (prtF x.q = ⟨x0.next, (D.length : Int), a1, true⟩) := Lib.hid (by rw [HPF.out, decide_eq_true hm])
              have dm : decide ((k : Int) + 1 < (n : Int)) = true := by simp; omega
              have dm' : decide (k + 1 < n) = true := by simp; omega
              go_upto_region 10 with (first
                | ((with_reducible show wpList _ _ _ (Oper.mk _ (Op.load 45 _) _ _ _ _ :: _) _ _); refine wpList_val (v := .agg (cl6 x).toArray) rfl (run_load_v6o rfl rfl hrx (cl6_len x.h6)) ?_)
                | ((with_reducible show wpList _ _ _ (Oper.mk _ (Op.store 45 _ _) _ _ _ _ :: _) _ _); refine v6_store_new (cs := v6a x.q x.A x.c) rfl rfl rfl (v6a_size x.h6) (v6a_one _ _ _) ?_))
              have hX : Below wr.heap.size wr (wr.alloc (.cells (v6a x.q x.A x.c) 45)) := (Below.refl _ wr).alloc (Nat.le_refl _) _
              have hrowx := World.alloc_heap_new wr (.cells (v6a x.q x.A x.c) 45)
              have hownX := own_below hown hX
              have hBX := hbel.trans (hX.mono hzr)
              obtain ⟨b, hb⟩ : ∃ b, b = wr.heap.size := ⟨_, rfl⟩
              rw [← hb] at hrowx ⊢
              clear hX hrx hb
              generalize wr.alloc (.cells (v6a x.q x.A x.c) 45) = X at *
              have hbX := heap_lt hrowx
              have hzX := hBX.size
              have key := c14part x.q x.A x.c X.heap.size X x.h6 ((HAx.out.below hBX).more hzX) (Nat.le_refl _) hxd
              rw [HM2.out, HPO.out] at key
              obtain ⟨D1, hD1⟩ : ∃ D1, D1 = prtB x.q := ⟨_, rfl⟩
              rw [← hD1] at key
              have HD1 := Lib.hid hD1
              clear hD1
              go_upto_region 11 with (first
                | ((with_reducible show wpList _ _ _ (Oper.mk _ (Op.load 45 _) _ _ _ _ :: _) _ _); refine wpList_val rfl (run_load_v6 rfl rfl (at6_of hrowx) (v6l_len x.h6.1 x.h6.2)) ?_)
                | (go_at_call 25; refine key.mono ?_; rintro e w2 ⟨P2, p2, rfl, a2', x2⟩)
                | ((with_reducible show wpList _ _ _ (Oper.mk _ (Op.store 51 _ _) _ _ _ _ :: _) _ _); refine fr_store_new (cs := fra ⟨x0.next, (D.length : Int), a1, true⟩) rfl rfl rfl rfl (fra_one _) ?_))
              have hF := atF_of (World.alloc_heap_new w2 (.cells (fra ⟨x0.next, (D.length : Int), a1, true⟩) 51))
              have hX2 : Below w2.heap.size w2 (w2.alloc (.cells (fra ⟨x0.next, (D.length : Int), a1, true⟩) 51)) := (Below.refl _ _).alloc (Nat.le_refl _) _
              have hXY := x2.trans (hX2.mono x2.size)
              have hrowY := (hXY.block b hbX).trans hrowx
              have hownY := own_below hownX hXY
              have hA2 := (a2'.below hX2).more hX2.size
              have hBY := hBX.trans (hXY.mono hzX)
              obtain ⟨bf, hbf⟩ : ∃ b, b = w2.heap.size := ⟨_, rfl⟩
              rw [← hbf] at hF ⊢
              clear hX2 hXY a2' x2 hrowx hownX hBX hbf key hbX hzX
              generalize w2.alloc (.cells (fra ⟨x0.next, (D.length : Int), a1, true⟩) 51) = Y at *
              have hrowg := (hBY.block g hg1).trans hrow1
              have hbY := heap_lt hrowY
              have hbF : bf < Y.heap.size := by
                have h := hF.off
                exact cell_block h
              have hgY := heap_lt hrowg
              have HB3 : Hid (∀ V, Below Y.heap.size Y V → AtF V bf ⟨x0.next, (D.length : Int), a1, true⟩ ∧ At6 V b x.q x.A x.c ∧ At6 V g x0 A0 c0 ∧ V.ownsRow w1.heap.size 5 1 (.slice P D.length p) D.length (row D) ∧ Arg V V.heap.size P2 p2 D1 ∧ Below w1.heap.size w1 V) := Lib.hid fun V hV =>
                ⟨hF.below hV hbF, (at6_of hrowY).below hV hbY, (at6_of hrowg).below hV hgY, own_below hownY hV, (hA2.below hV).more hV.size, hBY.trans (hV.mono hBY.size)⟩
              have hAtY := at6_of hrowY
              clear hF hownY hA2 hBY hrowg
              obtain ⟨SZ, hSZ⟩ : ∃ S, S = size6 x.q := ⟨_, rfl⟩
              have HSZ := Lib.hid hSZ
              have dz1 : decide (SZ > a2) = false := decide_eq_false (by rw [hSZ]; omega)
              have dz2 : decide (a2 < SZ) = false := decide_eq_false (by rw [hSZ]; omega)
              clear hSZ
              go_upto_region 13 with (first
                | ((with_reducible show wpList _ _ _ (Oper.mk _ (Op.load 45 _) _ _ _ _ :: _) _ _); refine wpList_valw (by rfl) (run_load_v6 rfl rfl hAtY (v6l_len x.h6.1 x.h6.2)) ?_)
                | (go_at_call 28; refine (c6size x.q x.A x.c _ x.h6.1 x.h6.2 hxd).mono ?_; rintro e V ⟨rfl, x3⟩; rw [← HSZ.out]; obtain ⟨fF, fX, fG, fO, fA, fB⟩ := HB3.out V x3; have k0 := fF.next; have k1 := fF.off; have k2 := fF.id; have k3 := fF.more; have k4 := fX.hop; have k5 := fG.hop; have k6 := fG.next; rw [HHP.out] at k4; have j1 := fX.src; have j2 := fX.dst x.h6.1; rw [HSR.out] at j1; rw [HDS.out] at j2; have j3 := fG.src; have j4 := fG.dst s0)
                | ((with_reducible show wpList _ _ _ (Oper.mk _ (Op.load 43 _) _ _ _ _ :: _) _ _); refine wpList_valw (by rfl) (run_load_six rfl rfl (j1) s0) ?_)
                | ((with_reducible show wpList _ _ _ (Oper.mk _ (Op.load 43 _) _ _ _ _ :: _) _ _); refine wpList_valw (by rfl) (run_load_six rfl rfl (j2) e0) ?_)
                | ((with_reducible show wpList _ _ _ (Oper.mk _ (Op.load 43 _) _ _ _ _ :: _) _ _); refine wpList_valw (by rfl) (run_load_six rfl rfl (j3) s0) ?_)
                | ((with_reducible show wpList _ _ _ (Oper.mk _ (Op.load 43 _) _ _ _ _ :: _) _ _); refine wpList_valw (by rfl) (run_load_six rfl rfl (j4) e0) ?_))
              have hz3 := x3.size
              go_wp2_with (at_builtin; refine append_rd rfl _ _ rfl w1.heap.size (.slice P D.length p) D.length (row D) rfl fO V.heap.size P2 p2 D1 rfl fA.none_ fA.rd (by have := HD1l.out; have := HDl.out; have := congrArg List.length HD1.out; omega) fB.size ?_; intro v4 w4 own4 grow4; have y4 := fB.grown grow4 fB.size (fun k hk => own_block_ge fO k hk); obtain ⟨P4, p4, rfl, o4⟩ := own_made (bs := D ++ D1) own4 (List.length_append).symm (row_append _ _).symm)
              go_roundw
              case rel => exact ⟨k + 1, P4, p4, D ++ D1, by omega, by simp, by rw [List.length_append], Lib.hid (by rw [behs_take _ (by rw [List.length_map, ← HN.out]; exact hlt), ← HDk.out, HD1.out, HXQ.out]), y4, o4⟩
              case measure => simp [intOf]; omega
            · skip
              have HM2 : Hid (prtF x.q = ⟨x0.next, (D.length : Int), a1, false⟩) := Lib.hid (by rw [HPF.out, decide_eq_false hm])
              have dm : decide ((k : Int) + 1 < (n : Int)) = false := by simp; omega
              have dm' : decide (k + 1 < n) = false := by simp; omega
              go_upto_region 10 with (first
                | ((with_reducible show wpList _ _ _ (Oper.mk _ (Op.load 45 _) _ _ _ _ :: _) _ _); refine wpList_val (v := .agg (cl6 x).toArray) rfl (run_load_v6o rfl rfl hrx (cl6_len x.h6)) ?_)
                | ((with_reducible show wpList _ _ _ (Oper.mk _ (Op.store 45 _ _) _ _ _ _ :: _) _ _); refine v6_store_new (cs := v6a x.q x.A x.c) rfl rfl rfl (v6a_size x.h6) (v6a_one _ _ _) ?_))
              have hX : Below wr.heap.size wr (wr.alloc (.cells (v6a x.q x.A x.c) 45)) := (Below.refl _ wr).alloc (Nat.le_refl _) _
              have hrowx := World.alloc_heap_new wr (.cells (v6a x.q x.A x.c) 45)
              have hownX := own_below hown hX
              have hBX := hbel.trans (hX.mono hzr)
              obtain ⟨b, hb⟩ : ∃ b, b = wr.heap.size := ⟨_, rfl⟩
              rw [← hb] at hrowx ⊢
              clear hX hrx hb
              generalize wr.alloc (.cells (v6a x.q x.A x.c) 45) = X at *
              have hbX := heap_lt hrowx
              have hzX := hBX.size
              have key := c14part x.q x.A x.c X.heap.size X x.h6 ((HAx.out.below hBX).more hzX) (Nat.le_refl _) hxd
              rw [HM2.out, HPO.out] at key
              obtain ⟨D1, hD1⟩ : ∃ D1, D1 = prtB x.q := ⟨_, rfl⟩
              rw [← hD1] at key
              have HD1 := Lib.hid hD1
              clear hD1
              go_upto_region 11 with (first
                | ((with_reducible show wpList _ _ _ (Oper.mk _ (Op.load 45 _) _ _ _ _ :: _) _ _); refine wpList_val rfl (run_load_v6 rfl rfl (at6_of hrowx) (v6l_len x.h6.1 x.h6.2)) ?_)
                | (go_at_call 25; refine key.mono ?_; rintro e w2 ⟨P2, p2, rfl, a2', x2⟩)
                | ((with_reducible show wpList _ _ _ (Oper.mk _ (Op.store 51 _ _) _ _ _ _ :: _) _ _); refine fr_store_new (cs := fra ⟨x0.next, (D.length : Int), a1, false⟩) rfl rfl rfl rfl (fra_one _) ?_))
              have hF := atF_of (World.alloc_heap_new w2 (.cells (fra ⟨x0.next, (D.length : Int), a1, false⟩) 51))
              have hX2 : Below w2.heap.size w2 (w2.alloc (.cells (fra ⟨x0.next, (D.length : Int), a1, false⟩) 51)) := (Below.refl _ _).alloc (Nat.le_refl _) _
              have hXY := x2.trans (hX2.mono x2.size)
              have hrowY := (hXY.block b hbX).trans hrowx
              have hownY := own_below hownX hXY
              have hA2 := (a2'.below hX2).more hX2.size
              have hBY := hBX.trans (hXY.mono hzX)
              obtain ⟨bf, hbf⟩ : ∃ b, b = w2.heap.size := ⟨_, rfl⟩
              rw [← hbf] at hF ⊢
              clear hX2 hXY a2' x2 hrowx hownX hBX hbf key hbX hzX
              generalize w2.alloc (.cells (fra ⟨x0.next, (D.length : Int), a1, false⟩) 51) = Y at *
              have hrowg := (hBY.block g hg1).trans hrow1
              have hbY := heap_lt hrowY
              have hbF : bf < Y.heap.size := by
                have h := hF.off
                exact cell_block h
              have hgY := heap_lt hrowg
              have HB3 : Hid (∀ V, Below Y.heap.size Y V → AtF V bf ⟨x0.next, (D.length : Int), a1, false⟩ ∧ At6 V b x.q x.A x.c ∧ At6 V g x0 A0 c0 ∧ V.ownsRow w1.heap.size 5 1 (.slice P D.length p) D.length (row D) ∧ Arg V V.heap.size P2 p2 D1 ∧ Below w1.heap.size w1 V) := Lib.hid fun V hV =>
                ⟨hF.below hV hbF, (at6_of hrowY).below hV hbY, (at6_of hrowg).below hV hgY, own_below hownY hV, (hA2.below hV).more hV.size, hBY.trans (hV.mono hBY.size)⟩
              have hAtY := at6_of hrowY
              clear hF hownY hA2 hBY hrowg
              obtain ⟨SZ, hSZ⟩ : ∃ S, S = size6 x.q := ⟨_, rfl⟩
              have HSZ := Lib.hid hSZ
              have dz1 : decide (SZ > a2) = false := decide_eq_false (by rw [hSZ]; omega)
              have dz2 : decide (a2 < SZ) = false := decide_eq_false (by rw [hSZ]; omega)
              clear hSZ
              go_upto_region 13 with (first
                | ((with_reducible show wpList _ _ _ (Oper.mk _ (Op.load 45 _) _ _ _ _ :: _) _ _); refine wpList_valw (by rfl) (run_load_v6 rfl rfl hAtY (v6l_len x.h6.1 x.h6.2)) ?_)
                | (go_at_call 28; refine (c6size x.q x.A x.c _ x.h6.1 x.h6.2 hxd).mono ?_; rintro e V ⟨rfl, x3⟩; rw [← HSZ.out]; obtain ⟨fF, fX, fG, fO, fA, fB⟩ := HB3.out V x3; have k0 := fF.next; have k1 := fF.off; have k2 := fF.id; have k3 := fF.more; have k4 := fX.hop; have k5 := fG.hop; have k6 := fG.next; rw [HHP.out] at k4; have j1 := fX.src; have j2 := fX.dst x.h6.1; rw [HSR.out] at j1; rw [HDS.out] at j2; have j3 := fG.src; have j4 := fG.dst s0)
                | ((with_reducible show wpList _ _ _ (Oper.mk _ (Op.load 43 _) _ _ _ _ :: _) _ _); refine wpList_valw (by rfl) (run_load_six rfl rfl (j1) s0) ?_)
                | ((with_reducible show wpList _ _ _ (Oper.mk _ (Op.load 43 _) _ _ _ _ :: _) _ _); refine wpList_valw (by rfl) (run_load_six rfl rfl (j2) e0) ?_)
                | ((with_reducible show wpList _ _ _ (Oper.mk _ (Op.load 43 _) _ _ _ _ :: _) _ _); refine wpList_valw (by rfl) (run_load_six rfl rfl (j3) s0) ?_)
                | ((with_reducible show wpList _ _ _ (Oper.mk _ (Op.load 43 _) _ _ _ _ :: _) _ _); refine wpList_valw (by rfl) (run_load_six rfl rfl (j4) e0) ?_))
              have hz3 := x3.size
              go_wp2_with (at_builtin; refine append_rd rfl _ _ rfl w1.heap.size (.slice P D.length p) D.length (row D) rfl fO V.heap.size P2 p2 D1 rfl fA.none_ fA.rd (by have := HD1l.out; have := HDl.out; have := congrArg List.length HD1.out; omega) fB.size ?_; intro v4 w4 own4 grow4; have y4 := fB.grown grow4 fB.size (fun k hk => own_block_ge fO k hk); obtain ⟨P4, p4, rfl, o4⟩ := own_made (bs := D ++ D1) own4 (List.length_append).symm (row_append _ _).symm)
              go_roundw
              case rel => exact ⟨k + 1, P4, p4, D ++ D1, by omega, by simp, by rw [List.length_append], Lib.hid (by rw [behs_take _ (by rw [List.length_map, ← HN.out]; exact hlt), ← HDk.out, HD1.out, HXQ.out]), y4, o4⟩
              case measure => simp [intOf]; omega
          · obtain rfl : n = k := by omega
            have HDA : Hid (D = x0.dat) := Lib.hid (by
              rw [HDk.out, List.take_of_length_le (by rw [List.length_map, ← HN.out]; exact Nat.le_refl _), HQ1.out, HF.out.all, List.drop_zero])
            have hrowg := (hbel.block g hg1).trans hrow1
            have kd := (at6_of hrowg).dat s0 e0
            have hA1 := arg_own hown
            have hBr := hB1.trans (hbel.mono hB1.size)
            have hA2 := (h0.below hBr).more hBr.size
            rw [HDA.out] at hA1 hown
            rw [HDA.out]
            go_wp2_with (first
              | (go_at_call 12; refine (equal_any P A0 x0.dat x0.dat p c0 wr.heap.size wr.heap.size wr hA1.rd hA2.rd).mono ?_; rintro e w6 ⟨rfl, rfl⟩; rw [decide_eq_true (rfl : x0.dat = x0.dat)])
              | (go_at_call 21; refine (awake14_any _).mono ?_; rintro e w10 ⟨rfl, b10⟩))
            go_ret
            exact ⟨rfl, hBr.trans (b10.mono hBr.size)⟩
    · have dE : (E == 0) = false := by simpa using hE0
      have dE' : (E != 0) = true := by simpa using hE0
      have hl : l1.length = 0 := by
        have h1 : l1.length = (cutL6 x0 a1 a2).length := by rw [← HQ1.out, List.length_map]
        rw [h1, cutL6, if_neg (by rw [← HE.out]; exact hE0)]; rfl
      rw [hl]
      clear hE0 hl hl1 z1
      go_upto_region 5 with fail
      refine wp_region_held_drew (S := fun w' => Below w1.heap.size w1 w') (by kernel_rfl) (Below.refl _ w1).drew (fun hS => ?_)
      refine held_pure (i := 0) (oi := ⟨some 34, _, _, _, _, _⟩) rfl (by kernel_rfl) (by kernel_rfl) (by kernel_rfl) (fun _ _ _ h => h) (by rfl) (v := ?_) (fun w hSw => ?_) hS (fun hS => ?_)
      rotate_left
      · go_simp; try with_reducible rfl
      try go_frame
      refine held_pure (i := 1) (oi := ⟨some 35, _, _, _, _, _⟩) rfl (by kernel_rfl) (by kernel_rfl) (by kernel_rfl) (fun _ _ _ h => h) (by rfl) (v := ?_) (fun w hSw => ?_) hS (fun hS => ?_)
      rotate_left
      · go_simp; try with_reducible rfl
      try go_frame
      refine held_pure (i := 2) (oi := ⟨some 36, _, _, _, _, _⟩) rfl (by kernel_rfl) (by kernel_rfl) (by kernel_rfl) (fun _ _ _ h => h) (by rfl) (v := ?_) (fun w hSw => ?_) hS (fun hS => ?_)
      rotate_left
      · go_simp; try with_reducible rfl
      try go_frame
      refine held_pure (i := 3) (oi := ⟨some 37, _, _, _, _, _⟩) rfl (by kernel_rfl) (by kernel_rfl) (by kernel_rfl) (fun _ _ _ h => h) (by rfl) (v := ?_) (fun w hSw => ?_) hS (fun hS => ?_)
      rotate_left
      · go_simp; try with_reducible rfl
      try go_frame
      refine held_pure (i := 4) (oi := ⟨some 38, _, _, _, _, _⟩) rfl (by kernel_rfl) (by kernel_rfl) (by kernel_rfl) (fun _ _ _ h => h) (by rfl) (v := ?_) (fun w hSw => ?_) hS (fun hS => ?_)
      rotate_left
      · go_simp; try with_reducible rfl
      try go_frame
      refine held_pure (i := 5) (oi := ⟨some 39, _, _, _, _, _⟩) rfl (by kernel_rfl) (by kernel_rfl) (by kernel_rfl) (fun _ _ _ h => h) (by rfl) (v := ?_) (fun w hSw => ?_) hS (fun hS => ?_)
      rotate_left
      · go_simp; try with_reducible rfl
      try go_frame
      refine held_pure (i := 6) (oi := ⟨some 40, _, _, _, _, _⟩) rfl (by kernel_rfl) (by kernel_rfl) (by kernel_rfl) (fun _ _ _ h => h) (by rfl) (v := ?_) (fun w hSw => ?_) hS (fun hS => ?_)
      rotate_left
      · go_simp; try with_reducible rfl
      try go_frame
      refine held_pure (i := 7) (oi := ⟨some 41, _, _, _, _, _⟩) rfl (by kernel_rfl) (by kernel_rfl) (by kernel_rfl) (fun _ _ _ h => h) (by rfl) (v := ?_) (fun w hSw => ?_) hS (fun hS => ?_)
      rotate_left
      · go_simp; try with_reducible rfl
      try go_frame
      refine held_pure (i := 8) (oi := ⟨some 42, _, _, _, _, _⟩) rfl (by kernel_rfl) (by kernel_rfl) (by kernel_rfl) (fun _ _ _ h => h) (by rfl) (v := ?_) (fun w hSw => ?_) hS (fun hS => ?_)
      rotate_left
      · go_simp; try with_reducible rfl
      try go_frame
      refine held_pure (i := 9) (oi := ⟨some 43, _, _, _, _, _⟩) rfl (by kernel_rfl) (by kernel_rfl) (by kernel_rfl) (fun _ _ _ h => h) (by rfl) (v := ?_) (fun w hSw => ?_) hS (fun hS => ?_)
      rotate_left
      · go_simp; try with_reducible rfl
      try go_frame
      refine held_skip (i := 10) (oi := ⟨some 44, _, _, _, _, _⟩) rfl (by kernel_rfl) (by kernel_rfl) (by kernel_rfl) (fun _ _ _ h => h) (by rfl) hS (fun hS => ?_)
      try go_frame
      refine held_skip (i := 11) (oi := ⟨some 45, _, _, _, _, _⟩) rfl (by kernel_rfl) (by kernel_rfl) (by kernel_rfl) (fun _ _ _ h => h) (by rfl) hS (fun hS => ?_)
      try go_frame
      refine held_skip (i := 12) (oi := ⟨some 46, _, _, _, _, _⟩) rfl (by kernel_rfl) (by kernel_rfl) (by kernel_rfl) (fun _ _ _ h => h) (by rfl) hS (fun hS => ?_)
      try go_frame
      refine held_skip (i := 13) (oi := ⟨some 47, _, _, _, _, _⟩) rfl (by kernel_rfl) (by kernel_rfl) (by kernel_rfl) (fun _ _ _ h => h) (by rfl) hS (fun hS => ?_)
      try go_frame
      refine held_skip (i := 14) (oi := ⟨some 48, _, _, _, _, _⟩) rfl (by kernel_rfl) (by kernel_rfl) (by kernel_rfl) (fun _ _ _ h => h) (by rfl) hS (fun hS => ?_)
      try go_frame
      refine held_skip (i := 15) (oi := ⟨some 49, _, _, _, _, _⟩) rfl (by kernel_rfl) (by kernel_rfl) (by kernel_rfl) (fun _ _ _ h => h) (by rfl) hS (fun hS => ?_)
      try go_frame
      refine held_skip (i := 16) (oi := ⟨some 50, _, _, _, _, _⟩) rfl (by kernel_rfl) (by kernel_rfl) (by kernel_rfl) (fun _ _ _ h => h) (by rfl) hS (fun hS => ?_)
      try go_frame
      refine held_skip (i := 17) (oi := ⟨some 51, _, _, _, _, _⟩) rfl (by kernel_rfl) (by kernel_rfl) (by kernel_rfl) (fun _ _ _ h => h) (by rfl) hS (fun hS => ?_)
      try go_frame
      refine held_skip (i := 18) (oi := ⟨some 52, _, _, _, _, _⟩) rfl (by kernel_rfl) (by kernel_rfl) (by kernel_rfl) (fun _ _ _ h => h) (by rfl) hS (fun hS => ?_)
      try go_frame
      refine held_skip (i := 19) (oi := ⟨some 53, _, _, _, _, _⟩) rfl (by kernel_rfl) (by kernel_rfl) (by kernel_rfl) (fun _ _ _ h => h) (by rfl) hS (fun hS => ?_)
      try go_frame
      refine held_skip (i := 20) (oi := ⟨some 54, _, _, _, _, _⟩) rfl (by kernel_rfl) (by kernel_rfl) (by kernel_rfl) (fun _ _ _ h => h) (by rfl) hS (fun hS => ?_)
      try go_frame
      refine held_pure (i := 21) (oi := ⟨some 55, _, _, _, _, _⟩) rfl (by kernel_rfl) (by kernel_rfl) (by kernel_rfl) (fun _ _ _ h => h) (by rfl) (v := ?_) (fun w hSw => ?_) hS (fun hS => ?_)
      rotate_left
      · go_simp; try with_reducible rfl
      try go_frame
      refine held_pure (i := 22) (oi := ⟨some 56, _, _, _, _, _⟩) rfl (by kernel_rfl) (by kernel_rfl) (by kernel_rfl) (fun _ _ _ h => h) (by rfl) (v := ?_) (fun w hSw => ?_) hS (fun hS => ?_)
      rotate_left
      · go_simp; try with_reducible rfl
      try go_frame
      refine held_pure (i := 23) (oi := ⟨some 57, _, _, _, _, _⟩) rfl (by kernel_rfl) (by kernel_rfl) (by kernel_rfl) (fun _ _ _ h => h) (by rfl) (v := ?_) (fun w hSw => ?_) hS (fun hS => ?_)
      rotate_left
      · go_simp; try with_reducible rfl
      try go_frame
      refine wpAnyH_ready (rs := [24]) (by kernel_rfl) (by simp) (AllReadyH.cons (o := ⟨some 58, _, _, _, _, _⟩) rfl (fun K hK => ?_) AllReadyH.nil)
      rw [if_pos (by rfl)]
      go_simp
      refine (awake14_any _).mono ?_
      rintro e w24 ⟨rfl, x24⟩
      show K _ _
      refine hK.out _ _ (below_step hS x24) (fun hS => ?_)
      clear hK K
      try go_frame
      refine held_pure (i := 25) (oi := ⟨some 59, _, _, _, _, _⟩) rfl (by kernel_rfl) (by kernel_rfl) (by kernel_rfl) (fun _ _ _ h => h) (by rfl) (v := ?_) (fun w hSw => ?_) hS (fun hS => ?_)
      rotate_left
      · go_simp; try with_reducible rfl
      try go_frame
      refine held_pure (i := 26) (oi := ⟨some 6, _, _, _, _, _⟩) rfl (by kernel_rfl) (by kernel_rfl) (by kernel_rfl) (fun _ _ _ h => h) (by rfl) (v := ?_) (fun w hSw => ?_) hS (fun hS => ?_)
      rotate_left
      · go_simp; try with_reducible rfl
      try go_frame
      refine wpAnyH_done (by kernel_rfl) ?_ _
      go_wp2_with fail
      go_ret
      exact ⟨rfl, hB1.trans (hS.mono hB1.size)⟩

/-! ### The row's step -/
set_option maxRecDepth 100000 in
theorem lifted (os : Os) (started : os.Started) (H : Type) (enc : TypeId × Value → H) :
    ReturnsInHanded {} Try.checked os 7 .any (Rows.cut6BackSpec.pre6 enc Try.prog Try.f7 Rows.cut6BackRow.domain false) (Rows.cut6BackSpec.post enc Try.prog Try.f7 false true false false) := by
  refine returnsInHanded_of_change (C := Try.checked) own started (by kernel_rfl) Try.func7
    (ChangeSpec.witness6 (enc := enc) (C := Try.checked) false ⟨#[], #[.agg #[.int .i64 0, .int .i64 0, .int .i64 0, .int .i64 0, .int .u8 0, .int .u8 0, .int .u8 0, .int .u8 0, .int .u8 0, .int .u8 0, .int .u8 0, .int .u8 0, .int .u8 0, .int .u8 0, .int .u8 0, .int .u8 0, .int .u8 0, .int .u8 0, .int .u8 0, .int .u8 0, .int .u8 0, .int .u8 0, .int .u8 0, .int .u8 0, .int .u8 0, .int .u8 0, .int .u8 0, .int .u8 0, .int .u8 0, .int .u8 0, .int .u8 0, .int .u8 0, .int .u8 0, .int .u8 0, .int .u8 0, .int .u8 0, .slice none 0 0], .int .i64 0, .int .i64 0], []⟩ 8 (by kernel_rfl) (by kernel_rfl) (by kernel_rfl) (by kernel_rfl)) ?_
  intro W base args ds gs before hval0 hW hcnd _
  have hval : ∀ (j : Nat) t v, Try.f7.params[j]? = some t → args[j]? = some v → Value.okWide Try.prog W .any base t v := hval0
  have hW' := hW
  obtain ⟨p, q, hA0, hV, rfl, hfz, hnd⟩ := hW
  have hA : DataW.TrodAll enc Try.prog W 0 (fun _ => true) true Try.f7.params.toList args.toList ds p := hA0
  rw [Try.params7] at hA hval
  obtain ⟨v0, vs0, d0, ds0, p0, q0, hargs, rfl, rfl, t0, r0⟩ := trodAll_cons hA
  obtain ⟨v1, vs1, d1, ds1, p1, q1, rfl, rfl, rfl, t1, r1⟩ := trodAll_cons r0
  obtain ⟨v2, vs2, d2, ds2, p2, q2, rfl, rfl, rfl, t2, r2⟩ := trodAll_cons r1
  obtain ⟨rfl, rfl, rfl⟩ := trodAll_nil r2
  obtain rfl : args = #[v0, v1, v2] := by cases args; simp_all
  obtain ⟨rfl, rfl⟩ := trodVars_none hV
  have k0 := t0
  have lt0 := Trod_lt t0
  have k1 := t1
  have lt1 := Trod_lt t1
  have k2 := t2
  have lt2 := Trod_lt t2
  obtain ⟨x0, A0, c0, rfl, h0, m0, w0, s0, e0⟩ := get_v6 (hval 0 45 v0 rfl rfl) t0
  obtain ⟨a1, rfl, w1⟩ := get_int Try.underlying3 (hval 1 3 v1 rfl rfl) t1
  obtain ⟨a2, rfl, w2⟩ := get_int Try.underlying3 (hval 2 3 v2 rfl rfl) t2
  clear hA0 hval0
  refine (walk x0 A0 c0 a1 a2 W h0 m0 w0 s0 e0 w1 w2).mono fun e W' ⟨he, bel⟩ => ?_
  subst he
  exact ⟨_, rfl, _, _, _, [], _, [], hW', trodAll_mk1 (shut_bool Try.underlying4 _), (trodAll_cons_mk (Below.trod laidOut (by kernel_rfl) (of_decide_eq_true (by kernel_rfl)) k0 bel lt0) (trodAll_cons_mk (Below.trod laidOut (by kernel_rfl) (of_decide_eq_true (by kernel_rfl)) k1 bel lt1) (trodAll_cons_mk (Below.trod laidOut (by kernel_rfl) (of_decide_eq_true (by kernel_rfl)) k2 bel lt2) trodAll_mk0))), rfl, bel.frame _, fun h => by cases h⟩

theorem over : Rows.cut6BackRow.holds Try.pinned (OpenSpec.ofChange Rows.cut6BackSpec) :=
  OpenClaim.holds_of_wide 7 Try.f7 rfl rfl rfl rfl rfl rfl rfl ⟨rfl, rfl, rfl, rfl, rfl⟩ rfl rfl rfl rfl rfl (by kernel_rfl) Try.func7 (by kernel_rfl)
    (of_decide_eq_true (by kernel_rfl)) (by unfold Func.isWrapper; first | (rw [if_pos (by decide +kernel)]; kernel_rfl) | (rw [if_neg (by decide +kernel)]; exact ⟨rfl, rfl⟩))
    (fun os started H enc _ => lifted os started H enc)

theorem proved : Rows.Cut6BackSaid := over
end Go.Proofs.Ytcebobcakiljhaa.cut6Back
