/-
  Contracts and lemmas on which the proofs of this seat stand (several texts in one). Conditions are each theorem's own.
-/
import Derived.Test.YthdaclbgandmcaaMa9
import Derived.Test.YthdaclbgandmcaaMa2
import Derived.Deep.Slices
import Derived.Test.YthdaclbgandmcaaMa6
import Derived.Test.YthdaclbgandmcaaMa3
import Derived.Test.YthdaclbgandmcaaMa4

/-
  A slice of parts that came in, opened; far of layer 15. Conditions are each theorem's own.
-/
namespace Go.Proofs.Ythdaclbgandmcaa
open Go.RowKit Go.ChangeShapes Go.WideShapes
theorem cells_at9 {w : World} {base n : Nat} {b off : Nat} {cs : List Value} (h : w.cells? base ⟨b, off, none⟩ n = some cs) : w.rangeAt b off cs := fun j u hj => by
  obtain ⟨_, hl, hc⟩ := World.cells?_some h
  have hlt : j < n := by rw [← hl]; exact (List.getElem?_eq_some_iff.1 hj).1
  have h1 := hc j hlt
  rw [add_off, hj] at h1
  exact h1
section
variable {H : Type} {enc : TypeId × Value → H} {w : World} {base : Nat} {v : Value} {d : DataW H} {p : List MemPlace}
end
open Go.Shelf
/-- Whether parts are too many, or too long. -/
def farN : Nat → Int → List Pc → Bool
  | _, n, [] => decide (n > 8000)
  | i, n, x :: l => if (decide (60 ≤ i) || decide (x.len > 2000)) || (decide (x.off > 4000) && decide (x.off ≤ 65535)) then true else farN (i + 1) (n + x.len) l
/-- Parts that are not too many, nor too long. -/
theorem farN_no : ∀ {l : List Pc} {i : Nat} {n : Int}, farN i n l = false → l.length + i ≤ 60 + (if l = [] then i else 0) ∧ (∀ x ∈ l, x.len ≤ 2000 ∧ ¬ (x.off > 4000 ∧ x.off ≤ 65535))
  | [], i, n, _ => ⟨by simp, fun x h => (by cases h)⟩
  | x :: l, i, n, h => by
    rw [farN] at h
    split at h
    · cases h
    · rename_i hc
      simp only [Bool.or_eq_true, Bool.and_eq_true, decide_eq_true_eq, not_or] at hc
      obtain ⟨⟨h1, h2⟩, h3⟩ := hc
      obtain ⟨i1, i2⟩ := farN_no h
      refine ⟨?_, fun y hy => ?_⟩
      · rw [if_neg (by simp)]
        rw [List.length_cons]
        split at i1
        · rename_i hl; subst hl; simp; omega
        · omega
      · rcases List.mem_cons.1 hy with rfl | hy
        · exact ⟨by omega, h3⟩
        · exact i2 y hy
end Go.Proofs.Ythdaclbgandmcaa

/-
  Contract of the document's Done of layer 15. Conditions are each theorem's own.
-/
namespace Go.Proofs.Ythdaclbgandmcaa
open Go.RowKit Go.Shelf

theorem run_load_u8 {o : Oper} {a : Act} {w : World} {x : Operand} {p : Addr} {n : Int} (ho : o.op = .load 5 x) (hx : a.eval x = .pointer (some p)) (hc : w.cell? p = some (.int .u8 n)) :
    (execOp a.eval o).run Try.prog w = .ok (.value (.int .u8 n)) w := by
  unfold execOp
  simp only [ho, hx, Instr.loadAt, Instr.sureAddr, Sem.run_bind, Sem.run_pure, Result.andThen_ok]
  go_simp
theorem layB_step {out b : List UInt8} {f k : Nat} (h : f + b.length ≤ out.length) (hk : k < b.length) : layB out f (b.take (k + 1)) = (layB out f (b.take k)).set (f + k) b[k] := by
  have l1 : (b.take (k + 1)).length = k + 1 := by rw [List.length_take]; omega
  have l0 : (b.take k).length = k := by rw [List.length_take]; omega
  refine List.ext_getElem? fun j => ?_
  rw [layB_get (by omega), List.getElem?_set, layB_get (by omega), layB_length (by omega), l1, l0]
  by_cases h1 : f + k = j
  · subst h1
    rw [if_pos ⟨by omega, by omega⟩, if_pos rfl, if_pos (by omega), List.getElem?_take, if_pos (by omega), show f + k - f = k by omega, List.getElem?_eq_getElem hk]
  · rw [if_neg h1]
    by_cases h2 : f ≤ j ∧ j < f + k
    · rw [if_pos ⟨h2.1, by omega⟩, if_pos h2, List.getElem?_take, List.getElem?_take, if_pos (by omega), if_pos (by omega)]
    · rw [if_neg (by omega), if_neg h2]
theorem layB_nil {out : List UInt8} {f : Nat} : layB out f [] = out := by simp [layB]
set_option maxRecDepth 100000 in
set_option maxHeartbeats 4000000 in
theorem r15done (A : Option Addr) (c : Nat) (l : List XP) (B g o : Nat) (w : World) (h : Ho w B g o A c l) (hB : B ≤ w.heap.size) (hwf : wfP (piE l)) :
    Calls Try.prog 58 #[.pointer (some ⟨g, o, none⟩)] w fun e w' => ∃ v, e = .returned (.tuple #[v, .bool (doneB (piE l))]) ∧ Made w w' v (doneP (piE l)) := by
  have hH := Lib.hid h
  have HWF := Lib.hid hwf
  obtain ⟨L, hL⟩ : ∃ L, L = piE l := ⟨_, rfl⟩
  have HL := Lib.hid hL
  obtain ⟨E, hE0⟩ : ∃ E, E = endP (piE l) := ⟨_, rfl⟩
  obtain ⟨Y, hY0⟩ : ∃ Y, Y = bytesP (piE l) := ⟨_, rfl⟩
  have hE := Lib.hid hE0.symm
  have hY := Lib.hid hY0.symm
  rw [← hL]
  have HDB : Hid (doneB L = (decide (0 ≤ E) && decide (Y = E))) := Lib.hid (by rw [doneB, hL, ← hE0, ← hY0])
  clear h hwf hE0 hY0 hL
  go_enter Try.func58, Try.ntmps58
  by_cases h1 : E < 0
  · have d1 : decide (E < 0) = true := decide_eq_true h1
    have hD : doneB L = false := by rw [HDB.out, decide_eq_false (by omega)]; rfl
    go_wp2_with (go_at_call 99; refine (r15end A c l B g o w hH.out hB).mono ?_; rintro e w1 ⟨rfl, x1⟩; rw [hE.out])
    exact bodyPost_ret (results_tmp2 rfl _ _ _) rfl ⟨_, by rw [hD]; rfl, by rw [doneP, if_neg (by rw [hD]; decide)]; exact Made.nil _ _ x1⟩
  · have d1 : decide (E < 0) = false := decide_eq_false h1
    by_cases h2 : Y = E
    · have d2 : (Y != E) = false := by rw [h2]; simp
      have hD : Hid (doneB L = true) := Lib.hid (by rw [HDB.out, decide_eq_true h2, decide_eq_true (by omega)]; rfl)
      obtain ⟨m, rfl⟩ : ∃ m : Nat, E = (m : Int) := ⟨E.toNat, by omega⟩
      have hmb : m ≤ 65535 := by
        rcases endP_cases (piE l) with h0 | ⟨y, hy, _, h4⟩
        · rw [hE.out] at h0; omega
        · obtain ⟨z, hz, rfl⟩ := List.mem_map.1 hy
          have := (hH.out.ok z hz).2
          rw [hE.out] at h4; omega
      have HDP : Hid (doneP L = fillP L (List.replicate m 0)) := Lib.hid (by rw [doneP, if_pos hD.out, HL.out, hE.out]; rfl)
      have HST : Hid (∀ x ∈ L, x.stop ≤ (m : Int)) := Lib.hid (fun x hx => by
        have h4 := HWF.out (by rw [hE.out]; omega) x (by rw [← HL.out]; exact hx)
        rwa [hE.out] at h4)
      have hmk : ∀ W : World, (Instr.makeSlice 32 (.int .i64 (m : Int)) (.int .i64 (m : Int))).run Try.prog W = .ok (.slice (some ⟨W.heap.size, 0, none⟩) m m) (W.alloc (.cells (row (List.replicate m 0)).toArray 5)) := fun W => by
        have e : (row (List.replicate m (0 : UInt8))) = List.replicate m (.int .u8 0) := by simp [row]
        rw [e, ← made_rep]; exact run_make_row' 32 5 (.int .u8 0) 1 Try.underlying32 info_u8 rfl .i64 .i64 m (by omega) (by omega) W
      clear h1 h2
      go_upto_region 5 with (first | (go_at_call 59; refine (r15bytes A c l B g o w1 (hH.out.below (x1.mono hB)) (Nat.le_trans hB x1.size)).mono ?_; rintro e w2 ⟨rfl, x2⟩; rw [hY.out]) | (go_at_call 99; refine (r15end A c l B g o w hH.out hB).mono ?_; rintro e w1 ⟨rfl, x1⟩; rw [hE.out]))
      have hB2 := x1.trans (x2.mono x1.size)
      have hA1 : Below w2.heap.size w2 (w2.alloc (.cells (row (List.replicate m 0)).toArray 5)) := (Below.refl _ _).alloc (Nat.le_refl _) _
      have hB3 := hB2.trans (hA1.mono hB2.size)
      have hgb := World.alloc_heap_new w2 (.cells (row (List.replicate m (0 : UInt8))).toArray 5)
      obtain ⟨gb, hgbe⟩ : ∃ b, b = w2.heap.size := ⟨_, rfl⟩
      have hwgb : w.heap.size ≤ gb := by rw [hgbe]; exact hB2.size
      rw [← hgbe] at hgb ⊢
      generalize w2.alloc (.cells (row (List.replicate m 0)).toArray 5) = W at *
      clear hA1 hgbe x1 x2 hB2 hmk
      obtain ⟨n, hn⟩ : ∃ n, n = l.length := ⟨_, rfl⟩
      have HN := Lib.hid hn
      have k00 := hH.out.cell
      have hgz : g < w.heap.size := cell_block k00
      have hn1 : n ≤ 100000 := by rw [hn]; exact hH.out.n
      have hn2 : n ≤ c := by rw [hn]; exact hH.out.cap
      rw [← hn] at k00
      clear hn
      go_wp2
      go_loopw [6] (fun iv wr => ∃ (i : Nat) (cur : List UInt8), i ≤ n ∧ iv = .int .i64 (i : Int) ∧ cur.length = m ∧ Hid (doneP L = fillP (L.drop i) cur) ∧ wr.heap[gb]? = some (.cells (row cur).toArray 5 (0, 0)) ∧ Below w.heap.size w wr)
        (fun iv _ => n - (intOf iv).toNat)
      case atStart => exact ⟨0, List.replicate m 0, Nat.zero_le _, rfl, List.length_replicate, Lib.hid (by rw [HDP.out, List.drop_zero]), hgb, hB3⟩
      case round =>
        obtain ⟨i, cur, hi, rfl, hcur, HF, hcg, hbel⟩ := hrel
        have kc := (hbel.cell (p := ⟨g, o, none⟩) hgz).trans k00
        by_cases hlt : i < n
        · obtain ⟨x, hx⟩ : ∃ x, l[i]? = some x := ⟨_, List.getElem?_eq_getElem (by rw [← HN.out]; exact hlt)⟩
          have hxm := List.mem_of_getElem? hx
          have ok1 := (hH.out.ok x hxm).1
          have HXD : Hid (L.drop i = x.p :: L.drop (i + 1)) := Lib.hid (by
            have hl : i < L.length := by rw [HL.out, piE, List.length_map, ← HN.out]; exact hlt
            rw [List.drop_eq_getElem_cons hl]
            congr 1
            have h1 : L[i]? = some x.p := by rw [HL.out, piE, List.getElem?_map, hx]; rfl
            rw [List.getElem?_eq_getElem hl] at h1
            exact Option.some.inj h1)
          have hst := HST.out x.p (by rw [HL.out]; exact List.mem_map.2 ⟨x, hxm, rfl⟩)
          obtain ⟨f, hf⟩ : ∃ f : Nat, x.p.off = (f : Int) := ⟨x.p.off.toNat, by omega⟩
          have hfit : f + x.p.b.length ≤ m := by
            have h4 : x.p.stop = x.p.off + (x.p.b.length : Int) := rfl
            omega
          obtain ⟨b1, o1, e1, hb1', hr1⟩ := hH.out.rd (by rw [← HN.out]; omega)
          obtain rfl := e1
          have hr := hr1 i x hx
          have kx00 : w.cell? ⟨b1, o1 + i * 3, none⟩ = some (.int .i64 (f : Int)) := by rw [← hf]; simpa using hr 0 _ rfl
          have kx02 : w.cell? ⟨b1, o1 + i * 3 + 2, none⟩ = some (.slice x.A x.p.b.length x.c) := hr 2 _ rfl
          have HXA := Lib.hid (hH.out.arg x hxm)
          have hb1w : b1 < w.heap.size := by omega
          have HFX : Hid (doneP L = fillP (L.drop (i + 1)) (layB cur f x.p.b)) := Lib.hid (by
            rw [HF.out, HXD.out, fillP, hf]; rfl)
          obtain ⟨N, hN⟩ : ∃ N, N = x.p.b.length := ⟨_, rfl⟩
          have HNB := Lib.hid hN
          have hxc := HXA.out.cap
          rw [← hN] at kx02 hfit hxc
          clear hr1 hr hx hxm hst hf ok1 HF HXD hN
          rename World => Wo
          go_wp2
          clear kc
          go_loopw [7] (fun kv wr => ∃ k : Nat, k ≤ N ∧ kv = .int .i64 (k : Int) ∧ wr.heap[gb]? = some (.cells (row (layB cur f (x.p.b.take k))).toArray 5 (0, 0)) ∧ Below w.heap.size w wr)
            (fun kv _ => N - (intOf kv).toNat)
          case atStart => exact ⟨0, Nat.zero_le _, rfl, by rw [List.take_zero, layB_nil]; exact hcg, hbel⟩
          case round =>
            clear hcg hbel
            obtain ⟨k, hk, rfl, hcg, hbel⟩ := hrel
            have k0 := (hbel.cell (p := ⟨g, o, none⟩) hgz).trans k00
            have kx0 := (hbel.cell (p := ⟨b1, o1 + i * 3, none⟩) hb1w).trans kx00
            have kx2 := (hbel.cell (p := ⟨b1, o1 + i * 3 + 2, none⟩) hb1w).trans kx02
            have hzr := hbel.size
            by_cases hkl : k < N
            · have hkb : k < x.p.b.length := by rw [← HNB.out]; exact hkl
              obtain ⟨b2, o2, e2, hb2', hr2⟩ := HXA.out.rd (by omega)
              have kb0 := hr2 k hkb
              have hb2w : b2 < w.heap.size := by omega
              have kb := (hbel.cell (p := ⟨b2, o2 + k, none⟩) hb2w).trans kb0
              rw [e2] at kx02 kx2
              have hgw : g < wr.heap.size := by omega
              have hb1 : b1 < wr.heap.size := by omega
              have hb2 : b2 < wr.heap.size := by omega
              have hcl : (layB cur f (x.p.b.take k)).length = m := by
                rw [layB_length (by rw [List.length_take]; omega)]; exact hcur
              have hgbz := heap_lt hcg
              have kgb : wr.drew.cell? ⟨gb, f + k, none⟩ = some (.int .u8 (byt (layB cur f (x.p.b.take k)) (f + k))) := by
                rw [show wr.drew.cell? ⟨gb, f + k, none⟩ = wr.cell? ⟨gb, f + k, none⟩ from rfl, cell_of_row _ _ _ _ _ _ hcg, List.getElem?_toArray]
                exact row_get _ (by rw [hcl]; omega)
              have fgb : wr.drew.frozen? ⟨gb, f + k, none⟩ = false := heap_frozen hcg (f + k)
              have HW : Hid (IntKind.i64.wrap ((f : Int) + (k : Int)) = ((f + k : Nat) : Int)) := Lib.hid (by rw [IntWalk.i64_in _ (by omega)]; omega)
              have hnew : (wr.drew.setCell ⟨gb, f + k, none⟩ (.int .u8 (byt x.p.b k))).heap[gb]? = some (.cells (row (layB cur f (x.p.b.take (k + 1)))).toArray 5 (0, 0)) := by
                have h1 := heap_setCell_same wr.drew gb (f + k) _ _ (.int .u8 (byt x.p.b k)) hcg
                rw [h1, List.setIfInBounds_toArray, layB_step (by rw [← HNB.out, hcur]; exact hfit) hkb]
                have h2 : byt x.p.b k = ((x.p.b[k]).toNat : Int) := by unfold byt; rw [List.getElem?_eq_getElem hkb]; rfl
                rw [h2, row_setb]
              clear hr2 e2 hkb
              go_upto_region 11 with fail
              refine wp_region_held_drew (S := fun w' => Below w.heap.size w w') (by kernel_rfl) hbel.drew (fun hS => ?_)
              refine held_pure (i := 0) (oi := ⟨some 42, _, _, _, _, _⟩) rfl (by kernel_rfl) (by kernel_rfl) (by kernel_rfl) (fun _ _ _ h => h) (by rfl) (v := ?_) (fun w hSw => ?_) hS (fun hS => ?_)
              rotate_left
              · go_simp; try with_reducible rfl
              try go_frame
              refine held_pure (i := 1) (oi := ⟨some 43, _, _, _, _, _⟩) rfl (by kernel_rfl) (by kernel_rfl) (by kernel_rfl) (fun _ _ _ h => h) (by rfl) (v := ?_) (fun w hSw => ?_) hS (fun hS => ?_)
              rotate_left
              · go_simp; try with_reducible rfl
              try go_frame
              refine held_pure (i := 2) (oi := ⟨some 44, _, _, _, _, _⟩) rfl (by kernel_rfl) (by kernel_rfl) (by kernel_rfl) (fun _ _ _ h => h) (by rfl) (v := ?_) (fun w hSw => ?_) hS (fun hS => ?_)
              rotate_left
              · go_simp; try with_reducible rfl
              try go_frame
              refine held_pure (i := 3) (oi := ⟨some 45, _, _, _, _, _⟩) rfl (by kernel_rfl) (by kernel_rfl) (by kernel_rfl) (fun _ _ _ h => h) (by rfl) (v := ?_) (fun w hSw => ?_) hS (fun hS => ?_)
              rotate_left
              · go_simp; try with_reducible rfl
              try go_frame
              refine held_pure (i := 4) (oi := ⟨some 46, _, _, _, _, _⟩) rfl (by kernel_rfl) (by kernel_rfl) (by kernel_rfl) (fun _ _ _ h => h) (by rfl) (fun w hSw => run_load_ps rfl rfl ((hSw.cell (p := ⟨g, o, none⟩) hgz).trans k00)) hS (fun hS => ?_)
              try go_frame
              refine held_pure (i := 5) (oi := ⟨some 47, _, _, _, _, _⟩) rfl (by kernel_rfl) (by kernel_rfl) (by kernel_rfl) (fun _ _ _ h => h) (by rfl) (v := ?_) (fun w hSw => ?_) hS (fun hS => ?_)
              rotate_left
              · go_simp; try with_reducible rfl
              try go_frame
              refine held_pure (i := 6) (oi := ⟨some 48, _, _, _, _, _⟩) rfl (by kernel_rfl) (by kernel_rfl) (by kernel_rfl) (fun _ _ _ h => h) (by rfl) (v := Value.pointer (some ⟨b1, o1 + i * 3, none⟩)) (fun w hSw => by go_simp; try (exact fun h => absurd h (by omega))) hS (fun hS => ?_)
              try go_frame
              refine held_pure (i := 7) (oi := ⟨some 49, _, _, _, _, _⟩) rfl (by kernel_rfl) (by kernel_rfl) (by kernel_rfl) (fun _ _ _ h => h) (by rfl) (v := ?_) (fun w hSw => ?_) hS (fun hS => ?_)
              rotate_left
              · go_simp; try with_reducible rfl
              try go_frame
              refine held_pure (i := 8) (oi := ⟨some 50, _, _, _, _, _⟩) rfl (by kernel_rfl) (by kernel_rfl) (by kernel_rfl) (fun _ _ _ h => h) (by rfl) (fun w hSw => run_load_int rfl rfl ((hSw.cell (p := ⟨b1, o1 + i * 3, none⟩) hb1w).trans kx00)) hS (fun hS => ?_)
              try go_frame
              refine held_pure (i := 9) (oi := ⟨some 51, _, _, _, _, _⟩) rfl (by kernel_rfl) (by kernel_rfl) (by kernel_rfl) (fun _ _ _ h => h) (by rfl) (v := ?_) (fun w hSw => ?_) hS (fun hS => ?_)
              rotate_left
              · go_simp; try with_reducible rfl
              try go_frame
              refine held_pure (i := 10) (oi := ⟨some 52, _, _, _, _, _⟩) rfl (by kernel_rfl) (by kernel_rfl) (by kernel_rfl) (fun _ _ _ h => h) (by rfl) (v := .int .i64 ((f + k : Nat) : Int)) (fun w hSw => by go_simp; exact HW.out) hS (fun hS => ?_)
              try go_frame
              refine held_pure (i := 11) (oi := ⟨some 53, _, _, _, _, _⟩) rfl (by kernel_rfl) (by kernel_rfl) (by kernel_rfl) (fun _ _ _ h => h) (by rfl) (v := ?_) (fun w hSw => ?_) hS (fun hS => ?_)
              rotate_left
              · go_simp; try with_reducible rfl
              try go_frame
              refine held_pure (i := 12) (oi := ⟨some 54, _, _, _, _, _⟩) rfl (by kernel_rfl) (by kernel_rfl) (by kernel_rfl) (fun _ _ _ h => h) (by rfl) (v := ?_) (fun w hSw => ?_) hS (fun hS => ?_)
              rotate_left
              · go_simp; try with_reducible rfl
              try go_frame
              refine held_pure (i := 13) (oi := ⟨some 55, _, _, _, _, _⟩) rfl (by kernel_rfl) (by kernel_rfl) (by kernel_rfl) (fun _ _ _ h => h) (by rfl) (v := ?_) (fun w hSw => ?_) hS (fun hS => ?_)
              rotate_left
              · go_simp; try with_reducible rfl
              try go_frame
              refine held_pure (i := 14) (oi := ⟨some 56, _, _, _, _, _⟩) rfl (by kernel_rfl) (by kernel_rfl) (by kernel_rfl) (fun _ _ _ h => h) (by rfl) (fun w hSw => run_load_ps rfl rfl ((hSw.cell (p := ⟨g, o, none⟩) hgz).trans k00)) hS (fun hS => ?_)
              try go_frame
              refine held_pure (i := 15) (oi := ⟨some 57, _, _, _, _, _⟩) rfl (by kernel_rfl) (by kernel_rfl) (by kernel_rfl) (fun _ _ _ h => h) (by rfl) (v := ?_) (fun w hSw => ?_) hS (fun hS => ?_)
              rotate_left
              · go_simp; try with_reducible rfl
              try go_frame
              refine held_pure (i := 16) (oi := ⟨some 58, _, _, _, _, _⟩) rfl (by kernel_rfl) (by kernel_rfl) (by kernel_rfl) (fun _ _ _ h => h) (by rfl) (v := Value.pointer (some ⟨b1, o1 + i * 3, none⟩)) (fun w hSw => by go_simp; try (exact fun h => absurd h (by omega))) hS (fun hS => ?_)
              try go_frame
              refine held_pure (i := 17) (oi := ⟨some 59, _, _, _, _, _⟩) rfl (by kernel_rfl) (by kernel_rfl) (by kernel_rfl) (fun _ _ _ h => h) (by rfl) (v := Value.pointer (some ⟨b1, o1 + i * 3 + 2, none⟩)) (fun w hSw => by go_simp) hS (fun hS => ?_)
              try go_frame
              refine held_pure (i := 18) (oi := ⟨some 60, _, _, _, _, _⟩) rfl (by kernel_rfl) (by kernel_rfl) (by kernel_rfl) (fun _ _ _ h => h) (by rfl) (fun w hSw => run_load_sl rfl rfl ((hSw.cell (p := ⟨b1, o1 + i * 3 + 2, none⟩) hb1w).trans kx02)) hS (fun hS => ?_)
              try go_frame
              refine held_pure (i := 19) (oi := ⟨some 61, _, _, _, _, _⟩) rfl (by kernel_rfl) (by kernel_rfl) (by kernel_rfl) (fun _ _ _ h => h) (by rfl) (v := ?_) (fun w hSw => ?_) hS (fun hS => ?_)
              rotate_left
              · go_simp; try with_reducible rfl
              try go_frame
              refine held_pure (i := 20) (oi := ⟨some 62, _, _, _, _, _⟩) rfl (by kernel_rfl) (by kernel_rfl) (by kernel_rfl) (fun _ _ _ h => h) (by rfl) (v := Value.pointer (some ⟨b2, o2 + k, none⟩)) (fun w hSw => by go_simp; try (exact fun h => absurd h (by omega))) hS (fun hS => ?_)
              try go_frame
              refine held_pure (i := 21) (oi := ⟨some 63, _, _, _, _, _⟩) rfl (by kernel_rfl) (by kernel_rfl) (by kernel_rfl) (fun _ _ _ h => h) (by rfl) (fun w hSw => run_load_u8 rfl rfl ((hSw.cell (p := ⟨b2, o2 + k, none⟩) hb2w).trans kb0)) hS (fun hS => ?_)
              try go_frame
              refine held_pure (i := 22) (oi := ⟨some 64, _, _, _, _, _⟩) rfl (by kernel_rfl) (by kernel_rfl) (by kernel_rfl) (fun _ _ _ h => h) (by rfl) (v := Value.pointer (some ⟨gb, f + k, none⟩)) (fun w hSw => by go_simp; rw [if_pos ⟨by omega, by omega⟩]; first | rfl | (have h9 : ((f : Int) + (k : Int)).toNat = f + k := by omega); (try rw [h9]); first | rfl | simp) hS (fun hS => ?_)
              try go_frame
              refine wpAnyH_ready (rs := [23]) (by kernel_rfl) (by simp) (AllReadyH.cons (o := ⟨none, _, _, _, _, _⟩) rfl (fun K hK => ?_) AllReadyH.nil)
              rw [if_pos (by rfl)]
              refine store_u8_wp (n := byt x.p.b k) rfl rfl rfl kgb fgb ?_
              refine hK.out _ _ (hS.setCell (p := ⟨gb, f + k, none⟩) hwgb _) (fun hS => ?_)
              clear hK K
              try go_frame
              refine wpAnyH_done (by kernel_rfl) ?_ _
              go_wp2_with fail
              go_roundw
              case rel => exact ⟨k + 1, by omega, by simp, hnew, hS⟩
              case measure => simp [intOf]; omega
            · obtain rfl : N = k := by omega
              go_wp2
              go_roundw
              case rel =>
                rw [HNB.out, List.take_length] at hcg
                exact ⟨i + 1, layB cur f x.p.b, by omega, by simp, by rw [layB_length (by rw [← HNB.out]; omega)]; exact hcur, HFX, hcg, hbel⟩
              case measure => simp [intOf]; omega
        · obtain rfl : n = i := by omega
          go_wp2
          have hfin : doneP L = cur := by rw [HF.out, List.drop_eq_nil_of_le (by rw [HL.out, piE, List.length_map, ← HN.out]; exact Nat.le_refl _)]; rfl
          refine bodyPost_ret (results_tmp2 rfl _ _ _) rfl ⟨_, by rw [hD.out]; rfl, ?_⟩
          rw [hfin]
          refine Made.of_own ?_ hbel
          have := own_of_block (bs := cur) hwgb hcg (by omega)
          rw [hcur] at this ⊢
          exact this
    · have d2 : (Y != E) = true := by simpa using h2
      have hD : doneB L = false := by rw [HDB.out, decide_eq_false h2, Bool.and_false]
      clear h1 h2
      go_wp2_with (first | (go_at_call 59; refine (r15bytes A c l B g o w1 (hH.out.below (x1.mono hB)) (Nat.le_trans hB x1.size)).mono ?_; rintro e w2 ⟨rfl, x2⟩; rw [hY.out]) | (go_at_call 99; refine (r15end A c l B g o w hH.out hB).mono ?_; rintro e w1 ⟨rfl, x1⟩; rw [hE.out]))
      exact bodyPost_ret (results_tmp2 rfl _ _ _) rfl ⟨_, by rw [hD]; rfl, by rw [doneP, if_neg (by rw [hD]; decide)]; exact Made.nil _ _ (x1.trans (x2.mono x1.size))⟩
end Go.Proofs.Ythdaclbgandmcaa

/-
  Contract of the document's Gaps of layer 15. Conditions are each theorem's own.
-/
namespace Go.Proofs.Ythdaclbgandmcaa
open Go.RowKit Go.Shelf

/-- A store into a row of one's own. -/
theorem own_seti {w : World} {base g n c i t : Nat} {xs : List Value} {u : Value} (h : w.ownsRow base t 1 (.slice (some ⟨g, 0, none⟩) n c) n xs) :
    (w.setCell ⟨g, i, none⟩ u).ownsRow base t 1 (.slice (some ⟨g, 0, none⟩) n c) n (xs.set i u) := by
  rcases h.2 with ⟨h0, _⟩ | ⟨k, cap, cur, hv, hb, hh, hle, hm, hs, ht⟩
  · cases h0
  · cases hv
    refine ⟨by rw [List.length_set]; exact h.1, .inr ⟨g, c, cur.setIfInBounds i u, rfl, hb, heap_set hh i _, hle, hm, by simp [hs], ?_⟩⟩
    rw [Array.toList_setIfInBounds, List.take_set, ht]
theorem own_ice {w : World} {base g n c i t : Nat} {xs : List Value} (h : w.ownsRow base t 1 (.slice (some ⟨g, 0, none⟩) n c) n xs) : w.frozen? ⟨g, i, none⟩ = false ∧ base ≤ g := by
  rcases h.2 with ⟨h0, _⟩ | ⟨k, cap, cur, hv, hb, hh, _⟩
  · cases h0
  · cases hv; exact ⟨heap_frozen hh i, hb⟩
theorem pv_set_last (pre : List Nat) (e k : Nat) : (pv (pre ++ [e])).set pre.length (.int .i64 (k : Int)) = pv (pre ++ [k]) := by
  simp [pv]
theorem pv_get_last (pre : List Nat) (e : Nat) : (pre ++ [e]).getD pre.length 0 = e := by simp
/-- append of two numbers onto a row of the call's own. -/
theorem append_int2 {w : World} {ops : Array Oper} {rest : List Oper} {o : Oper} {a : Act} {Q : Exit → Act → World → Prop} (hgd : o.guard = none) (s x : Operand)
    (ho : o.op = .call { callee := .builtin .append, args := #[s, x], argTypes := #[53, 53] })
    (base : Nat) (v : Value) (n : Nat) (ls : List Nat) (hs : a.eval s = v) (hown : w.ownsRow base 3 1 v n (pv ls))
    (g : Nat) (y z : Nat) (hx : a.eval x = .slice (some ⟨g, 0, none⟩) 2 2) (hy : w.heap[g]? = some (.cells #[.int .i64 (y : Int), .int .i64 (z : Int)] 3 (0, 0)))
    (hlen : n ≤ 1000001) (hbase : base ≤ w.heap.size)
    (h : ∀ v' w', w'.ownsRow base 3 1 v' (n + 2) (pv (ls ++ [y, z])) → w.grownBy w' v.ownBlock → wpList Try.prog ops Q rest (a.put o.dst v') w') : wpList Try.prog ops Q (o :: rest) a w := by
  obtain ⟨i0, hi, hz0, hz1, hz2⟩ := info_parts info_int
  refine wpList_append_own w hgd s x 53 ho base 3 i0 (.int .i64 0) 1 8 Try.underlying53 hi hz0 hz1 hz2 rfl (by decide) v n (pv ls) hs hown ⟨g, 0, none⟩ 2 2 [.int .i64 (y : Int), .int .i64 (z : Int)] hx
      rfl (fun j u hu => ?_) (by intro u hu; simp only [List.mem_cons, List.not_mem_nil, or_false] at hu; rcases hu with rfl | rfl <;> rfl) (by unfold maxLen; omega) (by omega) hbase (fun v' w' h1 h2 _ => h v' w' (by simpa [pv] using h1) h2)
  rw [add_off, Nat.zero_add, cell_of_row _ _ _ _ _ _ hy]
  simpa using hu
end Go.Proofs.Ythdaclbgandmcaa

/-
  The document's parts in a block of their own beside the code's: what each call keeps of the other. Conditions are each theorem's own.
-/
namespace Go.Proofs.Ythdaclbgandmcaa
open Go.RowKit Go.Shelf

/-- At block g lies what the document's answers of layer 15 keep, and own. -/
structure Rx (w : World) (g : Nat) (A : Option Addr) (c : Nat) (l : List XP) : Prop where
  obj : w.heap[g]? = some (.cells #[.slice A l.length c] 98 (0, 0))
  own : w.ownsRow 0 172 3 (.slice A l.length c) l.length (l.flatMap clP)
  byt : ∀ y ∈ l, w.ownsRow 0 5 1 (.slice y.A y.p.b.length y.c) y.p.b.length (row y.p.b)
  ok : ∀ y ∈ l, okP y.p
  n : l.length ≤ 100000
theorem Rx.ho {w : World} {g : Nat} {A : Option Addr} {c : Nat} {l : List XP} (h : Rx w g A c l) : Ho w w.heap.size g 0 A c l := by
  obtain ⟨A', c', e, hr, hc⟩ := own_rds h.own rfl rfl (fun _ _ => rfl)
  injection e with e1 e2 e3
  subst e1; subst e3
  refine ⟨cells_at h.obj rfl, heap_lt h.obj, hc, hr, fun x hx => arg_own (h.byt x hx), h.ok, h.n, fun e => ?_⟩
  subst e
  rcases h.own.2 with ⟨e, _⟩ | ⟨g', cap, cur, e, _⟩
  · injection e with _ _ e3
  · injection e with e1; cases e1
theorem Rx.below {w w' : World} {g : Nat} {A : Option Addr} {c : Nat} {l : List XP} (h : Rx w g A c l) (hb : Below w.heap.size w w') : Rx w' g A c l :=
  ⟨(hb.block g (heap_lt h.obj)).trans h.obj, own_below h.own hb, fun y hy => own_below (h.byt y hy) hb, h.ok, h.n⟩
/-- Blocks of these types alone. -/
def OfT (w : World) (S : Nat → Prop) (T : TypeId → Prop) : Prop := ∀ k, S k → ∃ cs ty, w.heap[k]? = some (.cells cs ty (0, 0)) ∧ T ty
theorem OfT.not {w : World} {S : Nat → Prop} {T : TypeId → Prop} (h : OfT w S T) {g : Nat} (hs : S g) {cs : Array Value} {ty : TypeId} {fr : Nat × Nat} (hg : w.heap[g]? = some (.cells cs ty fr)) : T ty := by
  obtain ⟨cs', ty', h1, h2⟩ := h g hs
  have h3 := h1.symm.trans hg
  simp only [Option.some.injEq, Obj.cells.injEq] at h3
  rw [← h3.2.1]; exact h2
theorem own_keptO {S : Nat → Prop} {T : TypeId → Prop} {w w' : World} {b e s n : Nat} {v : Value} {xs : List Value} (h : w.ownsRow b e s v n xs) (k : Kept S w w') (hS : OfT w S T) (hT : ¬ T e) : w'.ownsRow b e s v n xs :=
  own_keptT h k (fun _ hs _ _ hg => hT (hS.not hs hg))
theorem Rx.kept {S : Nat → Prop} {T : TypeId → Prop} {w w' : World} {g : Nat} {A : Option Addr} {c : Nat} {l : List XP} (h : Rx w g A c l) (k : Kept S w w') (hS : OfT w S T) (h1 : ¬ T 98) (h2 : ¬ T 172) (h3 : ¬ T 5) : Rx w' g A c l :=
  ⟨(k.block g (heap_lt h.obj) (fun s => h1 (hS.not s h.obj))).trans h.obj, own_keptO h.own k hS h2, fun y hy => own_keptO (h.byt y hy) k hS h3, h.ok, h.n⟩
theorem Hx.kept {S : Nat → Prop} {T : TypeId → Prop} {w w' : World} {g : Nat} {A : Option Addr} {c : Nat} {L : List XP} (h : Hx w g A c L) (k : Kept S w w') (hS : OfT w S T) (h1 : ¬ T 163) (h2 : ¬ T 158) (h3 : ¬ T 5) : Hx w' g A c L :=
  ⟨(k.block g (heap_lt h.obj) (fun s => h1 (hS.not s h.obj))).trans h.obj, own_keptO h.own k hS h2, h.nil_, fun y hy => own_keptO (h.byt y hy) k hS h3, h.ris, h.n⟩
def TH (t : TypeId) : Prop := t = 163 ∨ t = 158
def TR (t : TypeId) : Prop := t = 98
theorem Hx.ofT {w : World} {g : Nat} {A : Option Addr} {c : Nat} {L : List XP} (h : Hx w g A c L) : OfT w (fun k => k = g ∨ (Value.slice A L.length c).ownBlock = some k) TH := fun k hk => by
  rcases hk with rfl | hk
  · exact ⟨_, _, h.obj, .inl rfl⟩
  · rcases h.own.2 with ⟨e, _⟩ | ⟨g', cap, cur, e, _, hg, _⟩
    · rw [e] at hk; cases hk
    · rw [e] at hk
      have : g' = k := by simpa [Value.ownBlock] using hk
      exact ⟨cur, _, this ▸ hg, .inr rfl⟩
theorem Rx.ofT {w : World} {g : Nat} {A : Option Addr} {c : Nat} {l : List XP} (h : Rx w g A c l) : OfT w (fun k => k = g) TR := fun k hk => by subst hk; exact ⟨_, _, h.obj, rfl⟩
theorem flatG_len : ∀ S : List (Int × Int), (flatG S).length = 2 * S.length
  | [] => rfl
  | x :: S => by
    have := flatG_len S
    simp only [flatG, List.flatMap_cons, List.length_append, List.length_cons, List.length_nil] at this ⊢
    omega
theorem flatG_get : ∀ (pre : List (Int × Int)) (x : Int × Int) (more : List (Int × Int)), (flatG (pre ++ x :: more))[2 * pre.length]? = some x.1.toNat ∧ (flatG (pre ++ x :: more))[2 * pre.length + 1]? = some x.2.toNat
  | [], x, more => by simp [flatG]
  | y :: pre, x, more => by
    have := flatG_get pre x more
    simp only [flatG] at this ⊢
    rw [List.cons_append, List.flatMap_cons, List.length_cons, show 2 * (pre.length + 1) = 2 * pre.length + 1 + 1 by omega]
    simp only [List.cons_append, List.nil_append, List.getElem?_cons_succ]
    exact this
theorem rxroom (g : Nat) (A : Option Addr) (c : Nat) (l : List XP) (a : Int) (A' : Option Addr) (b : List UInt8) (c' : Nat) (w : World) (h : Rx w g A c l) (hA' : Rd w w.heap.size A' b) :
    Calls Try.prog 55 #[.pointer (some ⟨g, 0, none⟩), .int .i64 a, .slice A' b.length c'] w fun e w' => e = .returned (.int .i64 (roomP (piE l) a b)) ∧ Below w.heap.size w w' :=
  r15room A c l w.heap.size g 0 a A' b c' w h.ho (Nat.le_refl _) hA'
theorem rxbytes (g : Nat) (A : Option Addr) (c : Nat) (l : List XP) (w : World) (h : Rx w g A c l) :
    Calls Try.prog 59 #[.pointer (some ⟨g, 0, none⟩)] w fun e w' => e = .returned (.int .i64 (bytesP (piE l))) ∧ Below w.heap.size w w' :=
  r15bytes A c l w.heap.size g 0 w h.ho (Nat.le_refl _)
theorem rxadd (g : Nat) (A : Option Addr) (c : Nat) (l : List XP) (a : Int) (m : Bool) (A' : Option Addr) (b : List UInt8) (c' : Nat) (w : World) (h : Rx w g A c l) (hA' : Arg w w.heap.size A' c' b) (hbl : b.length ≤ 1000000)
    (ha : -9223372036854775808 ≤ a ∧ a ≤ 9223372036854775807) (hn : l.length + 1 ≤ 100000) :
    Calls Try.prog 57 #[.pointer (some ⟨g, 0, none⟩), .int .i64 a, .bool m, .slice A' b.length c'] w fun e w' => e = .returned (.int .i64 (addE (piE l) ⟨a, m, b⟩)) ∧
      ∃ A2 c2 l2, Rx w' g A2 c2 l2 ∧ piE l2 = addL (piE l) ⟨a, m, b⟩ ∧ Kept (fun k => k = g) w w' ∧ l2.length ≤ l.length + 1 := by
  refine (r15add A c l w.heap.size g 0 _ _ a m A' b c' w h.ho (Nat.le_refl _) h.obj hA' hbl ha).mono ?_
  rintro e w' ⟨rfl, ⟨hb, hl⟩ | ⟨hl, w1, P, p, A3, c3, hb, rfl, o1, o2⟩⟩
  · exact ⟨rfl, A, c, l, h.below hb, hl.symm, Kept.of_below hb, Nat.le_succ _⟩
  · have hg1 := (hb.block g (heap_lt h.obj)).trans h.obj
    have hlen : (l ++ [XP.mk ⟨a, m, b⟩ A3 c3]).length = l.length + 1 := by simp
    have hok : okP ⟨a, m, b⟩ := by
      rcases addL_cases (piE l) ⟨a, m, b⟩ with e | ⟨_, _, h1, h2, _, _⟩
      · rw [e] at hl
        have := congrArg List.length hl
        simp at this
      · have h3 : ¬ a < 0 := fun h => h1 (.inl h)
        have h4 : ¬ a > 65535 - (b.length : Int) := h2
        have h5 : (Pc.mk a m b).stop = a + (b.length : Int) := rfl
        exact ⟨by show 0 ≤ a; omega, by rw [h5]; omega⟩
    refine ⟨rfl, P, p, l ++ [XP.mk ⟨a, m, b⟩ A3 c3], ⟨?_, ?_, ?_, ?_, by rw [hlen]; exact hn⟩, by rw [hl, piE, piE, List.map_append]; rfl, (Kept.of_below hb).trans (Kept.setCell w1 g 0 _) (fun _ _ h => h), by rw [hlen]; exact Nat.le_refl _⟩
    · rw [hlen]; exact heap_setCell_same w1 g 0 _ _ _ hg1
    · rw [hlen]; exact own_base0 (own_setCellB o1 hg1 (nat_ne (by kernel_rfl)))
    · intro y hy
      rcases List.mem_append.1 hy with hy | hy
      · exact own_setCellB (own_below (h.byt y hy) hb) hg1 (nat_ne (by kernel_rfl))
      · rw [List.mem_singleton.1 hy]
        exact own_base0 (own_setCellB o2 hg1 (nat_ne (by kernel_rfl)))
    · intro y hy
      rcases List.mem_append.1 hy with hy | hy
      · exact h.ok y hy
      · rw [List.mem_singleton.1 hy]; exact hok
theorem Same.wf {L l : List Pc} (h : Same L l) : wfP l := fun h0 x hx => by
  rw [h.end_] at h0 ⊢
  split
  · exact le_farP (h.perm.mem_iff.2 hx)
  · rename_i he; rw [if_neg he] at h0; omega
theorem rxdone (g : Nat) (A : Option Addr) (c : Nat) (l : List XP) (w : World) (h : Rx w g A c l) (hwf : wfP (piE l)) :
    Calls Try.prog 58 #[.pointer (some ⟨g, 0, none⟩)] w fun e w' => ∃ v, e = .returned (.tuple #[v, .bool (doneB (piE l))]) ∧ Made w w' v (doneP (piE l)) :=
  r15done A c l w.heap.size g 0 w h.ho (Nat.le_refl _) hwf
end Go.Proofs.Ythdaclbgandmcaa
