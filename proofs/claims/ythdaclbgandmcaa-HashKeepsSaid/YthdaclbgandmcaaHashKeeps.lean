/-
  Whatever the calls and the key, HashKeeps answers true and its arguments read as they did: whatever else is put and deleted, a key has what it was put last. No condition.
-/
import Derived.Test.YthdaclbgandmcaaRows
import Derived.WalkKit
import Derived.ProofKit
import Derived.OpenShut
import Derived.ChangeOld
import Derived.Below
import Derived.Test.YthdaclbgandmcaaHa3
import Derived.Test.YthdaclbgandmcaaHa11
namespace Go.Proofs.Ythdaclbgandmcaa.hashKeeps
open Go.ChangeShapes Go.WideShapes Go.ChangeAt Go.RowKit
set_option linter.unusedVariables false
attribute [local go_sem] Oper.semAt_some

theorem own : ownKnob Try.prog.godebug = none := by kernel_rfl
theorem laidOut : laidOutB Try.prog = true := by kernel_rfl

/-! ### The walk -/
set_option maxRecDepth 100000 in
set_option maxHeartbeats 4000000 in
theorem walk (A0 : Option Addr) (c0 : Nat) (l0 : List Dh) (a1 : ByteArray) (w : World) (h0 : RdS clDh 3 w w.heap.size A0 l0) (e0 : ∀ y ∈ l0, (Lit.int .i64 y.op).wf = true ∧ y.key.length ≤ maxLen ∧ (Lit.int .i64 y.n).wf = true) (n0 : l0.length ≤ c0) (m0 : c0 ≤ maxLen) (w1 : a1.size ≤ maxLen) :
    Calls Try.prog 8 #[.slice A0 l0.length c0, .string a1] w fun e w' => e = .returned (.bool true) ∧ Below w.heap.size w w' := by
  obtain ⟨n, hn⟩ : ∃ n, n = l0.length := ⟨_, rfl⟩
  have HN := Lib.hid hn
  have HE0 := Lib.hid e0
  have HR0 := Lib.hid h0
  obtain ⟨key, hkey⟩ : ∃ key : List UInt8, a1 = strB key := ⟨a1.data.toList, rfl⟩
  subst hkey
  have hks := strB_size key
  rw [← hn]
  by_cases hbig : n > 100
  · have d1 : decide (100 < (n : Int)) = true := decide_eq_true (by omega)
    have d1' : decide (100 < n) = true := decide_eq_true (by omega)
    clear hn e0 h0 n0
    go_enter Try.func8, Try.ntmps8
    go_wp2_with (first
      | (go_at_call 31; (with_reducible refine (awake18 w).mono ?_); rintro e v1 ⟨rfl, x1⟩)
      | (go_at_call 31; refine (awake18 v1).mono ?_; rintro e v2 ⟨rfl, x2⟩))
    go_ret
    exact ⟨rfl, x1.trans (x2.mono x1.size)⟩
  · by_cases hbk : key.length > 200
    · have d1 : decide (100 < (n : Int)) = false := decide_eq_false (by omega)
      have d2 : decide (200 < (strB key).size) = true := decide_eq_true (by omega)
      have d3 : decide ((200 : Int) < ((strB key).size : Int)) = true := decide_eq_true (by omega)
      clear hn e0 h0 n0 hks
      go_enter Try.func8, Try.ntmps8
      go_wp2_with (first
        | (go_at_call 31; (with_reducible refine (awake18 w).mono ?_); rintro e v1 ⟨rfl, x1⟩)
        | (go_at_call 31; refine (awake18 v1).mono ?_; rintro e v2 ⟨rfl, x2⟩))
      go_ret
      exact ⟨rfl, x1.trans (x2.mono x1.size)⟩
    · have d1 : decide (100 < (n : Int)) = false := decide_eq_false (by omega)
      have d2 : decide (200 < (strB key).size) = false := decide_eq_false (by omega)
      have d3 : decide ((200 : Int) < ((strB key).size : Int)) = false := decide_eq_false (by omega)
      have hkl : key.length ≤ 1000000 := by omega
      clear hn e0 h0 n0 hks
      go_enter Try.func8, Try.ntmps8
      go_wp2_with (first
        | (go_at_call 31; (with_reducible refine (awake18 w).mono ?_); rintro e v1 ⟨rfl, x1⟩; have z1 := x1.size)
        | (go_at_call 32; refine (hm_new 200 v1 (by decide) (by decide) w.heap.size z1).mono ?_; rintro e v2 ⟨rfl, h2, x2⟩; have H2 := Lib.hid h2; have z2 : w.heap.size ≤ v2.heap.size := Nat.le_trans z1 x2.size; clear h2)
        | (go_at_call 34; refine (hm_put_new (key := key) H2.out (fun x hx => by cases hx) (by decide) 77 hkl z2).mono ?_; rintro e v3 ⟨rfl, h3, x3⟩; have H3 := Lib.hid h3; have z3 : w.heap.size ≤ v3.heap.size := Nat.le_trans z2 x3.size; clear h3))
      have b3 := (x1.trans (x2.mono x1.size)).trans x3
      generalize v1.heap.size + 1 = t at *
      go_loopw [40] (fun i wr => ∃ (k : Nat) (M : List Ent), k ≤ n ∧ i = .int .i64 (k : Int) ∧ Hid (HM wr w.heap.size t 200 M) ∧ Hid (⟨key, 77⟩ ∈ M) ∧ M.length ≤ k + 1 ∧ Below w.heap.size w wr)
        (fun i _ => n - (intOf i).toNat)
      case atStart => exact ⟨0, [⟨key, 77⟩], Nat.zero_le _, rfl, H3, Lib.hid (List.mem_cons_self ..), Nat.le_refl _, b3⟩
      case round =>
        obtain ⟨k, M, hk, rfl, HMM, HIN, hml, hbel⟩ := hrel
        clear b3 x1 x2 x3 H2 H3 z1 z2 z3
        by_cases hlt : k < n
        · obtain ⟨x, hx⟩ : ∃ x, l0[k]? = some x := ⟨_, List.getElem?_eq_getElem (by rw [← HN.out]; exact hlt)⟩
          have hxm := List.mem_of_getElem? hx
          obtain ⟨eo, ek, en⟩ := HE0.out x hxm
          obtain ⟨b9, o9, rfl, hb9, hrow9⟩ := row_ofDh HR0.out hx
          have hrow := range_below hrow9 hb9 hbel
          obtain ⟨V, hV⟩ : ∃ V, V = wr.alloc (.cells (clDh x).toArray 68) := ⟨_, rfl⟩
          have HV := Lib.hid hV
          have bV : Below wr.heap.size wr V := by rw [hV]; exact (Below.refl _ wr).alloc (Nat.le_refl _) _
          have hbV : V.heap[wr.heap.size]? = some (.cells (clDh x).toArray 68 (0, 0)) := by rw [hV]; exact World.alloc_heap_new wr _
          have kx0 : V.cell? ⟨wr.heap.size, 0, none⟩ = some (.int .i64 x.op) := cells_at (i := 0) hbV rfl
          have kx1 : V.cell? ⟨wr.heap.size, 1, none⟩ = some (.string (strB x.key)) := cells_at (i := 1) hbV rfl
          have kx2 : V.cell? ⟨wr.heap.size, 2, none⟩ = some (.int .i64 x.n) := cells_at (i := 2) hbV rfl
          have HMV := Lib.hid (HMM.out.below bV)
          have bw := hbel.trans (bV.mono hbel.size)
          have hxs := strB_size x.key
          clear hx hrow9 hV hbV eo en ek
          by_cases he : x.key = key
          · have dk : ((strB x.key).toList == (strB key).toList) = true := by rw [he]; simp
            clear he hxs
            go_wp2_with (first
              | ((with_reducible show wpList _ _ _ (Oper.mk _ (Op.load 68 _) _ _ _ _ :: _) _ _); refine wpList_val rfl (run_load_dh rfl rfl hrow rfl) ?_)
              | ((with_reducible show wpList _ _ _ (Oper.mk _ (Op.store 68 _ _) _ _ _ _ :: _) _ _); refine dh_store_new (cs := (clDh x).toArray) rfl rfl rfl rfl (clDh_one x) ?_; rw [← HV.out]))
            go_roundw
            case rel => exact ⟨k + 1, M, by omega, by simp, HMV, HIN, by omega, bw⟩
            case measure => simp [intOf]; omega
          · have dk : ((strB x.key).toList == (strB key).toList) = false := by rw [strB_eq]; exact decide_eq_false he
            by_cases hl2 : x.key.length > 200
            · have d5 : decide (200 < (strB x.key).size) = true := decide_eq_true (by omega)
              have d6 : decide ((200 : Int) < ((strB x.key).size : Int)) = true := decide_eq_true (by omega)
              clear he hxs
              go_wp2_with (first
                | ((with_reducible show wpList _ _ _ (Oper.mk _ (Op.load 68 _) _ _ _ _ :: _) _ _); refine wpList_val rfl (run_load_dh rfl rfl hrow rfl) ?_)
                | ((with_reducible show wpList _ _ _ (Oper.mk _ (Op.store 68 _ _) _ _ _ _ :: _) _ _); refine dh_store_new (cs := (clDh x).toArray) rfl rfl rfl rfl (clDh_one x) ?_; rw [← HV.out]))
              go_roundw
              case rel => exact ⟨k + 1, M, by omega, by simp, HMV, HIN, by omega, bw⟩
              case measure => simp [intOf]; omega
            · have d5 : decide (200 < (strB x.key).size) = false := decide_eq_false (by omega)
              have d6 : decide ((200 : Int) < ((strB x.key).size : Int)) = false := decide_eq_false (by omega)
              have hxl : x.key.length ≤ 1000000 := by omega
              have hmem : ∀ M' : List Ent, (∀ z ∈ M, z.key ≠ x.key → z ∈ M') → (⟨key, 77⟩ : Ent) ∈ M' := fun M' hM => hM _ HIN.out (fun e => he e.symm)
              have HMEM := Lib.hid hmem
              clear he hxs hmem
              by_cases h3 : x.op = 3
              · have d7 : (x.op == 3) = true := by simp [h3]
                clear h3
                go_wp2_with (first
                  | ((with_reducible show wpList _ _ _ (Oper.mk _ (Op.load 68 _) _ _ _ _ :: _) _ _); refine wpList_val rfl (run_load_dh rfl rfl hrow rfl) ?_)
                  | ((with_reducible show wpList _ _ _ (Oper.mk _ (Op.store 68 _ _) _ _ _ _ :: _) _ _); refine dh_store_new (cs := (clDh x).toArray) rfl rfl rfl rfl (clDh_one x) ?_; rw [← HV.out])
                  | (go_at_call 36; refine (hm_del_any HMV.out x.key hxl (Nat.le_trans hbel.size bV.size)).mono ?_; rintro e y1 ⟨q, M2, rfl, hm2, hb2, hl3, hk3⟩; have HM2 := Lib.hid hm2; have HK2 := Lib.hid (HMEM.out M2 hk3); clear hm2 hk3))
                go_roundw
                case rel => exact ⟨k + 1, M2, by omega, by simp, HM2, HK2, by omega, bw.trans hb2⟩
                case measure => simp [intOf]; omega
              · have d7 : (x.op == 3) = false := by simp [h3]
                clear h3
                go_wp2_with (first
                  | ((with_reducible show wpList _ _ _ (Oper.mk _ (Op.load 68 _) _ _ _ _ :: _) _ _); refine wpList_val rfl (run_load_dh rfl rfl hrow rfl) ?_)
                  | ((with_reducible show wpList _ _ _ (Oper.mk _ (Op.store 68 _ _) _ _ _ _ :: _) _ _); refine dh_store_new (cs := (clDh x).toArray) rfl rfl rfl rfl (clDh_one x) ?_; rw [← HV.out])
                  | (go_at_call 34; refine (hm_put_any HMV.out (by omega) x.key x.n hxl (Nat.le_trans hbel.size bV.size)).mono ?_; rintro e y1 ⟨M2, rfl, hm2, hb2, hl3, hk3⟩; have HM2 := Lib.hid hm2; have HK2 := Lib.hid (HMEM.out M2 hk3); clear hm2 hk3))
                go_roundw
                case rel => exact ⟨k + 1, M2, by omega, by simp, HM2, HK2, by omega, bw.trans hb2⟩
                case measure => simp [intOf]; omega
        · obtain rfl : n = k := by omega
          obtain ⟨A, C, hAC⟩ := List.append_of_mem HIN.out
          have HP : Hid (M.Perm ((⟨key, 77⟩ : Ent) :: (A ++ C))) := Lib.hid (by rw [hAC]; exact List.perm_middle)
          have HNO : Hid (∀ z ∈ A ++ C, z.key ≠ key) := Lib.hid fun z hz e => (List.pairwise_cons.1 (HP.out.pairwise HMM.out.keys (fun e => e.symm))).1 z hz e.symm
          have hbz := hbel.size
          clear hAC
          go_wp2_with (first
            | (go_at_call 31; refine (awake18 _).mono ?_; rintro e v9 ⟨rfl, x9⟩)
            | (go_at_call 36; (with_reducible refine (hm_del_no (key := key) H6.out HNO.out hkl z6).mono ?_); rintro e y6 ⟨rfl, h7, hb7⟩; clear h7)
            | (go_at_call 36; refine (hm_del_yes (x := ⟨key, 77⟩) H5.out HP.out hkl (Nat.le_trans hbz x5.size)).mono ?_; rintro e y5 ⟨rfl, h6, hb6⟩; have H6 := Lib.hid h6; have z6 : w.heap.size ≤ y5.heap.size := Nat.le_trans (Nat.le_trans hbz x5.size) hb6.size; clear h6)
            | (go_at_call 38; refine (hm_get_yes (x := ⟨key, 77⟩) HMM.out HIN.out hkl).mono ?_; rintro e y4 ⟨rfl, x5⟩; have H5 := Lib.hid (HMM.out.below x5)))
          go_ret
          exact ⟨rfl, (((hbel.trans (x5.mono hbz)).trans hb6).trans hb7).trans (x9.mono (Nat.le_trans z6 hb7.size))⟩

/-! ### The row's step -/
set_option maxRecDepth 100000 in
theorem lifted (os : Os) (started : os.Started) (H : Type) (enc : TypeId × Value → H) :
    ReturnsInHanded {} Try.checked os 8 .any (Rows.hashKeepsSpec.pre6 enc Try.prog Try.f8 Rows.hashKeepsRow.domain false) (Rows.hashKeepsSpec.post enc Try.prog Try.f8 false true false false) := by
  refine returnsInHanded_of_change (C := Try.checked) own started (by kernel_rfl) Try.func8
    (ChangeSpec.witness6 (enc := enc) (C := Try.checked) false ⟨#[], #[.slice none 0 0, .string ByteArray.empty], []⟩ 8 (by kernel_rfl) (by kernel_rfl) (by kernel_rfl) (by kernel_rfl)) ?_
  intro W base args ds gs before hval0 hW hcnd _
  have hval : ∀ (j : Nat) t v, Try.f8.params[j]? = some t → args[j]? = some v → Value.okWide Try.prog W .any base t v := hval0
  have hW' := hW
  obtain ⟨p, q, hA0, hV, rfl, hfz, hnd⟩ := hW
  have hA : DataW.TrodAll enc Try.prog W 0 (fun _ => true) true Try.f8.params.toList args.toList ds p := hA0
  rw [Try.params8] at hA hval
  obtain ⟨v0, vs0, d0, ds0, p0, q0, hargs, rfl, rfl, t0, r0⟩ := trodAll_cons hA
  obtain ⟨v1, vs1, d1, ds1, p1, q1, rfl, rfl, rfl, t1, r1⟩ := trodAll_cons r0
  obtain ⟨rfl, rfl, rfl⟩ := trodAll_nil r1
  obtain rfl : args = #[v0, v1] := by cases args; simp_all
  obtain ⟨rfl, rfl⟩ := trodVars_none hV
  have k0 := t0
  have lt0 := Trod_lt t0
  have k1 := t1
  have lt1 := Trod_lt t1
  obtain ⟨A0, c0, l0, rfl, h0, e0, n0, m0⟩ := get_dhs (hval 0 60 v0 rfl rfl) t0
  obtain ⟨a1, rfl, w1⟩ := get_str Try.underlying9 (hval 1 9 v1 rfl rfl) t1
  clear hA0 hval0
  refine (walk A0 c0 l0 a1 W h0 e0 n0 m0 w1).mono fun e W' ⟨he, bel⟩ => ?_
  subst he
  exact ⟨_, rfl, _, _, _, [], _, [], hW', trodAll_mk1 (shut_bool Try.underlying4 _), (trodAll_cons_mk (Below.trod laidOut (by kernel_rfl) (of_decide_eq_true (by kernel_rfl)) k0 bel lt0) (trodAll_cons_mk (Below.trod laidOut (by kernel_rfl) (of_decide_eq_true (by kernel_rfl)) k1 bel lt1) trodAll_mk0)), rfl, bel.frame _, fun h => by cases h⟩

theorem over : Rows.hashKeepsRow.holds Try.pinned (OpenSpec.ofChange Rows.hashKeepsSpec) :=
  OpenClaim.holds_of_wide 8 Try.f8 rfl rfl rfl rfl rfl rfl rfl ⟨rfl, rfl, rfl, rfl, rfl⟩ rfl rfl rfl rfl rfl (by kernel_rfl) Try.func8 (by kernel_rfl)
    (of_decide_eq_true (by kernel_rfl)) (by unfold Func.isWrapper; first | (rw [if_pos (by decide +kernel)]; kernel_rfl) | (rw [if_neg (by decide +kernel)]; exact ⟨rfl, rfl⟩))
    (fun os started H enc _ => lifted os started H enc)

theorem proved : Rows.HashKeepsSaid := over
end Go.Proofs.Ythdaclbgandmcaa.hashKeeps
