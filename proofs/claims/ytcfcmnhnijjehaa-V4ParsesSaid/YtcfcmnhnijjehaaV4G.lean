/-
  Contract of v4.Parse. Conditions are each theorem's own.
-/
import Derived.Test.YtcfcmnhnijjehaaV4F
import Derived.Test.YtcfcmnhnijjehaaV6H
namespace Go.Proofs.Ytcfcmnhnijjehaa
open Go.RowKit

theorem v4a_one (q : P4) (A : Option Addr) (c : Nat) (A' : Option Addr) (c' : Nat) : (v4a q A c A' c').all (·.oneCell') = true := by simp [v4a, Value.oneCell']
theorem v4_store {ops : Array Oper} {rest : List Oper} {x y : Operand} {ty : TypeId} {pos : String} {af : Array Edge} {a : Act} {w : World} {Q : Exit → Act → World → Prop}
    {g : Nat} {t : TypeId} {cs old : Array Value} (hx : a.eval x = .pointer (some ⟨g, 0, none⟩)) (hy : a.eval y = .agg cs) (hg : w.heap[g]? = some (.cells old t (0, 0))) (ho : old.size = 11) (hl : cs.size = 11) (h1 : cs.all (·.oneCell') = true)
    (h : wpList Try.prog ops Q rest (a.put none undef) (w.setRow g cs)) : wpList Try.prog ops Q (⟨none, .store 24 x y, ty, pos, af, none⟩ :: rest) a w :=
  wpList_plain rfl fun _ hK => wp_store_row 24 x y rfl g cs hx hy t old hg (by rw [hl]; kernel_rfl) (by rw [ho, hl]) h1 (hK _ _ h)
theorem v4_store_new {ops : Array Oper} {rest : List Oper} {x y : Operand} {ty : TypeId} {pos : String} {af : Array Edge} {a : Act} {w : World} {Q : Exit → Act → World → Prop}
    {t : TypeId} {cs old : Array Value} (hx : a.eval x = .pointer (some ⟨w.heap.size, 0, none⟩)) (hy : a.eval y = .agg cs) (ho : old.size = 11) (hl : cs.size = 11) (h1 : cs.all (·.oneCell') = true)
    (h : wpList Try.prog ops Q rest (a.put none undef) (w.alloc (.cells cs t))) : wpList Try.prog ops Q (⟨none, .store 24 x y, ty, pos, af, none⟩ :: rest) a (w.alloc (.cells old t)) :=
  v4_store hx hy (World.alloc_heap_new w _) ho hl h1 (by rw [World.setRow_alloc_new]; exact h)
theorem bad4_lay (b : List UInt8) (quoted : Bool) : bad4 b quoted = if lay4 b quoted = 0 then (if quoted = false ∧ rightB [b.take (hlen b).toNat] = false then 5 else 0) else lay4 b quoted := by
  unfold bad4 lay4
  by_cases h1 : b.length < 20
  · rw [if_pos h1, if_pos h1, if_neg (by decide)]
  · rw [if_neg h1, if_neg h1]
    by_cases h2 : byt b 0 / 16 ≠ 4 ∨ hlen b < 20
    · rw [if_pos h2, if_pos h2, if_neg (by decide)]
    · rw [if_neg h2, if_neg h2]
      by_cases h3 : hlen b > (b.length : Int) ∨ (quoted = false ∧ n2 b 2 > (b.length : Int))
      · rw [if_pos h3, if_pos h3, if_neg (by decide)]
      · rw [if_neg h3, if_neg h3]
        by_cases h4 : n2 b 2 < hlen b ∨ n2 b 6 ≥ 32768
        · rw [if_pos h4, if_pos h4, if_neg (by decide)]
        · rw [if_neg h4, if_neg h4, if_pos rfl]
theorem lay4_zero {b : List UInt8} {quoted : Bool} (h : lay4 b quoted = 0) : 20 ≤ hlen b ∧ hlen b ≤ (b.length : Int) ∧ hlen b ≤ n2 b 2 ∧ (quoted = false → n2 b 2 ≤ (b.length : Int)) := by
  unfold lay4 at h
  by_cases h1 : b.length < 20
  · rw [if_pos h1] at h; omega
  · rw [if_neg h1] at h
    by_cases h2 : byt b 0 / 16 ≠ 4 ∨ hlen b < 20
    · rw [if_pos h2] at h; omega
    · rw [if_neg h2] at h
      by_cases h3 : hlen b > (b.length : Int) ∨ (quoted = false ∧ n2 b 2 > (b.length : Int))
      · rw [if_pos h3] at h; omega
      · rw [if_neg h3] at h
        by_cases h4 : n2 b 2 < hlen b ∨ n2 b 6 ≥ 32768
        · rw [if_pos h4] at h; omega
        · refine ⟨by omega, by omega, by omega, fun e => ?_⟩
          rcases Int.lt_or_le (b.length : Int) (n2 b 2) with h5 | h5
          · exact absurd (.inr ⟨e, h5⟩) h3
          · exact h5
theorem layV_no {n s k : Int} (h : k ≠ 0) : layV n s k = .tuple #[.int .i64 0, .int .i64 0, .int .i64 k] := by rw [layV, if_neg h, if_neg h]
section
variable (b : List UInt8) (A : Option Addr) (c : Nat) (w : World)
set_option maxRecDepth 100000 in
set_option maxHeartbeats 2000000 in
theorem c4parse (B : Nat) (hR : Arg w B A c b) (hB : B ≤ w.heap.size) (hl : b.length ≤ 1000000) :
    Calls Try.prog 26 #[.slice A b.length c] w fun e w' => ∃ P p P' p', e = .returned (.tuple #[v4v (prsV b false) P p P' p', .int .i64 (prsE b false)]) ∧ Made w w' (.slice P (prsV b false).opt.length p) (prsV b false).opt ∧ Made w w' (.slice P' (prsV b false).dat.length p') (prsV b false).dat := by
  have hBW : Below w.heap.size w (w.alloc (.cells (v4a p4z none 0 none 0) 24)) := (Below.refl w.heap.size w).alloc (Nat.le_refl _) _
  have hg := World.alloc_heap_new w (.cells (v4a p4z none 0 none 0) 24)
  have hz : w.heap.size < (w.alloc (.cells (v4a p4z none 0 none 0) 24)).heap.size := by simp
  have hcap := hR.cap
  go_enter Try.func26, Try.ntmps26
  go_upto_region 1 with fail
  rw [show #[.int .i64 0, .int .i64 0, .int .i64 0, .int .i64 0, .int .i64 0, .int .i64 0, .int .i64 0, .bool false, .bool false, .slice none 0 0, .slice none 0 0] = v4a p4z none 0 none 0 from rfl]
  generalize w.alloc (.cells (v4a p4z none 0 none 0) 24) = W at *
  have hEE := bad4_lay b false
  by_cases h0 : lay4 b false = 0
  · obtain ⟨l20, ll, ln, lq⟩ := lay4_zero h0
    have lq := lq rfl
    obtain ⟨H, hH⟩ : ∃ n : Nat, (n : Int) = hlen b := ⟨(hlen b).toNat, by omega⟩
    obtain ⟨Z, hZ⟩ : ∃ n : Nat, (n : Int) = n2 b 2 := ⟨(n2 b 2).toNat, by omega⟩
    have hLV : layV (hlen b) (min (n2 b 2) (b.length : Int)) (lay4 b false) = .tuple #[.int .i64 (H : Int), .int .i64 (Z : Int), .int .i64 0] := by
      rw [h0, layV, if_pos rfl, if_pos rfl, show min (n2 b 2) (b.length : Int) = (Z : Int) by omega, hH]
    obtain ⟨HB, hHB⟩ : ∃ l, l = b.take H := ⟨_, rfl⟩
    have HHl := Lib.hid (show H = HB.length by rw [hHB, List.length_take]; omega)
    obtain ⟨D, hD⟩ : ∃ l, l = (b.take Z).drop H := ⟨_, rfl⟩
    obtain ⟨q, hq⟩ : ∃ q, q = fl4 b D := ⟨_, rfl⟩
    have HR := Lib.hid (show raw4 b = q by rw [raw4, hq, hD, show (min (n2 b 2) (b.length : Int)).toNat = Z by omega, ← hH, Int.toNat_natCast])
    have HP := Lib.hid hEE
    have HT := Lib.hid (show b.take (hlen b).toNat = HB by rw [← hH, hHB, Int.toNat_natCast])
    have HLV := Lib.hid hLV
    have H0 := Lib.hid h0
    have HQ := Lib.hid hq
    have hO : Arg w B A c HB := by rw [hHB]; exact hR.cut_hi H (by omega)
    have hql : q.opt.length ≤ 1000000 := by rw [hq]; show ((b.take (hlen b).toNat).drop 20).length ≤ _; simp; omega
    have hdl : q.dat.length ≤ 1000000 := by rw [hq]; show D.length ≤ _; rw [hD]; simp; omega
    have h20 : 20 ≤ H := by omega
    have hHZ : H ≤ Z := by omega
    have hZb : Z ≤ b.length := by omega
    have HH := Lib.hid hH
    have HD := Lib.hid hD
    clear hEE h0 l20 ll ln lq hZ hLV hHB hD hq hH
    have hx1 := hBW.size
    by_cases hr : rightB [HB] = true
    · have hBad : bad4 b false = 0 := by rw [HP.out, if_pos H0.out, if_neg (by rw [HT.out, hr]; simp)]
      have HRT := Lib.hid hr
      have HBad := Lib.hid hBad
      clear hr hBad
      go_upto_region 4 with (go_at_call 58; refine (c4layout b A c B false _ (hR.below (hBW.mono hB)) hl).mono ?_; rintro e w1 ⟨rfl, rfl⟩; rw [HLV.out])
      go_upto_region 5 with (first
        | ((with_reducible show wpList _ _ _ (Oper.mk _ (Op.slice _ _ _ _ _) _ _ _ _ :: _) _ _); (refine wpList_val rfl (run_cut_h rfl rfl rfl (h := (H : Int)) (by omega) (by omega) (m := HB.length) (by have := HHl.out; omega)) ?_))
        | (go_at_call 59; refine (right_one (some ⟨W.heap.size, 0, none⟩) HB 1 _ _ (Rd2.one (World.alloc_heap_new W _) (Nat.lt_succ_self _) (((hO.below (hBW.mono hB)).alloc (Nat.le_trans hB hBW.size) _).more (by have := hBW.size; omega))) (by simp) (by have := HHl.out; omega)).mono ?_; rintro e w2 ⟨rfl, x2⟩; rw [HRT.out]))
      have hB2 : Below w.heap.size w w2 := (hBW.alloc hBW.size _).trans (x2.mono (by simp; omega))
      have hg2 := (x2.block w.heap.size (by simp; omega)).trans ((Below.heap_alloc W (.cells #[.slice A HB.length c] 22) w.heap.size hz).trans hg)
      have hz2 : w.heap.size < w2.heap.size := by have := x2.size; simp at this; omega
      clear x2
      go_upto_region 7 with (first
        | (go_at_call 60; refine (c4read b A c _ B H Z D (hR.below (hB2.mono hB)) (Nat.le_trans hB hB2.size) hl HH.out h20 hHZ hZb HD.out).mono ?_; rintro e w3 ⟨P, p, P', p', rfl, mo, md⟩; rw [← HQ.out] at mo md; rw [← HQ.out])
        | ((with_reducible show wpList _ _ _ (Oper.mk _ (Op.store _ _ _) _ _ _ _ :: _) _ _); refine v4_store_new (cs := v4a q P p P' p') rfl rfl rfl rfl (v4a_one _ _ _ _ _) ?_))
      obtain ⟨_, _, _, _, _, _, x23⟩ := id mo
      have hAt := At4.new (q := q) (A := P) (c := p) (A' := P') (c' := p') w3
      have x34 : Below w3.heap.size w3 (w3.alloc (.cells (v4a q P p P' p') 24)) := (Below.refl _ w3).alloc (Nat.le_refl _) _
      have hz4 : w3.heap.size < (w3.alloc (.cells (v4a q P p P' p') 24)).heap.size := by simp
      have hx23 := x23.size
      generalize w3.alloc (.cells (v4a q P p P' p') 24) = W4 at *
      by_cases hc : chk4 q = 0
      · have HC := Lib.hid hc
        have HE := Lib.hid (show prsE b false = 0 by rw [prsE, HBad.out, if_pos rfl, HR.out, if_neg (by rw [hc]; simp)])
        have HV := Lib.hid (show prsV b false = q by rw [prsV, if_pos HE.out, HR.out])
        clear hc
        go_upto_region 9 with (first
          | ((with_reducible show wpList _ _ _ (Oper.mk _ (Op.load 24 _) _ _ _ _ :: _) _ _); refine wpList_val rfl (run_load_v4 rfl rfl hAt rfl) ?_)
          | (go_at_call 22; refine (c4check q P p P' p' _ hql hdl).mono ?_; rintro e w5 ⟨rfl, x5⟩; rw [HC.out]))
        have x45 : Below w3.heap.size w3 w5 := x34.trans (x5.mono (by omega))
        have hAt5 := hAt.below x5 hz4
        have hg5 := (x45.block w.heap.size (by omega)).trans ((x23.block w.heap.size hz2).trans hg2)
        go_wp2_with (first
          | ((with_reducible show wpList _ _ _ (Oper.mk _ (Op.load 24 _) _ _ _ _ :: _) _ _); refine wpList_val rfl (run_load_v4 rfl rfl hAt5 rfl) ?_)
          | ((with_reducible show wpList _ _ _ (Oper.mk _ (Op.store _ _ _) _ _ _ _ :: _) _ _); refine v4_store (g := w.heap.size) (cs := v4a q P p P' p') rfl rfl hg5 rfl rfl (v4a_one _ _ _ _ _) ?_))
        exact bodyPost_ret (res2 rfl rfl (run_loadVar_row _ _ _ 24 (v4a q P p P' p') _ _ (setRow_heap _ _ _ _ _ _ hg5) Try.underlying24 rfl (by kernel_rfl))) rfl ⟨P, p, P', p', by rw [HV.out, HE.out]; rfl, by rw [HV.out]; exact (mo.later x45).row hB2 hz2, by rw [HV.out]; exact (md.later x45).row hB2 hz2⟩
      · have dC : (chk4 q != 0) = true := by simpa using hc
        have HE := Lib.hid (show prsE b false = 4 by rw [prsE, HBad.out, if_pos rfl, HR.out, if_pos ⟨rfl, hc⟩])
        have HV := Lib.hid (show prsV b false = p4z by rw [prsV, HE.out]; rfl)
        clear hc
        go_upto_region 8 with (first
          | ((with_reducible show wpList _ _ _ (Oper.mk _ (Op.load 24 _) _ _ _ _ :: _) _ _); refine wpList_val rfl (run_load_v4 rfl rfl hAt rfl) ?_)
          | (go_at_call 22; refine (c4check q P p P' p' _ hql hdl).mono ?_; rintro e w5 ⟨rfl, x5⟩; skip))
        have x45 : Below w3.heap.size w3 w5 := x34.trans (x5.mono (by omega))
        have hg5 := (x45.block w.heap.size (by omega)).trans ((x23.block w.heap.size hz2).trans hg2)
        have hB5 : Below w.heap.size w w5 := (hB2.trans (x23.mono hB2.size)).trans (x45.mono (by omega))
        go_wp2_with (first | ((with_reducible show wpList _ _ _ (Oper.mk _ (Op.store _ _ _) _ _ _ _ :: _) _ _); refine v4_store (g := w.heap.size) (cs := v4a p4z none 0 none 0) rfl rfl hg5 rfl rfl (v4a_one _ _ _ _ _) ?_) | (fail))
        exact bodyPost_ret (res2 rfl rfl (run_loadVar_row _ _ _ 24 (v4a p4z none 0 none 0) _ _ (setRow_heap _ _ _ _ _ _ hg5) Try.underlying24 rfl (by kernel_rfl))) rfl ⟨none, 0, none, 0, by rw [HV.out, HE.out]; rfl, by rw [HV.out]; exact Made.nil _ _ (below_row hB5 (Nat.le_refl _)), by rw [HV.out]; exact Made.nil _ _ (below_row hB5 (Nat.le_refl _))⟩
    · have hr' : rightB [HB] = false := by simpa using hr
      have HRT := Lib.hid hr'
      have hBad : bad4 b false = 5 := by rw [HP.out, if_pos H0.out, if_pos (by rw [HT.out, hr']; simp)]
      have HE := Lib.hid (show prsE b false = 5 by rw [prsE, hBad]; rfl)
      clear hBad
      have HV := Lib.hid (show prsV b false = p4z by rw [prsV, HE.out]; rfl)
      clear hr hr'
      go_upto_region 4 with (go_at_call 58; refine (c4layout b A c B false _ (hR.below (hBW.mono hB)) hl).mono ?_; rintro e w1 ⟨rfl, rfl⟩; rw [HLV.out])
      go_upto_region 5 with (first
        | ((with_reducible show wpList _ _ _ (Oper.mk _ (Op.slice _ _ _ _ _) _ _ _ _ :: _) _ _); (refine wpList_val rfl (run_cut_h rfl rfl rfl (h := (H : Int)) (by omega) (by omega) (m := HB.length) (by have := HHl.out; omega)) ?_))
        | (go_at_call 59; refine (right_one (some ⟨W.heap.size, 0, none⟩) HB 1 _ _ (Rd2.one (World.alloc_heap_new W _) (Nat.lt_succ_self _) (((hO.below (hBW.mono hB)).alloc (Nat.le_trans hB hBW.size) _).more (by have := hBW.size; omega))) (by simp) (by have := HHl.out; omega)).mono ?_; rintro e w2 ⟨rfl, x2⟩; rw [HRT.out]))
      have hB2 : Below w.heap.size w w2 := (hBW.alloc hBW.size _).trans (x2.mono (by simp; omega))
      have hg2 := (x2.block w.heap.size (by simp; omega)).trans ((Below.heap_alloc W (.cells #[.slice A HB.length c] 22) w.heap.size hz).trans hg)
      go_wp2_with (first | ((with_reducible show wpList _ _ _ (Oper.mk _ (Op.store _ _ _) _ _ _ _ :: _) _ _); refine v4_store (g := w.heap.size) (cs := v4a p4z none 0 none 0) rfl rfl hg2 rfl rfl (v4a_one _ _ _ _ _) ?_) | (fail))
      exact bodyPost_ret (res2 rfl rfl (run_loadVar_row _ _ _ 24 (v4a p4z none 0 none 0) _ _ (setRow_heap _ _ _ _ _ _ hg2) Try.underlying24 rfl (by kernel_rfl))) rfl ⟨none, 0, none, 0, by rw [HV.out, HE.out]; rfl, by rw [HV.out]; exact Made.nil _ _ (below_row hB2 (Nat.le_refl _)), by rw [HV.out]; exact Made.nil _ _ (below_row hB2 (Nat.le_refl _))⟩
  · have HE := Lib.hid (show prsE b false = lay4 b false by rw [prsE, hEE, if_neg h0, if_neg h0])
    have HV := Lib.hid (show prsV b false = p4z by rw [prsV, HE.out, if_neg h0])
    have hLV := Lib.hid (layV_no (n := hlen b) (s := min (n2 b 2) (b.length : Int)) h0)
    obtain ⟨E, hE⟩ : ∃ n, n = lay4 b false := ⟨_, rfl⟩
    rw [← hE] at HE h0
    have dE : (E != 0) = true := by simpa using h0
    have HEE := Lib.hid hE
    clear hE hEE
    go_wp2_with (first | ((with_reducible show wpList _ _ _ (Oper.mk _ (Op.store _ _ _) _ _ _ _ :: _) _ _); refine v4_store (g := w.heap.size) (cs := v4a p4z none 0 none 0) rfl rfl hg rfl rfl (v4a_one _ _ _ _ _) ?_) | ((go_at_call 58; refine (c4layout b A c B false _ (hR.below (hBW.mono hB)) hl).mono ?_; rintro e w1 ⟨rfl, rfl⟩; rw [hLV.out, ← HEE.out])))
    exact bodyPost_ret (res2 rfl rfl (run_loadVar_row _ _ _ 24 (v4a p4z none 0 none 0) _ _ (setRow_heap _ _ _ _ _ _ hg) Try.underlying24 rfl (by kernel_rfl))) rfl ⟨none, 0, none, 0, by rw [HV.out, HE.out]; rfl, by rw [HV.out]; exact Made.nil _ _ (below_row hBW (Nat.le_refl _)), by rw [HV.out]; exact Made.nil _ _ (below_row hBW (Nat.le_refl _))⟩

end
end Go.Proofs.Ytcfcmnhnijjehaa
