/-
  Contracts and lemmas on which the proofs of this seat stand (several texts in one). Conditions are each theorem's own.
-/
import Derived.Test.YtkgbjohadkbjaaaQa12
import Derived.Test.YtkgbjohadkbjaaaQa6
import Derived.Laws.StructEq

/-
  From and To of a packet of a datagram that is quoted: the packet of that datagram from there, or to there. No program. Conditions are each theorem's own.
-/
namespace Go.Proofs.Ytkgbjohadkbjaaa
open Go.RowKit
section
variable {s d f t ttl : Int} {b : List UInt8}
theorem dg_six (s d f t ttl : Int) (b : List UInt8) : n2 (dgQ s d f t ttl b).dat 6 = ckU s d ⟨f, t, false, b⟩ := by
  have hc := ckU_bd s d ⟨f, t, false, b⟩
  show n2 (bldU s d ⟨f, t, false, b⟩) 6 = _
  rw [bldU, hdU, List.append_assoc]
  exact n2_be2 (a := be2 f ++ be2 t ++ be2 (8 + (b.length : Int))) hc.1 hc.2 rfl
theorem dg_quo (h : DgOk s d f t ttl b) : Quo (bld4 (dgQ s d f t ttl b)) (dgQ s d f t ttl b) 20 := by
  have hk := back_ok (more := []) (dg_chk h)
  rw [List.append_nil] at hk
  obtain ⟨h1, h2⟩ := quoted_of hk.1
  rw [hk.2] at h2
  have hl := dg_len s d f t ttl b
  have hE : qE (bld4 (dgQ s d f t ttl b)) = 0 := by
    rw [qE, if_neg (by rw [h1]; simp), h2, if_neg (by show ¬ (0 : Int) < 0; omega), if_neg (by omega), if_pos (.inl rfl)]
  obtain ⟨q, H, hq⟩ := qE_quo hE
  have e : q = dgQ s d f t ttl b := hq.val.symm.trans h2
  subst e
  have e2 : H = 20 := hq.hH
  subst e2
  exact hq
theorem dg_sis (s d f t ttl : Int) (b : List UInt8) : sisQ (dgQ s d f t ttl b) = true := by
  have h1 := dg_six s d f t ttl b
  have h2 := ck_pos s d ⟨f, t, false, b⟩ rfl
  have h3 : satQ (dgQ s d f t ttl b) = 6 := rfl
  have h4 := dg_len s d f t ttl b
  rw [sisQ, h3, h1, decide_eq_true (by omega), decide_eq_false (show ¬ ckU s d ⟨f, t, false, b⟩ = 0 by omega)]
  simp
theorem dg_fre {a n : Int} (h : DgOk s d f t ttl b) (ha : 0 ≤ a ∧ a < 4294967296) (hn : 0 ≤ n ∧ n ≤ 65535) : frE (bld4 (dgQ s d f t ttl b)) a n = 0 := by
  have hE := (dg_quo h).qe
  rw [frE, if_neg (by rw [hE]; simp), if_pos]
  refine ⟨fitsB_iff.2 ⟨by decide, by decide, ha.1, ?_⟩, fitsB_iff.2 ⟨by decide, by decide, hn.1, ?_⟩⟩
  · rw [pw4]; exact ha.2
  · rw [pw2]; omega
theorem dg_put_true {a n : Int} : putQ (bld4 (dgQ s d f t ttl b)) (dgQ s d f t ttl b) 20 true a n = bld4 (dgQ a d n t ttl b) := by
  obtain ⟨q, hq⟩ : ∃ q, q = dgQ s d f t ttl b := ⟨_, rfl⟩
  obtain ⟨Hd, hHd⟩ : ∃ l, l = hda (dgQ s d f t ttl b) (size4 (dgQ s d f t ttl b)) := ⟨_, rfl⟩
  have hHl : Hd.length = 10 := by rw [hHd]; rfl
  obtain ⟨L2, hL2⟩ : ∃ l, l = be2 (8 + (b.length : Int)) := ⟨_, rfl⟩
  have hLl : L2.length = 2 := by rw [hL2]; rfl
  obtain ⟨X, hX⟩ : ∃ l, l = be2 (sum4 (dgQ s d f t ttl b)) := ⟨_, rfl⟩
  have hXl : X.length = 2 := by rw [hX]; rfl
  obtain ⟨C, hC⟩ : ∃ l, l = be2 (ckU s d ⟨f, t, false, b⟩) := ⟨_, rfl⟩
  have hCl : C.length = 2 := by rw [hC]; rfl
  have eB : bld4 (dgQ s d f t ttl b) = Hd ++ (X ++ (be4 s ++ (be4 d ++ (be2 f ++ (be2 t ++ (L2 ++ (C ++ b))))))) := by rw [dg_parts, hHd, hX, hL2, hC]
  have eN : bld4 (dgQ a d n t ttl b) = Hd ++ (be2 (sum4 (dgQ a d n t ttl b)) ++ (be4 a ++ (be4 d ++ (be2 n ++ (be2 t ++ (L2 ++ (be2 (ckU a d ⟨n, t, false, b⟩) ++ b))))))) := by rw [dg_parts, dg_hda s d f t, hHd, hL2]
  have oa : oaQ (bld4 (dgQ s d f t ttl b)) true = be4 s := by
    show ((bld4 (dgQ s d f t ttl b)).drop 12).take 4 = _
    rw [eB, show Hd ++ (X ++ (be4 s ++ (be4 d ++ (be2 f ++ (be2 t ++ (L2 ++ (C ++ b))))))) = (Hd ++ X) ++ (be4 s ++ (be4 d ++ (be2 f ++ (be2 t ++ (L2 ++ (C ++ b)))))) by simp [List.append_assoc]]
    exact mid_at (by simp [hHl, hXl]) (be4_len _)
  have op : opQ (bld4 (dgQ s d f t ttl b)) (dgQ s d f t ttl b) 20 true = be2 f := by
    show ((bld4 (dgQ s d f t ttl b)).drop 20).take 2 = _
    rw [eB, show Hd ++ (X ++ (be4 s ++ (be4 d ++ (be2 f ++ (be2 t ++ (L2 ++ (C ++ b))))))) = (Hd ++ X ++ be4 s ++ be4 d) ++ (be2 f ++ (be2 t ++ (L2 ++ (C ++ b)))) by simp [List.append_assoc]]
    exact mid_at (by simp [hHl, hXl, be4_len]) (be2_len _)
  have hn10 : n2 (bld4 (dgQ s d f t ttl b)) 10 = sum4 (dgQ s d f t ttl b) := by
    have hs := sum4_bd (dgQ s d f t ttl b)
    rw [eB, hX]
    exact n2_be2 hs.1 hs.2 hHl
  have hh : hsQ (bld4 (dgQ s d f t ttl b)) true a = sum4 (dgQ a d n t ttl b) := by rw [hsQ, oa, hn10, dg_sum_from]
  have hw : wtQ (bld4 (dgQ s d f t ttl b)) (dgQ s d f t ttl b) 20 true a n = ckU a d ⟨n, t, false, b⟩ := by
    have hck := ckU_bd s d ⟨f, t, false, b⟩
    have hr := rest_pos b (8 + (b.length : Int))
    have w1 := be4_wall_bd s
    have w2 := be4_wall_bd d
    have w3 := be2_wall_bd f
    have w4 := be2_wall_bd t
    have w5 := be4_wall_bd a
    have w6 := be2_wall_bd n
    have hws : wsQ (bld4 (dgQ s d f t ttl b)) (dgQ s d f t ttl b) 20 true a n = 65535 - fold (65535 - (if smU s d ⟨f, t, false, b⟩ = 0 then 65535 else smU s d ⟨f, t, false, b⟩) + (65535 * 3 - (wall (be4 s) + wall (be2 f))) + (wall (be4 a) + wall (be2 n))) := by
      rw [wsQ, if_neg (by show ¬ (17 : Int) = 1; decide), oa, op, show satQ (dgQ s d f t ttl b) = 6 from rfl, dg_six, chg, if_pos hck, wall_42, wall_42, show prs (be4 s ++ be2 f).length = 3 by rw [List.length_append, be4_len, be2_len]; rfl]
      rfl
    have k := ck_same (P := psum [psd s d 17 (8 + (b.length : Int)), hdU ⟨f, t, false, b⟩ 0, b]) (wo := wall (be4 s) + wall (be2 f)) (wn := wall (be4 a) + wall (be2 n)) (m := 3) (by rw [u_psum]; omega) (by rw [u_psum]; omega) (by omega) (by omega)
      (smU s d ⟨f, t, false, b⟩) (smU a d ⟨n, t, false, b⟩) rfl (by
        have e := u_psum s d f t b
        have e' := u_psum a d n t b
        show 65535 - fold (psum [psd a d 17 (8 + (b.length : Int)), hdU ⟨n, t, false, b⟩ 0, b]) = _
        rw [e', e]
        congr 2
        omega)
    rw [wtQ, hws, ckU]
    simp only [Bool.false_eq_true, if_false]
    rw [← k]
    have : (dgQ s d f t ttl b).proto = 17 := rfl
    simp only [this, true_and]
  rw [putQ, if_pos (dg_sis s d f t ttl b), baseQ, hh, hw, show satQ (dgQ s d f t ttl b) = 6 from rfl, eB, eN]
  show splice (splice (splice (splice _ 12 (be4 a)) 20 (be2 n)) 10 _) 26 _ = _
  rw [show Hd ++ (X ++ (be4 s ++ (be4 d ++ (be2 f ++ (be2 t ++ (L2 ++ (C ++ b))))))) = (Hd ++ X) ++ (be4 s ++ (be4 d ++ (be2 f ++ (be2 t ++ (L2 ++ (C ++ b)))))) by simp [List.append_assoc], splice_at (x := be4 s) (y := be4 a) (by simp [hHl, hXl]) rfl,
    show (Hd ++ X) ++ (be4 a ++ (be4 d ++ (be2 f ++ (be2 t ++ (L2 ++ (C ++ b)))))) = (Hd ++ X ++ be4 a ++ be4 d) ++ (be2 f ++ (be2 t ++ (L2 ++ (C ++ b)))) by simp [List.append_assoc], splice_at (x := be2 f) (y := be2 n) (by simp [hHl, hXl, be4_len]) rfl,
    show (Hd ++ X ++ be4 a ++ be4 d) ++ (be2 n ++ (be2 t ++ (L2 ++ (C ++ b)))) = Hd ++ (X ++ (be4 a ++ (be4 d ++ (be2 n ++ (be2 t ++ (L2 ++ (C ++ b))))))) by simp [List.append_assoc], splice_at (x := X) (y := be2 (sum4 (dgQ a d n t ttl b))) hHl (hXl.trans (be2_len _).symm)]
  rw [show Hd ++ (be2 (sum4 (dgQ a d n t ttl b)) ++ (be4 a ++ (be4 d ++ (be2 n ++ (be2 t ++ (L2 ++ (C ++ b))))))) = (Hd ++ be2 (sum4 (dgQ a d n t ttl b)) ++ be4 a ++ be4 d ++ be2 n ++ be2 t ++ L2) ++ (C ++ b) by simp [List.append_assoc], splice_at (x := C) (by simp [hHl, be4_len, be2_len, hLl]) (hCl.trans (be2_len _).symm)]
  simp [List.append_assoc]
theorem dg_fr_true (h : DgOk s d f t ttl b) {a n : Int} (ha : 0 ≤ a ∧ a < 4294967296) (hn : 0 ≤ n ∧ n ≤ 65535) : frV (bld4 (dgQ s d f t ttl b)) true a n = bld4 (dgQ a d n t ttl b) := by
  rw [frV_quo (dg_quo h) (dg_fre h ha hn), dg_put_true]
theorem dg_put_false {a n : Int} : putQ (bld4 (dgQ s d f t ttl b)) (dgQ s d f t ttl b) 20 false a n = bld4 (dgQ s a f n ttl b) := by
  obtain ⟨q, hq⟩ : ∃ q, q = dgQ s d f t ttl b := ⟨_, rfl⟩
  obtain ⟨Hd, hHd⟩ : ∃ l, l = hda (dgQ s d f t ttl b) (size4 (dgQ s d f t ttl b)) := ⟨_, rfl⟩
  have hHl : Hd.length = 10 := by rw [hHd]; rfl
  obtain ⟨L2, hL2⟩ : ∃ l, l = be2 (8 + (b.length : Int)) := ⟨_, rfl⟩
  have hLl : L2.length = 2 := by rw [hL2]; rfl
  obtain ⟨X, hX⟩ : ∃ l, l = be2 (sum4 (dgQ s d f t ttl b)) := ⟨_, rfl⟩
  have hXl : X.length = 2 := by rw [hX]; rfl
  obtain ⟨C, hC⟩ : ∃ l, l = be2 (ckU s d ⟨f, t, false, b⟩) := ⟨_, rfl⟩
  have hCl : C.length = 2 := by rw [hC]; rfl
  have eB : bld4 (dgQ s d f t ttl b) = Hd ++ (X ++ (be4 s ++ (be4 d ++ (be2 f ++ (be2 t ++ (L2 ++ (C ++ b))))))) := by rw [dg_parts, hHd, hX, hL2, hC]
  have eN : bld4 (dgQ s a f n ttl b) = Hd ++ (be2 (sum4 (dgQ s a f n ttl b)) ++ (be4 s ++ (be4 a ++ (be2 f ++ (be2 n ++ (L2 ++ (be2 (ckU s a ⟨f, n, false, b⟩) ++ b))))))) := by rw [dg_parts, dg_hda s d f t, hHd, hL2]
  have oa : oaQ (bld4 (dgQ s d f t ttl b)) false = be4 d := by
    show ((bld4 (dgQ s d f t ttl b)).drop 16).take 4 = _
    rw [eB, show Hd ++ (X ++ (be4 s ++ (be4 d ++ (be2 f ++ (be2 t ++ (L2 ++ (C ++ b))))))) = (Hd ++ X ++ be4 s) ++ (be4 d ++ (be2 f ++ (be2 t ++ (L2 ++ (C ++ b))))) by simp [List.append_assoc]]
    exact mid_at (by simp [hHl, hXl, be4_len]) (be4_len _)
  have op : opQ (bld4 (dgQ s d f t ttl b)) (dgQ s d f t ttl b) 20 false = be2 t := by
    show ((bld4 (dgQ s d f t ttl b)).drop 22).take 2 = _
    rw [eB, show Hd ++ (X ++ (be4 s ++ (be4 d ++ (be2 f ++ (be2 t ++ (L2 ++ (C ++ b))))))) = (Hd ++ X ++ be4 s ++ be4 d ++ be2 f) ++ (be2 t ++ (L2 ++ (C ++ b))) by simp [List.append_assoc]]
    exact mid_at (by simp [hHl, hXl, be4_len, be2_len]) (be2_len _)
  have hn10 : n2 (bld4 (dgQ s d f t ttl b)) 10 = sum4 (dgQ s d f t ttl b) := by
    have hs := sum4_bd (dgQ s d f t ttl b)
    rw [eB, hX]
    exact n2_be2 hs.1 hs.2 hHl
  have hh : hsQ (bld4 (dgQ s d f t ttl b)) false a = sum4 (dgQ s a f n ttl b) := by rw [hsQ, oa, hn10, dg_sum_to]
  have hw : wtQ (bld4 (dgQ s d f t ttl b)) (dgQ s d f t ttl b) 20 false a n = ckU s a ⟨f, n, false, b⟩ := by
    have hck := ckU_bd s d ⟨f, t, false, b⟩
    have hr := rest_pos b (8 + (b.length : Int))
    have w1 := be4_wall_bd s
    have w2 := be4_wall_bd d
    have w3 := be2_wall_bd f
    have w4 := be2_wall_bd t
    have w5 := be4_wall_bd a
    have w6 := be2_wall_bd n
    have hws : wsQ (bld4 (dgQ s d f t ttl b)) (dgQ s d f t ttl b) 20 false a n = 65535 - fold (65535 - (if smU s d ⟨f, t, false, b⟩ = 0 then 65535 else smU s d ⟨f, t, false, b⟩) + (65535 * 3 - (wall (be4 d) + wall (be2 t))) + (wall (be4 a) + wall (be2 n))) := by
      rw [wsQ, if_neg (by show ¬ (17 : Int) = 1; decide), oa, op, show satQ (dgQ s d f t ttl b) = 6 from rfl, dg_six, chg, if_pos hck, wall_42, wall_42, show prs (be4 d ++ be2 t).length = 3 by rw [List.length_append, be4_len, be2_len]; rfl]
      rfl
    have k := ck_same (P := psum [psd s d 17 (8 + (b.length : Int)), hdU ⟨f, t, false, b⟩ 0, b]) (wo := wall (be4 d) + wall (be2 t)) (wn := wall (be4 a) + wall (be2 n)) (m := 3) (by rw [u_psum]; omega) (by rw [u_psum]; omega) (by omega) (by omega)
      (smU s d ⟨f, t, false, b⟩) (smU s a ⟨f, n, false, b⟩) rfl (by
        have e := u_psum s d f t b
        have e' := u_psum s a f n b
        show 65535 - fold (psum [psd s a 17 (8 + (b.length : Int)), hdU ⟨f, n, false, b⟩ 0, b]) = _
        rw [e', e]
        congr 2
        omega)
    rw [wtQ, hws, ckU]
    simp only [Bool.false_eq_true, if_false]
    rw [← k]
    have : (dgQ s d f t ttl b).proto = 17 := rfl
    simp only [this, true_and]
  rw [putQ, if_pos (dg_sis s d f t ttl b), baseQ, hh, hw, show satQ (dgQ s d f t ttl b) = 6 from rfl, eB, eN]
  show splice (splice (splice (splice _ 16 (be4 a)) 22 (be2 n)) 10 _) 26 _ = _
  rw [show Hd ++ (X ++ (be4 s ++ (be4 d ++ (be2 f ++ (be2 t ++ (L2 ++ (C ++ b))))))) = (Hd ++ X ++ be4 s) ++ (be4 d ++ (be2 f ++ (be2 t ++ (L2 ++ (C ++ b))))) by simp [List.append_assoc], splice_at (x := be4 d) (y := be4 a) (by simp [hHl, hXl, be4_len]) rfl,
    show (Hd ++ X ++ be4 s) ++ (be4 a ++ (be2 f ++ (be2 t ++ (L2 ++ (C ++ b))))) = (Hd ++ X ++ be4 s ++ be4 a ++ be2 f) ++ (be2 t ++ (L2 ++ (C ++ b))) by simp [List.append_assoc], splice_at (x := be2 t) (y := be2 n) (by simp [hHl, hXl, be4_len, be2_len]) rfl,
    show (Hd ++ X ++ be4 s ++ be4 a ++ be2 f) ++ (be2 n ++ (L2 ++ (C ++ b))) = Hd ++ (X ++ (be4 s ++ (be4 a ++ (be2 f ++ (be2 n ++ (L2 ++ (C ++ b))))))) by simp [List.append_assoc], splice_at (x := X) (y := be2 (sum4 (dgQ s a f n ttl b))) hHl (hXl.trans (be2_len _).symm)]
  rw [show Hd ++ (be2 (sum4 (dgQ s a f n ttl b)) ++ (be4 s ++ (be4 a ++ (be2 f ++ (be2 n ++ (L2 ++ (C ++ b))))))) = (Hd ++ be2 (sum4 (dgQ s a f n ttl b)) ++ be4 s ++ be4 a ++ be2 f ++ be2 n ++ L2) ++ (C ++ b) by simp [List.append_assoc], splice_at (x := C) (by simp [hHl, be4_len, be2_len, hLl]) (hCl.trans (be2_len _).symm)]
  simp [List.append_assoc]
theorem dg_fr_false (h : DgOk s d f t ttl b) {a n : Int} (ha : 0 ≤ a ∧ a < 4294967296) (hn : 0 ≤ n ∧ n ≤ 65535) : frV (bld4 (dgQ s d f t ttl b)) false a n = bld4 (dgQ s a f n ttl b) := by
  rw [frV_quo (dg_quo h) (dg_fre h ha hn), dg_put_false]
end
end Go.Proofs.Ytkgbjohadkbjaaa

/-
  What layer 26's laws call first: a packet of a datagram, ports that are told held against each other, the small example. Conditions are each theorem's own.
-/
namespace Go.Proofs.Ytkgbjohadkbjaaa
open Go.RowKit
set_option maxRecDepth 100000 in
set_option maxHeartbeats 2000000 in
theorem plain_dgQ (s d f t ttl : Int) (b : List UInt8) (A : Option Addr) (c : Nat) (w : World) (B : Nat) (hD : Arg w B A c b) (hB0 : B ≤ w.heap.size) (hl : b.length ≤ 900000) (hu : chkU ⟨f, t, false, b⟩ = 0) (h4 : chk4 (dgQ s d f t ttl b) = 0) :
    Calls Try.prog 35 #[.int .i64 s, .int .i64 d, .int .i64 f, .int .i64 t, .int .i64 ttl, .slice A b.length c] w fun e w' => ∃ P p, e = .returned (.slice P (bld4 (dgQ s d f t ttl b)).length p) ∧ Made w w' (.slice P (bld4 (dgQ s d f t ttl b)).length p) (bld4 (dgQ s d f t ttl b)) := by
  have HU := Lib.hid hu
  have H4 := Lib.hid h4
  obtain ⟨D, hDD⟩ : ∃ l, l = bldU s d ⟨f, t, false, b⟩ := ⟨_, rfl⟩
  have hDl : D.length = 8 + b.length := by rw [hDD, bldU_len]
  have HP := Lib.hid (show dgQ s d f t ttl b = ⟨0, 0, 0, ttl, 17, s, d, false, false, [], D⟩ by rw [dgQ, hDD])
  have HD := Lib.hid hDD
  obtain ⟨R, hR⟩ : ∃ l, l = bld4 (dgQ s d f t ttl b) := ⟨_, rfl⟩
  have HR := Lib.hid hR
  rw [← hR]
  have hDL := Lib.hid hDl
  clear hu h4 hDD hR hDl
  go_enter Try.func35, Try.ntmps35
  go_wp2_with (first
    | (go_at_call 61; refine (rUbuild ⟨f, t, false, b⟩ A c s d w B hD hB0 (by show b.length ≤ _; omega)).mono ?_; rintro e w1 ⟨v1, rfl, _, m1⟩; have m1 := m1 HU.out; rw [← HD.out] at m1; obtain ⟨P, p, rfl, g1, o1, y1⟩ := made_shape m1; have x1 := m1.below)
    | (go_at_call 62; refine (r5build ⟨0, 0, 0, ttl, 17, s, d, false, false, [], D⟩ none 0 P p w1 w1.heap.size (Arg.nil _ _) g1 (Nat.le_refl _) (by simp) (by have := hDL.out; show D.length ≤ _; omega)).mono ?_; rintro e w2 ⟨v2, rfl, _, m2⟩; have m2 := m2 (by have h := H4.out; rwa [HP.out] at h); rw [← HP.out, ← HR.out] at m2; obtain ⟨P2, p2, rfl, g2, o2, y2⟩ := made_shape m2))
  go_ret
  exact ⟨P2, p2, rfl, m2.after x1⟩
def sameP (x y : Pq) : Bool := (x.proto == y.proto) && (x.src == y.src) && (x.dst == y.dst)
theorem sameP_self (x : Pq) : sameP x x = true := by simp [sameP]
set_option maxRecDepth 100000 in
theorem run_eql_pq (x y : Pq) (w : World) : (binOp .eql 50 (pqv x) (pqv y)).run Try.prog w = .ok (.bool (sameP x y)) w := by
  unfold pqv sameP
  go_simp
  by_cases h1 : x.proto = y.proto <;> by_cases h2 : x.src = y.src <;> by_cases h3 : x.dst = y.dst <;> simp [h1, h2, h3]
theorem run_eqlP {a : Act} {o : Oper} {X Y : Operand} (x y : Pq) (w : World) (ho : o.op = .binOp .eql 50 X Y 50) (hX : a.eval X = pqv x) (hY : a.eval Y = pqv y) : (execOp a.eval o).run Try.prog w = .ok (.value (.bool (sameP x y))) w := by
  have h := run_eql_pq x y w
  have hg : (eqGuard .eql 50 X Y (pqv x) (pqv y)).run Try.prog w = .ok () w := run_eqGuard_agg (P := Try.prog) (w := w) .eql 50 X Y _ _ (by kernel_rfl)
  unfold execOp
  simp only [ho, hX, hY, Sem.run_bind, Sem.run_pure, Result.andThen_ok, hg, h]
theorem dg_ports {s d f t ttl : Int} {b : List UInt8} (h : DgOk s d f t ttl b) : poV (bld4 (dgQ s d f t ttl b)) = pqv ⟨17, f, t⟩ ∧ qV (bld4 (dgQ s d f t ttl b)) = dgQ s d f t ttl b ∧ qE (bld4 (dgQ s d f t ttl b)) = 0 := by
  have hq := dg_quo h
  refine ⟨?_, hq.qv, hq.qe⟩
  have e0 : n2 (dgQ s d f t ttl b).dat 0 = f := by
    show n2 (bldU s d ⟨f, t, false, b⟩) 0 = f
    rw [bldU, hdU, List.append_assoc, List.append_assoc, List.append_assoc]; exact n2_be2 (a := []) h.f0 h.f1 rfl
  have e2 : n2 (dgQ s d f t ttl b).dat 2 = t := by
    show n2 (bldU s d ⟨f, t, false, b⟩) 2 = t
    rw [bldU, hdU, List.append_assoc, List.append_assoc, List.append_assoc]; exact n2_be2 (a := be2 f) h.t0 h.t1 rfl
  rw [poV, hq.pp, hq.pn, hq.pn]
  show Value.agg (poA 17 (n2 (dgQ s d f t ttl b).dat 0) (n2 (dgQ s d f t ttl b).dat 2)) = _
  rw [e0, e2]; rfl
theorem ok_a : DgOk 167772161 3221225985 5 6 9 [] := ⟨by decide, by decide, by decide, by decide, by decide, by decide, by decide, by decide, by decide, by decide, by decide⟩
theorem ok_b : DgOk 3325256705 3221225985 7 6 9 [] := ⟨by decide, by decide, by decide, by decide, by decide, by decide, by decide, by decide, by decide, by decide, by decide⟩
set_option maxRecDepth 100000 in
set_option maxHeartbeats 8000000 in
theorem awake26 (w : World) : Calls Try.prog 22 #[] w fun e w' => e = .returned (.bool true) ∧ Below w.heap.size w w' := by
  have PD := plain_dgQ 167772161 3221225985 5 6 9 [] none 0 w w.heap.size (Arg.nil _ _) (Nat.le_refl _) (by simp) (dg_uchk ok_a) (dg_chk ok_a)
  have hfr := dg_fr_true ok_a (a := 3325256705) (n := 7) (by decide) (by decide)
  have hfe := dg_fre ok_a (a := 3325256705) (n := 7) (by decide) (by decide)
  obtain ⟨p1, p2, p3⟩ := dg_ports ok_b
  have l1 := bld4_len (dgQ 167772161 3221225985 5 6 9 [])
  have l2 := bld4_len (dgQ 3325256705 3221225985 7 6 9 [])
  rw [dg_len] at l1 l2
  obtain ⟨B0, hB0⟩ : ∃ l, l = bld4 (dgQ 167772161 3221225985 5 6 9 []) := ⟨_, rfl⟩
  obtain ⟨C0, hC0⟩ : ∃ l, l = bld4 (dgQ 3325256705 3221225985 7 6 9 []) := ⟨_, rfl⟩
  obtain ⟨q, hq⟩ : ∃ l, l = dgQ 3325256705 3221225985 7 6 9 [] := ⟨_, rfl⟩
  rw [← hB0] at PD hfr hfe l1
  rw [← hC0] at hfr p1 p2 p3 l2
  rw [← hq] at p2
  have hqs : q.src = 3325256705 := by rw [hq]; rfl
  have l1' : B0.length = 28 := l1
  have l2' : C0.length = 28 := l2
  have PD := Lib.hid PD
  have HFR := Lib.hid hfr
  have HFE := Lib.hid hfe
  have P1 := Lib.hid p1
  have P2 := Lib.hid p2
  have P3 := Lib.hid p3
  have L1 := Lib.hid l1'
  have L2 := Lib.hid l2'
  have HQS := Lib.hid hqs
  clear hfr hfe p1 p2 p3 l1 l2 l1' l2' hB0 hC0 hq hqs
  go_enter Try.func22, Try.ntmps22
  go_upto_region 4 with (first
    | (go_at_call 35; refine PD.out.mono ?_; rintro e w1 ⟨Pa, pa, rfl, m1⟩; obtain ⟨_, _, e1, g1, _, x1⟩ := made_shape m1; cases e1)
    | (go_at_call 26; refine (cqfrom B0 Pa pa w1.heap.size 3325256705 7 w1 g1 (Nat.le_refl _) (by rw [L1.out]; omega)).mono ?_; rintro e w2 ⟨Pb, pb, rfl, m2⟩; rw [HFR.out] at m2; rw [HFR.out, HFE.out]; obtain ⟨_, _, e2, g2, _, x2⟩ := made_shape m2; cases e2)
    | (go_at_call 24; refine (cqports C0 Pb pb w2.heap.size w2 g2 (Nat.le_refl _) (by rw [L2.out]; omega)).mono ?_; rintro e w3 ⟨P, p, P', p', rfl, mo, md⟩; rw [P2.out] at mo; rw [P1.out, P2.out, P3.out, pqv_eq])
    | ((with_reducible show wpList _ _ _ (Oper.mk _ (Op.store 48 _ _) _ _ _ _ :: _) _ _); refine v4_store (g := w3.heap.size) (cs := v4a q P p P' p') rfl rfl (two_firstQ w3 _ _) rfl rfl (v4a_one _ _ _ _ _) ?_)
    | ((with_reducible show wpList _ _ _ (Oper.mk _ (Op.store 50 _ _) _ _ _ _ :: _) _ _); refine pq_store (g := w3.heap.size + 1) (cs := pqa ⟨17, 7, 6⟩) rfl rfl ((setRow_other _ _ _ _ (by omega)).trans (two_heap w3 _ _)) rfl rfl (pq_one _) ?_))
  obtain ⟨x4, g4, g5⟩ := two_boxes2 w3 #[.int .i64 0, .int .i64 0, .int .i64 0, .int .i64 0, .int .i64 0, .int .i64 0, .int .i64 0, .bool false, .bool false, .slice none 0 0, .slice none 0 0] #[.int .i64 0, .int .i64 0, .int .i64 0] (v4a q P p P' p') (pqa ⟨17, 7, 6⟩) 48 50
  generalize (((w3.alloc (.cells #[.int .i64 0, .int .i64 0, .int .i64 0, .int .i64 0, .int .i64 0, .int .i64 0, .int .i64 0, .bool false, .bool false, .slice none 0 0, .slice none 0 0] 48)).alloc (.cells #[.int .i64 0, .int .i64 0, .int .i64 0] 50)).setRow w3.heap.size (v4a q P p P' p')).setRow (w3.heap.size + 1) (pqa ⟨17, 7, 6⟩) = V at *
  have k5 := (At4.ofh g4).src
  rw [HQS.out] at k5
  have at5 := Atpq.of_heap g5
  have x3 := mo.below
  have hb := x1.trans ((x2.trans ((x3.trans (x4.mono x3.size)).mono x2.size)).mono x1.size)
  have hl : B0.length = C0.length := by rw [L1.out, L2.out]
  have dl : ((C0.length : Int) == (B0.length : Int)) = true := by rw [hl]; simp
  clear hl
  go_wp2_with (first
    | ((with_reducible show wpList _ _ _ (Oper.mk _ (Op.load 50 _) _ _ _ _ :: _) _ _); refine wpList_valw (by rfl) (run_load_pq rfl rfl at5 rfl) ?_)
    | ((with_reducible show wpList _ _ _ (Oper.mk (some 33) _ _ _ _ _ :: _) _ _); refine wpList_valw (by rfl) (run_eqlP ⟨17, 7, 6⟩ ⟨17, 7, 6⟩ _ rfl rfl rfl) ?_; rw [sameP_self]))
  go_ret
  exact ⟨rfl, hb⟩
end Go.Proofs.Ytkgbjohadkbjaaa
