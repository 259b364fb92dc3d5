/-
  Contracts and lemmas on which the proofs of this seat stand (several texts in one). Conditions are each theorem's own.
-/
import Derived.Test.YtkgbjohadkbjaaaQa11
import Derived.Test.YtkgbjohadkbjaaaQa5
import Derived.Test.YtkgbjohadkbjaaaQa9

/-
  A packet of a datagram that is quoted, from another endpoint: it is the packet of that datagram from there. No program. Conditions are each theorem's own.
-/
namespace Go.Proofs.Ytkgbjohadkbjaaa
open Go.RowKit
def dgQ (s d f t ttl : Int) (b : List UInt8) : P4 := ⟨0, 0, 0, ttl, 17, s, d, false, false, [], bldU s d ⟨f, t, false, b⟩⟩
/-- What may be. -/
structure DgOk (s d f t ttl : Int) (b : List UInt8) : Prop where
  s0 : 0 ≤ s
  s1 : s < 4294967296
  d0 : 0 ≤ d
  d1 : d < 4294967296
  f0 : 0 ≤ f
  f1 : f ≤ 65535
  t0 : 0 ≤ t
  t1 : t ≤ 65535
  l0 : 0 ≤ ttl
  l1 : ttl ≤ 255
  b1 : b.length ≤ 60000
section
variable {s d f t ttl : Int} {b : List UInt8}
theorem dg_len (s d f t ttl : Int) (b : List UInt8) : (dgQ s d f t ttl b).dat.length = 8 + b.length := bldU_len _ _ _
theorem dg_chk (h : DgOk s d f t ttl b) : chk4 (dgQ s d f t ttl b) = 0 := by
  have hl := dg_len s d f t ttl b
  have hb := h.b1
  have h0 : arg4 (dgQ s d f t ttl b) := by
    exact ⟨Int.le_refl _, (by decide : (0 : Int) ≤ 255), h.l0, h.l1, (by decide : (0 : Int) ≤ 17), (by decide : (17 : Int) ≤ 255), Int.le_refl _, (by decide : (0 : Int) ≤ 65535), h.s0, h.s1, h.d0, h.d1, Int.le_refl _, (by decide : (0 : Int) ≤ 65528), (by decide : (0 : Int) % 8 = 0), (by decide : 0 ≤ 40), (by decide : 0 % 4 = 0), fun h => by cases h⟩
  rw [chk4, if_pos h0, if_neg]
  rintro (h1 | h1)
  · have : size4 (dgQ s d f t ttl b) = 20 + ((dgQ s d f t ttl b).dat.length : Int) := rfl
    rw [this, hl] at h1
    omega
  · have : (dgQ s d f t ttl b).off = 0 := rfl
    rw [this, hl] at h1
    omega
theorem dg_uchk (h : DgOk s d f t ttl b) : chkU ⟨f, t, false, b⟩ = 0 := by
  have hb := h.b1
  rw [chkU, if_pos ⟨h.f0, h.f1, h.t0, h.t1⟩, if_neg (by show ¬ b.length > 65527; omega)]
theorem quoted_of {b : List UInt8} (h : prsE b false = 0) : prsE b true = 0 ∧ prsV b true = prsV b false := by
  have hb : bad4 b false = 0 := by
    unfold prsE at h
    split at h
    · assumption
    · exact h
  have hb2 : bad4 b true = 0 := by
    unfold bad4 at hb ⊢
    split at hb
    · cases hb
    · rename_i g0
      rw [if_neg g0]
      split at hb
      · cases hb
      · rename_i g1
        rw [if_neg g1]
        split at hb
        · cases hb
        · rename_i g2
          rw [if_neg (by rintro (g | ⟨g, _⟩); exact g2 (.inl g); cases g)]
          split at hb
          · cases hb
          · rename_i g3
            rw [if_neg g3, if_neg (by rintro ⟨g, _⟩; cases g)]
  have he : prsE b true = 0 := by
    unfold prsE
    rw [if_pos hb2, if_neg (by rintro ⟨g, _⟩; cases g)]
  exact ⟨he, by rw [prsV, prsV, if_pos he, if_pos h]⟩
theorem ck_pos (s d : Int) (u : PU) (hu : u.nosum = false) : 0 < ckU s d u := by
  have := smU_bd s d u
  rw [ckU, hu]
  simp only [Bool.false_eq_true, if_false]
  split <;> omega
/-- Its bytes, part by part. -/
theorem dg_parts (s d f t ttl : Int) (b : List UInt8) : bld4 (dgQ s d f t ttl b) = hda (dgQ s d f t ttl b) (size4 (dgQ s d f t ttl b)) ++ (be2 (sum4 (dgQ s d f t ttl b)) ++ (be4 s ++ (be4 d ++ (be2 f ++ (be2 t ++ (be2 (8 + (b.length : Int)) ++ (be2 (ckU s d ⟨f, t, false, b⟩) ++ b))))))) := by
  have e1 : hdb (dgQ s d f t ttl b) = be4 s ++ be4 d := by simp [hdb, dgQ, be4]
  have e2 : (dgQ s d f t ttl b).dat = be2 f ++ (be2 t ++ (be2 (8 + (b.length : Int)) ++ (be2 (ckU s d ⟨f, t, false, b⟩) ++ b))) := by
    show bldU s d ⟨f, t, false, b⟩ = _
    rw [bldU, hdU]; simp [List.append_assoc]
  rw [bld4, hd4, e1, e2]
  simp only [List.append_assoc]
theorem dg_hda (s d f t s' d' f' t' ttl : Int) (b : List UInt8) : hda (dgQ s' d' f' t' ttl b) (size4 (dgQ s' d' f' t' ttl b)) = hda (dgQ s d f t ttl b) (size4 (dgQ s d f t ttl b)) := by
  have e : size4 (dgQ s' d' f' t' ttl b) = size4 (dgQ s d f t ttl b) := by
    have h1 : size4 (dgQ s' d' f' t' ttl b) = 20 + ((dgQ s' d' f' t' ttl b).dat.length : Int) := rfl
    have h2 : size4 (dgQ s d f t ttl b) = 20 + ((dgQ s d f t ttl b).dat.length : Int) := rfl
    rw [h1, h2, dg_len, dg_len]
  rw [e]; rfl
end
theorem hda_len (q : P4) (n : Int) : (hda q n).length = 10 := rfl
theorem splice_at {p x z y : List UInt8} {k : Nat} (hp : p.length = k) (hx : x.length = y.length) : splice (p ++ (x ++ z)) k y = p ++ (y ++ z) := by
  rw [splice_mid p (x ++ z) y k hp, ← hx, List.drop_left]
  simp
theorem mid_at {p x z : List UInt8} {k m : Nat} (hp : p.length = k) (hx : x.length = m) : ((p ++ (x ++ z)).drop k).take m = x := by
  rw [List.drop_left' hp, List.take_left' hx]
/-- Sums that change. -/
theorem fold_same {P wo wn : Int} {m : Int} (h1 : 0 < P) (h2 : 0 < P - wo + wn) (h4 : wo ≤ 65535 * m) (h5 : 0 ≤ wn) : fold (fold P + (65535 * m - wo) + wn) = fold (P - wo + wn) := by
  obtain ⟨q1, e1, g1, u1⟩ := fold_spec (n := P) (by omega)
  have g1' := g1 h1
  obtain ⟨q2, e2, g2, u2⟩ := fold_spec (n := fold P + (65535 * m - wo) + wn) (by omega)
  have g2' := g2 (by omega)
  obtain ⟨q3, e3, g3, u3⟩ := fold_spec (n := P - wo + wn) (by omega)
  have g3' := g3 h2
  generalize fold (fold P + (65535 * m - wo) + wn) = X at *
  generalize fold (P - wo + wn) = Y at *
  generalize fold P = Z at *
  omega
theorem be4_wall_bd (n : Int) : 0 ≤ wall (be4 n) ∧ wall (be4 n) ≤ 131070 := by
  have h := wsum_bd (be4 n) (prs (be4 n).length)
  rw [show prs (be4 n).length = 2 by rw [be4_len]; rfl] at h
  rw [wall, show prs (be4 n).length = 2 by rw [be4_len]; rfl]
  omega
theorem be2_wall_bd (n : Int) : 0 ≤ wall (be2 n) ∧ wall (be2 n) ≤ 65535 := by
  have h := wsum_bd (be2 n) (prs (be2 n).length)
  rw [show prs (be2 n).length = 1 by rw [be2_len]; rfl] at h
  rw [wall, show prs (be2 n).length = 1 by rw [be2_len]; rfl]
  omega
theorem wall_44 (x y : Int) : wall (be4 x ++ be4 y) = wall (be4 x) + wall (be4 y) := wall_append (m := 2) (be4_len x)
theorem wall_42 (x y : Int) : wall (be4 x ++ be2 y) = wall (be4 x) + wall (be2 y) := wall_append (m := 2) (be4_len x)
section
variable (s d f t ttl : Int) (b : List UInt8)
/-- The sum of a packet's head, of its parts. -/
theorem dg_psum : psum [hd4 (dgQ s d f t ttl b) (size4 (dgQ s d f t ttl b)) 0] = wall (hda (dgQ s d f t ttl b) (size4 (dgQ s d f t ttl b))) + wall (be4 s) + wall (be4 d) := by
  have e1 : hdb (dgQ s d f t ttl b) = be4 s ++ be4 d := by simp [hdb, dgQ, be4]
  have : psum [hd4 (dgQ s d f t ttl b) (size4 (dgQ s d f t ttl b)) 0] = wall (hd4 (dgQ s d f t ttl b) (size4 (dgQ s d f t ttl b)) 0) := by simp [psum]
  rw [this, hd4, wall_append (m := 6) (by simp [hda, be2]), wall_append (m := 5) rfl, be2_wall (by decide) (by decide), e1, wall_44]
  omega
theorem dg_hda_pos : 0 < wall (hda (dgQ s d f t ttl b) (size4 (dgQ s d f t ttl b))) := by
  have e : hda (dgQ s d f t ttl b) (size4 (dgQ s d f t ttl b)) = [u8 (64 + head4 (dgQ s d f t ttl b) / 4), u8 (dgQ s d f t ttl b).tos] ++ (hda (dgQ s d f t ttl b) (size4 (dgQ s d f t ttl b))).drop 2 := rfl
  rw [e, wall_append (m := 1) rfl, wall_pair, u8_val, u8_val]
  have h1 : head4 (dgQ s d f t ttl b) = 20 := rfl
  have h2 : (dgQ s d f t ttl b).tos = 0 := rfl
  rw [h1, h2]
  have := (wall_bd ((hda (dgQ s d f t ttl b) (size4 (dgQ s d f t ttl b))).drop 2)).1
  omega
theorem dg_sum_from (a n : Int) : chg (sum4 (dgQ s d f t ttl b)) (be4 s) (be4 a) = sum4 (dgQ a d n t ttl b) := by
  have h0 := sum4_bd (dgQ s d f t ttl b)
  have hp := dg_hda_pos s d f t ttl b
  have h1 := be4_wall_bd s
  have h2 := be4_wall_bd a
  have h3 := be4_wall_bd d
  have e := dg_psum s d f t ttl b
  have e' := dg_psum a d n t ttl b
  rw [dg_hda s d f t a d n t ttl b] at e'
  rw [chg, if_pos h0, show prs (be4 s).length = 2 by rw [be4_len]; rfl]
  have q1 : sum4 (dgQ s d f t ttl b) = 65535 - fold (psum [hd4 (dgQ s d f t ttl b) (size4 (dgQ s d f t ttl b)) 0]) := rfl
  have q2 : sum4 (dgQ a d n t ttl b) = 65535 - fold (psum [hd4 (dgQ a d n t ttl b) (size4 (dgQ a d n t ttl b)) 0]) := rfl
  rw [q2, e', q1, e]
  have hk := fold_same (P := wall (hda (dgQ s d f t ttl b) (size4 (dgQ s d f t ttl b))) + wall (be4 s) + wall (be4 d)) (wo := wall (be4 s)) (wn := wall (be4 a)) (m := 2) (by omega) (by omega) (by omega) h2.1
  rw [show wall (hda (dgQ s d f t ttl b) (size4 (dgQ s d f t ttl b))) + wall (be4 s) + wall (be4 d) - wall (be4 s) + wall (be4 a) = wall (hda (dgQ s d f t ttl b) (size4 (dgQ s d f t ttl b))) + wall (be4 a) + wall (be4 d) by omega] at hk
  rw [← hk]
  congr 2
  omega
theorem dg_sum_to (a n : Int) : chg (sum4 (dgQ s d f t ttl b)) (be4 d) (be4 a) = sum4 (dgQ s a f n ttl b) := by
  have h0 := sum4_bd (dgQ s d f t ttl b)
  have hp := dg_hda_pos s d f t ttl b
  have h1 := be4_wall_bd d
  have h2 := be4_wall_bd a
  have h3 := be4_wall_bd s
  have e := dg_psum s d f t ttl b
  have e' := dg_psum s a f n ttl b
  rw [dg_hda s d f t s a f n ttl b] at e'
  rw [chg, if_pos h0, show prs (be4 d).length = 2 by rw [be4_len]; rfl]
  have q1 : sum4 (dgQ s d f t ttl b) = 65535 - fold (psum [hd4 (dgQ s d f t ttl b) (size4 (dgQ s d f t ttl b)) 0]) := rfl
  have q2 : sum4 (dgQ s a f n ttl b) = 65535 - fold (psum [hd4 (dgQ s a f n ttl b) (size4 (dgQ s a f n ttl b)) 0]) := rfl
  rw [q2, e', q1, e]
  have hk := fold_same (P := wall (hda (dgQ s d f t ttl b) (size4 (dgQ s d f t ttl b))) + wall (be4 s) + wall (be4 d)) (wo := wall (be4 d)) (wn := wall (be4 a)) (m := 2) (by omega) (by omega) (by omega) h2.1
  rw [show wall (hda (dgQ s d f t ttl b) (size4 (dgQ s d f t ttl b))) + wall (be4 s) + wall (be4 d) - wall (be4 d) + wall (be4 a) = wall (hda (dgQ s d f t ttl b) (size4 (dgQ s d f t ttl b))) + wall (be4 s) + wall (be4 a) by omega] at hk
  rw [← hk]
  congr 2
  omega
/-- The sum of a datagram, of its parts. -/
def restU (L : Int) (b : List UInt8) : Int := wall ([u8 0] ++ [u8 17] ++ be2 L) + wall (be2 L) + wall b
theorem u_psum : psum [psd s d 17 (8 + (b.length : Int)), hdU ⟨f, t, false, b⟩ 0, b] = wall (be4 s) + wall (be4 d) + wall (be2 f) + wall (be2 t) + restU (8 + (b.length : Int)) b := by
  have e1 : psd s d 17 (8 + (b.length : Int)) = be4 s ++ (be4 d ++ ([u8 0] ++ [u8 17] ++ be2 (8 + (b.length : Int)))) := by simp [psd, List.append_assoc]
  have e2 : hdU ⟨f, t, false, b⟩ 0 = be2 f ++ (be2 t ++ (be2 (8 + (b.length : Int)) ++ be2 0)) := by simp [hdU, List.append_assoc]
  simp only [psum_cons]
  rw [e1, e2, wall_append (m := 2) (be4_len s), wall_append (m := 2) (be4_len d), wall_append (m := 1) (be2_len f), wall_append (m := 1) (be2_len t), wall_append (m := 1) (be2_len _), be2_wall (n := 0) (by decide) (by decide), restU]
  simp [psum]
  omega
theorem rest_pos (L : Int) : 0 < restU L b := by
  have e : [u8 0] ++ [u8 17] ++ be2 L = [u8 0, u8 17] ++ be2 L := rfl
  have h1 := (wall_bd b).1
  have h2 := (be2_wall_bd L).1
  rw [restU, e, wall_append (m := 1) rfl, wall_pair, u8_val, u8_val]
  omega
/-- A sum that changes, of 65535 in the place of 0. -/
theorem ck_same {P wo wn m : Int} (h1 : 0 < P) (h2 : 0 < P - wo + wn) (h4 : wo ≤ 65535 * m) (h5 : 0 ≤ wn) (S S' : Int) (hS : S = 65535 - fold P) (hS' : S' = 65535 - fold (P - wo + wn)) :
    (if 65535 - fold (65535 - (if S = 0 then 65535 else S) + (65535 * m - wo) + wn) = 0 then 65535 else 65535 - fold (65535 - (if S = 0 then 65535 else S) + (65535 * m - wo) + wn)) = (if S' = 0 then 65535 else S') := by
  obtain ⟨q1, e1, g1, u1⟩ := fold_spec (n := P) (by omega)
  have g1' := g1 h1
  obtain ⟨q3, e3, g3, u3⟩ := fold_spec (n := P - wo + wn) (by omega)
  have g3' := g3 h2
  obtain ⟨Z, hZ⟩ : ∃ z, z = 65535 - (if S = 0 then 65535 else S) := ⟨_, rfl⟩
  have hZb : (Z = fold P ∧ fold P < 65535) ∨ (Z = 0 ∧ fold P = 65535) := by
    by_cases h : S = 0
    · rw [if_pos h] at hZ; right; omega
    · rw [if_neg h] at hZ; left; omega
  rw [← hZ]
  obtain ⟨q2, e2, g2, u2⟩ := fold_spec (n := Z + (65535 * m - wo) + wn) (by omega)
  have f0 := (fold_bd (Z + (65535 * m - wo) + wn)).1
  have g2' : Z + (65535 * m - wo) + wn = 0 ∨ 1 ≤ fold (Z + (65535 * m - wo) + wn) := by
    rcases Int.lt_or_le 0 (Z + (65535 * m - wo) + wn) with h | h
    · exact .inr (g2 h)
    · exact .inl (by omega)
  have g2z : Z + (65535 * m - wo) + wn = 0 → fold (Z + (65535 * m - wo) + wn) = 0 := fun h => by rw [h]; rfl
  generalize fold (Z + (65535 * m - wo) + wn) = X at *
  generalize fold (P - wo + wn) = Y at *
  generalize fold P = W at *
  by_cases hX : 65535 - X = 0
  · rw [if_pos hX]
    by_cases hY : S' = 0
    · rw [if_pos hY]
    · rw [if_neg hY]; omega
  · rw [if_neg hX]
    by_cases hY : S' = 0
    · rw [if_pos hY]; omega
    · rw [if_neg hY]; omega
end
end Go.Proofs.Ytkgbjohadkbjaaa

/-
  Contracts of layer 26's From and To of the code; of the document's answers that they are held against. Conditions are each theorem's own.
-/
namespace Go.Proofs.Ytkgbjohadkbjaaa
open Go.RowKit
set_option maxRecDepth 100000 in
set_option maxHeartbeats 8000000 in
theorem cqfrom (b : List UInt8) (A : Option Addr) (c B : Nat) (a n : Int) (w : World) (hA : Arg w B A c b) (hB : B ≤ w.heap.size) (hl : b.length ≤ 1000000) :
    Calls Try.prog 26 #[.slice A b.length c, .int .i64 a, .int .i64 n] w fun e w' => ∃ P p, e = .returned (.tuple #[.slice P (frV b true a n).length p, .int .i64 (frE b a n)]) ∧ Made w w' (.slice P (frV b true a n).length p) (frV b true a n) := by
  have CW := Lib.hid (cqwith b A c B true a n w hA hB hl)
  obtain ⟨FE, hFE⟩ : ∃ x, x = frE b a n := ⟨_, rfl⟩
  obtain ⟨FV, hFV⟩ : ∃ x, x = frV b true a n := ⟨_, rfl⟩
  rw [← hFE, ← hFV] at CW
  rw [← hFE, ← hFV]
  clear hFE hFV
  go_enter Try.func26, Try.ntmps26
  go_wp2_with (go_at_call 58; refine CW.out.mono ?_; rintro e w1 ⟨P, p, rfl, m1⟩)
  go_ret2
  exact ⟨P, p, rfl, m1⟩
set_option maxRecDepth 100000 in
set_option maxHeartbeats 8000000 in
theorem cqto (b : List UInt8) (A : Option Addr) (c B : Nat) (a n : Int) (w : World) (hA : Arg w B A c b) (hB : B ≤ w.heap.size) (hl : b.length ≤ 1000000) :
    Calls Try.prog 28 #[.slice A b.length c, .int .i64 a, .int .i64 n] w fun e w' => ∃ P p, e = .returned (.tuple #[.slice P (frV b false a n).length p, .int .i64 (frE b a n)]) ∧ Made w w' (.slice P (frV b false a n).length p) (frV b false a n) := by
  have CW := Lib.hid (cqwith b A c B false a n w hA hB hl)
  obtain ⟨FE, hFE⟩ : ∃ x, x = frE b a n := ⟨_, rfl⟩
  obtain ⟨FV, hFV⟩ : ∃ x, x = frV b false a n := ⟨_, rfl⟩
  rw [← hFE, ← hFV] at CW
  rw [← hFE, ← hFV]
  clear hFE hFV
  go_enter Try.func28, Try.ntmps28
  go_wp2_with (go_at_call 58; refine CW.out.mono ?_; rintro e w1 ⟨P, p, rfl, m1⟩)
  go_ret2
  exact ⟨P, p, rfl, m1⟩
set_option maxRecDepth 100000 in
set_option maxHeartbeats 8000000 in
theorem rqsumAt (q : P4) (A : Option Addr) (c : Nat) (A' : Option Addr) (c' B : Nat) (w : World) (hD : Arg w B A' c' q.dat) (hB : B ≤ w.heap.size) (hl : q.dat.length ≤ 1000000) :
    Calls Try.prog 87 #[v4v q A c A' c'] w fun e w' => e = .returned (.int .i64 (if sisQ q = true then (satQ q : Int) else -1)) ∧ Below w.heap.size w w' := by
  have hW := (Below.refl w.heap.size w).alloc (Nat.le_refl _) (.cells (v4a q A c A' c') 48)
  have at0 := At4.new (q := q) (A := A) (c := c) (A' := A') (c' := c') w
  obtain ⟨R, hR⟩ : ∃ x, x = (if sisQ q = true then (satQ q : Int) else -1) := ⟨_, rfl⟩
  rw [← hR, v4eQ]
  have HR := Lib.hid hR
  clear hR
  go_enter Try.func87, Try.ntmps87
  go_upto_region 1 with fail
  generalize w.alloc (.cells (v4a q A c A' c') 48) = W at *
  have kpr := at0.proto
  have kdt := at0.dat
  have hD1 := hD.below (hW.mono hB)
  clear at0 hD
  obtain ⟨sat, hsat⟩ : ∃ s, s = satQ q := ⟨_, rfl⟩
  have hs16 : sat ≤ 16 := by rw [hsat]; unfold satQ; split; omega; split <;> omega
  have HSIS := Lib.hid (show sisQ q = (decide (sat + 2 ≤ q.dat.length) && !(decide (q.proto = 17) && decide (n2 q.dat 6 = 0))) by rw [sisQ, hsat])
  have HSAT := Lib.hid hsat
  have hsx : (q.proto = 6 ∧ sat = 16) ∨ (q.proto ≠ 6 ∧ q.proto = 1 ∧ sat = 2) ∨ (q.proto ≠ 6 ∧ q.proto ≠ 1 ∧ sat = 6) := by
    rw [hsat]; unfold satQ
    by_cases h6 : q.proto = 6
    · exact .inl ⟨h6, by rw [if_pos h6]⟩
    · by_cases h1 : q.proto = 1
      · exact .inr (.inl ⟨h6, h1, by rw [if_neg h6, if_pos h1]⟩)
      · exact .inr (.inr ⟨h6, h1, by rw [if_neg h6, if_neg h1]⟩)
  clear hsat
  rcases hsx with ⟨h6, hs⟩ | ⟨h6, h1, hs⟩ | ⟨h6, h1, hs⟩
  · have d6 : (q.proto == 6) = true := by simpa using h6
    have d17 : (q.proto == 17) = false := by simp [h6]
    subst hs
    have HS2 := Lib.hid (show sisQ q = decide (16 + 2 ≤ q.dat.length) by rw [HSIS.out, h6]; simp)
    clear h6
    by_cases hd : q.dat.length < 16 + 2
    · have dS : decide ((q.dat.length : Int) < 18) = true := by simp; omega
      have HF := Lib.hid (show R = -1 by rw [HR.out, if_neg (by rw [HS2.out]; simp; omega)])
      go_wp2
      go_ret
      exact ⟨by rw [HF.out]; rfl, hW⟩
    · have dS : decide ((q.dat.length : Int) < 18) = false := by simp; omega
      have HF := Lib.hid (show R = 16 by rw [HR.out, if_pos (by rw [HS2.out]; simp; omega), ← HSAT.out]; rfl)
      go_wp2
      go_ret
      exact ⟨by rw [HF.out]; rfl, hW⟩
  · have d6 : (q.proto == 6) = false := by simpa using h6
    have d1 : (q.proto == 1) = true := by simpa using h1
    have d17 : (q.proto == 17) = false := by simp [h1]
    subst hs
    have HS2 := Lib.hid (show sisQ q = decide (2 + 2 ≤ q.dat.length) by rw [HSIS.out, h1]; simp)
    clear h6 h1
    by_cases hd : q.dat.length < 2 + 2
    · have dS : decide ((q.dat.length : Int) < 4) = true := by simp; omega
      have HF := Lib.hid (show R = -1 by rw [HR.out, if_neg (by rw [HS2.out]; simp; omega)])
      go_wp2
      go_ret
      exact ⟨by rw [HF.out]; rfl, hW⟩
    · have dS : decide ((q.dat.length : Int) < 4) = false := by simp; omega
      have HF := Lib.hid (show R = 2 by rw [HR.out, if_pos (by rw [HS2.out]; simp; omega), ← HSAT.out]; rfl)
      go_wp2
      go_ret
      exact ⟨by rw [HF.out]; rfl, hW⟩
  · have d6 : (q.proto == 6) = false := by simpa using h6
    have d1 : (q.proto == 1) = false := by simpa using h1
    subst hs
    clear h6 h1
    by_cases hd : q.dat.length < 6 + 2
    · have dS : decide ((q.dat.length : Int) < 8) = true := by simp; omega
      have HF := Lib.hid (show R = -1 by rw [HR.out, if_neg (by rw [HSIS.out]; simp; intro h; omega)])
      go_wp2
      go_ret
      exact ⟨by rw [HF.out]; rfl, hW⟩
    · have dS : decide ((q.dat.length : Int) < 8) = false := by simp; omega
      by_cases h17 : q.proto = 17
      · have d17 : (q.proto == 17) = true := by simpa using h17
        obtain ⟨N0, hN0⟩ : ∃ x, x = n2 q.dat 6 := ⟨_, rfl⟩
        have CN : Hid (Calls Try.prog 56 #[.slice A' q.dat.length c', .int .i64 6, .int .i64 2] W fun e U => e = .returned (.int .i64 N0) ∧ W = U) := Lib.hid (by rw [hN0]; exact rqnum q.dat A' c' B 6 W hD1 hl (by omega))
        have HS2 := Lib.hid (show sisQ q = !decide (N0 = 0) by rw [HSIS.out, h17, ← hN0]; simp; omega)
        clear hN0 h17
        by_cases hz : N0 = 0
        · have dz : (N0 == 0) = true := by simpa using hz
          have HF := Lib.hid (show R = -1 by rw [HR.out, if_neg (by rw [HS2.out]; simp [hz])])
          clear hz
          go_wp2_with (go_at_call 56; refine CN.out.mono ?_; rintro e U ⟨rfl, rfl⟩)
          go_ret
          exact ⟨by rw [HF.out]; rfl, hW⟩
        · have dz : (N0 == 0) = false := by simpa using hz
          have HF := Lib.hid (show R = 6 by rw [HR.out, if_pos (by rw [HS2.out]; simp [hz]), ← HSAT.out]; rfl)
          clear hz
          go_wp2_with (go_at_call 56; refine CN.out.mono ?_; rintro e U ⟨rfl, rfl⟩)
          go_ret
          exact ⟨by rw [HF.out]; rfl, hW⟩
      · have d17 : (q.proto == 17) = false := by simpa using h17
        have HF := Lib.hid (show R = 6 by rw [HR.out, if_pos (by rw [HSIS.out]; simp [h17]; omega), ← HSAT.out]; rfl)
        clear h17
        go_wp2
        go_ret
        exact ⟨by rw [HF.out]; rfl, hW⟩
end Go.Proofs.Ytkgbjohadkbjaaa

/-
  Contracts of the document's From and To of layer 26. Conditions are each theorem's own.
-/
namespace Go.Proofs.Ytkgbjohadkbjaaa
open Go.RowKit
theorem own_keepC {w w' : World} {E n s e : Nat} {v v' : Value} {xs : List Value} (h : w.ownsRow E e s v n xs) (hs : ∀ k, v'.ownBlock = some k → k < E) (hg : w.grownBy w' v'.ownBlock) : w'.ownsRow E e s v n xs := by
  refine h.kept hg ?_
  rcases ho : v.ownBlock with _ | k
  · exact .inl rfl
  · refine .inr fun e1 => ?_
    have h1 := (h.lt k ho).1
    have h2 := hs k e1.symm
    omega
theorem setB_ok {b X : List UInt8} {at_ k : Nat} {n : Int} (hX : putB [] n (k : Int) = X) (hXl : X.length = k) (hk : 0 < k) (h : at_ + k ≤ b.length) : setB b at_ n (k : Int) = splice b at_ X := by
  have hf : fitsB n (k : Int) = true := by
    unfold putB at hX
    split at hX
    · assumption
    · rw [← hX] at hXl; simp at hXl; omega
  rw [putB, if_pos hf, List.nil_append] at hX
  rw [setB, if_pos ⟨hf, by omega, by omega⟩, Int.toNat_natCast, hX]
set_option maxRecDepth 100000 in
set_option maxHeartbeats 8000000 in
theorem rqchanged (b : List UInt8) (A : Option Addr) (c B : Nat) (q : P4) (H : Nat) (fr : Bool) (a n : Int) (w : World) (hA : Arg w B A c b) (hB : B ≤ w.heap.size) (hl : b.length ≤ 1000000) (hq : Quo b q H) (ha : 0 ≤ a ∧ a < 4294967296) (hn : 0 ≤ n ∧ n ≤ 65535) :
    Calls Try.prog 60 #[.slice A b.length c, .int .i64 ((whQ fr : Nat) : Int), .int .i64 ((ppQ q.proto fr : Nat) : Int), .int .i64 a, .int .i64 n] w fun e w' => ∃ P p, e = .returned (.slice P (putQ b q H fr a n).length p) ∧ Made w w' (.slice P (putQ b q H fr a n).length p) (putQ b q H fr a n) := by
  have HQ0 := Lib.hid hq.ok
  have HQV := Lib.hid hq.val
  have hqle := hq.le
  have h20 := hq.h20
  have hd8 := hq.d8
  have hHh : Hid (head4 q = (H : Int)) := Lib.hid (by have := hq.hH; unfold head4; omega)
  have hol : q.opt.length ≤ 1000000 := by have := hq.hH; omega
  have hcap := hA.cap
  have hwh := wh_le fr
  have hpp := ppQ_le q.proto fr
  obtain ⟨OA, hOA⟩ : ∃ l, l = oaQ b fr := ⟨_, rfl⟩
  obtain ⟨OP, hOP⟩ : ∃ l, l = opQ b q H fr := ⟨_, rfl⟩
  have HOA := Lib.hid (show OA.length = 4 by rw [hOA, oaQ]; simp; omega)
  have HOP := Lib.hid (show OP.length = 2 by rw [hOP, opQ]; simp; omega)
  have HPA := Lib.hid (show putB [] a 4 = be4 a from put_four (bs := []) ha.1 ha.2)
  have HPN := Lib.hid (show putB [] n 2 = be2 n from put_two (bs := []) hn.1 hn.2)
  obtain ⟨J, hJ⟩ : ∃ j, j = H + ppQ q.proto fr := ⟨_, rfl⟩
  have hJ2 : J + 2 ≤ H + 8 := by omega
  have hJ3 : H ≤ J := by omega
  have HW3 := Lib.hid (IntWalk.i64_in ((whQ fr : Nat) + 4 : Int) (by omega))
  have HW4 := Lib.hid (show IntKind.i64.wrap ((H : Int) + ((ppQ q.proto fr : Nat) : Int)) = (J : Int) by rw [IntWalk.i64_in _ (by omega), hJ]; simp)
  have HW5 := Lib.hid (IntWalk.i64_in ((J : Int) + 2) (by omega))
  have hsO := Lib.hid hOA
  have hsP := Lib.hid hOP
  have HJ := Lib.hid hJ
  have HJI := Lib.hid (show (H : Int) + ((ppQ q.proto fr : Nat) : Int) = (J : Int) by rw [hJ]; simp)
  clear hOA hOP hJ
  obtain ⟨R, hR⟩ : ∃ l, l = putQ b q H fr a n := ⟨_, rfl⟩
  rw [← hR]
  have HR := Lib.hid hR
  clear hR
  go_enter Try.func60, Try.ntmps60
  go_upto_region 2 with (first
    | (go_at_call 55; refine (r5quoted b A c w B hA hB hl).mono ?_; rintro e w1 ⟨P, p, P', p', rfl, mo, md⟩; rw [HQV.out] at mo md; rw [HQV.out, HQ0.out])
    | ((with_reducible show wpList _ _ _ (Oper.mk _ (Op.store _ _ _) _ _ _ _ :: _) _ _); refine v4_store_new (cs := v4a q P p P' p') rfl rfl rfl rfl (v4a_one _ _ _ _ _) ?_))
  have x1V : Below w1.heap.size w1 (w1.alloc (.cells (v4a q P p P' p') 48)) := (Below.refl _ _).alloc (Nat.le_refl _) _
  have at5 := At4.new (q := q) (A := P) (c := p) (A' := P') (c' := p') w1
  have hz5 : w1.heap.size < (w1.alloc (.cells (v4a q P p P' p') 48)).heap.size := by simp
  obtain ⟨_, _, ed, gd, _, xd⟩ := made_shape md
  cases ed
  have gdV := gd.below x1V
  have hb1 := xd.trans (x1V.mono xd.size)
  generalize w1.alloc (.cells (v4a q P p P' p') 48) = V at *
  clear mo md x1V xd
  go_upto_region 3 with (first
    | ((with_reducible show wpList _ _ _ (Oper.mk _ (Op.load 48 _) _ _ _ _ :: _) _ _); refine wpList_val rfl (run_load_v4 rfl rfl at5 rfl) ?_)
    | (go_at_call 83; refine (r5head q P p P' p' _ hol).mono ?_; rintro e V3 ⟨rfl, x3⟩; rw [hHh.out]))
  have hb3 := hb1.trans (x3.mono hb1.size)
  have at5 := at5.below x3 hz5
  have gd3 := gdV.below (x3.mono (Nat.le_of_lt hz5))
  have hz3 : w1.heap.size < V3.heap.size := Nat.lt_of_lt_of_le hz5 x3.size
  clear x3 gdV
  refine wp_region_held_drew (S := fun w' => Below V3.heap.size V3 w') (by kernel_rfl) (Below.refl _ V3).drew (fun hS => ?_)
  refine held_pure (i := 0) (oi := ⟨some 31, _, _, _, _, _⟩) rfl (by kernel_rfl) (by kernel_rfl) (by kernel_rfl) (fun _ _ _ h => h) (by rfl) (v := ?_) (fun w hSw => ?_) hS (fun hS => ?_)
  rotate_left
  · go_simp; try with_reducible rfl
  try go_frame
  refine held_pure (i := 1) (oi := ⟨some 32, _, _, _, _, _⟩) rfl (by kernel_rfl) (by kernel_rfl) (by kernel_rfl) (fun _ _ _ h => h) (by rfl) (v := ?_) (fun w hSw => ?_) hS (fun hS => ?_)
  rotate_left
  · go_simp; try with_reducible rfl
  try go_frame
  refine held_pure (i := 2) (oi := ⟨some 33, _, _, _, _, _⟩) rfl (by kernel_rfl) (by kernel_rfl) (by kernel_rfl) (fun _ _ _ h => h) (by rfl) (v := ?_) (fun w hSw => ?_) hS (fun hS => ?_)
  rotate_left
  · go_simp; try with_reducible rfl
  try go_frame
  refine held_pure (i := 3) (oi := ⟨some 34, _, _, _, _, _⟩) rfl (by kernel_rfl) (by kernel_rfl) (by kernel_rfl) (fun _ _ _ h => h) (by rfl) (v := .int .i64 ((whQ fr : Nat) + 4 : Int)) (fun w hSw => by go_simp; exact HW3.out) hS (fun hS => ?_)
  try go_frame
  refine held_pure (i := 4) (oi := ⟨some 35, _, _, _, _, _⟩) rfl (by kernel_rfl) (by kernel_rfl) (by kernel_rfl) (fun _ _ _ h => h) (by rfl) (fun w hSw => run_cut_lh rfl rfl rfl rfl (by omega) (by omega) (by omega) (m := OA.length) (by rw [HOA.out]; omega)) hS (fun hS => ?_)
  try go_frame
  refine held_pure (i := 5) (oi := ⟨some 36, _, _, _, _, _⟩) rfl (by kernel_rfl) (by kernel_rfl) (by kernel_rfl) (fun _ _ _ h => h) (by rfl) (v := ?_) (fun w hSw => ?_) hS (fun hS => ?_)
  rotate_left
  · go_simp; try with_reducible rfl
  try go_frame
  refine wpAnyH_ready (rs := [6]) (by kernel_rfl) (by simp) (AllReadyH.cons (o := ⟨some 37, _, _, _, _, _⟩) rfl (fun K hK => ?_) AllReadyH.nil)
  rw [if_pos (by rfl)]
  go_simp
  have zA3 := hS.size
  refine (rput_nil a 4 _).mono ?_
  rintro e y3 ⟨v3, rfl, m3⟩
  rw [HPA.out] at m3
  obtain ⟨P4, p4, rfl, g4, o4, x4⟩ := made_shape m3
  clear m3
  show K _ _
  refine hK.out _ _ (below_step hS x4) (fun hS => ?_)
  clear hK K
  try go_frame
  refine held_pure (i := 7) (oi := ⟨some 14, _, _, _, _, _⟩) rfl (by kernel_rfl) (by kernel_rfl) (by kernel_rfl) (fun _ _ _ h => h) (by rfl) (v := ?_) (fun w hSw => ?_) hS (fun hS => ?_)
  rotate_left
  · go_simp; try with_reducible rfl
  try go_frame
  refine held_pure (i := 8) (oi := ⟨some 15, _, _, _, _, _⟩) rfl (by kernel_rfl) (by kernel_rfl) (by kernel_rfl) (fun _ _ _ h => h) (by rfl) (v := ?_) (fun w hSw => ?_) hS (fun hS => ?_)
  rotate_left
  · go_simp; try with_reducible rfl
  try go_frame
  refine wpAnyH_done (by kernel_rfl) ?_ _
  have hS3 := hS
  clear hS
  go_upto_region 4 with fail
  refine wp_region_held_drew (S := fun w' => Below y3.heap.size y3 w') (by kernel_rfl) (Below.refl _ y3).drew (fun hS => ?_)
  refine held_pure (i := 0) (oi := ⟨some 38, _, _, _, _, _⟩) rfl (by kernel_rfl) (by kernel_rfl) (by kernel_rfl) (fun _ _ _ h => h) (by rfl) (v := ?_) (fun w hSw => ?_) hS (fun hS => ?_)
  rotate_left
  · go_simp; try with_reducible rfl
  try go_frame
  refine held_pure (i := 1) (oi := ⟨some 39, _, _, _, _, _⟩) rfl (by kernel_rfl) (by kernel_rfl) (by kernel_rfl) (fun _ _ _ h => h) (by rfl) (v := ?_) (fun w hSw => ?_) hS (fun hS => ?_)
  rotate_left
  · go_simp; try with_reducible rfl
  try go_frame
  refine held_pure (i := 2) (oi := ⟨some 40, _, _, _, _, _⟩) rfl (by kernel_rfl) (by kernel_rfl) (by kernel_rfl) (fun _ _ _ h => h) (by rfl) (v := ?_) (fun w hSw => ?_) hS (fun hS => ?_)
  rotate_left
  · go_simp; try with_reducible rfl
  try go_frame
  refine held_pure (i := 3) (oi := ⟨some 41, _, _, _, _, _⟩) rfl (by kernel_rfl) (by kernel_rfl) (by kernel_rfl) (fun _ _ _ h => h) (by rfl) (v := .int .i64 (J : Int)) (fun w hSw => by go_simp; exact HW4.out) hS (fun hS => ?_)
  try go_frame
  refine held_pure (i := 4) (oi := ⟨some 42, _, _, _, _, _⟩) rfl (by kernel_rfl) (by kernel_rfl) (by kernel_rfl) (fun _ _ _ h => h) (by rfl) (v := ?_) (fun w hSw => ?_) hS (fun hS => ?_)
  rotate_left
  · go_simp; try with_reducible rfl
  try go_frame
  refine held_pure (i := 5) (oi := ⟨some 43, _, _, _, _, _⟩) rfl (by kernel_rfl) (by kernel_rfl) (by kernel_rfl) (fun _ _ _ h => h) (by rfl) (v := ?_) (fun w hSw => ?_) hS (fun hS => ?_)
  rotate_left
  · go_simp; try with_reducible rfl
  try go_frame
  refine held_pure (i := 6) (oi := ⟨some 44, _, _, _, _, _⟩) rfl (by kernel_rfl) (by kernel_rfl) (by kernel_rfl) (fun _ _ _ h => h) (by rfl) (v := .int .i64 (J : Int)) (fun w hSw => by go_simp; exact HW4.out) hS (fun hS => ?_)
  try go_frame
  refine held_pure (i := 7) (oi := ⟨some 45, _, _, _, _, _⟩) rfl (by kernel_rfl) (by kernel_rfl) (by kernel_rfl) (fun _ _ _ h => h) (by rfl) (v := .int .i64 ((J : Int) + 2)) (fun w hSw => by go_simp; exact HW5.out) hS (fun hS => ?_)
  try go_frame
  refine held_pure (i := 8) (oi := ⟨some 46, _, _, _, _, _⟩) rfl (by kernel_rfl) (by kernel_rfl) (by kernel_rfl) (fun _ _ _ h => h) (by rfl) (fun w hSw => run_cut_lh rfl rfl rfl rfl (by omega) (by omega) (by omega) (m := OP.length) (by rw [HOP.out]; omega)) hS (fun hS => ?_)
  try go_frame
  refine held_pure (i := 9) (oi := ⟨some 47, _, _, _, _, _⟩) rfl (by kernel_rfl) (by kernel_rfl) (by kernel_rfl) (fun _ _ _ h => h) (by rfl) (v := ?_) (fun w hSw => ?_) hS (fun hS => ?_)
  rotate_left
  · go_simp; try with_reducible rfl
  try go_frame
  refine wpAnyH_ready (rs := [10]) (by kernel_rfl) (by simp) (AllReadyH.cons (o := ⟨some 48, _, _, _, _, _⟩) rfl (fun K hK => ?_) AllReadyH.nil)
  rw [if_pos (by rfl)]
  go_simp
  have zP3 := hS.size
  refine (rput_nil n 2 _).mono ?_
  rintro e y4 ⟨v4, rfl, m4⟩
  rw [HPN.out] at m4
  obtain ⟨P2, p2, rfl, g2, o2, x2⟩ := made_shape m4
  clear m4
  show K _ _
  refine hK.out _ _ (below_step hS x2) (fun hS => ?_)
  clear hK K
  try go_frame
  refine held_pure (i := 11) (oi := ⟨some 16, _, _, _, _, _⟩) rfl (by kernel_rfl) (by kernel_rfl) (by kernel_rfl) (fun _ _ _ h => h) (by rfl) (v := ?_) (fun w hSw => ?_) hS (fun hS => ?_)
  rotate_left
  · go_simp; try with_reducible rfl
  try go_frame
  refine held_pure (i := 12) (oi := ⟨some 17, _, _, _, _, _⟩) rfl (by kernel_rfl) (by kernel_rfl) (by kernel_rfl) (fun _ _ _ h => h) (by rfl) (v := ?_) (fun w hSw => ?_) hS (fun hS => ?_)
  rotate_left
  · go_simp; try with_reducible rfl
  try go_frame
  refine wpAnyH_done (by kernel_rfl) ?_ _
  have hS4 := hS
  clear hS
  have hb4 : Below w.heap.size w y4 := (hb3.trans (hS3.mono hb3.size)).trans (hS4.mono (Nat.le_trans hb3.size hS3.size))
  have z34 := hS3.size
  have z44 := hS4.size
  have at5 := (at5.below hS3 (by omega)).below hS4 (by omega)
  have gd4 := (gd3.below (hS3.mono (by omega))).below (hS4.mono (by omega))
  have hA4 := hA.below (hb4.mono hB)
  have o4z : ∀ k, (Value.slice P4 (be4 a).length p4).ownBlock = some k → k < y3.heap.size := fun k hk => (o4.lt k hk).2
  have o4 := own_below o4 hS4
  have g4 := g4.below hS4
  clear hS3 hS4 x2 x4 gd3
  obtain ⟨O1, hO1⟩ : ∃ l, l = splice b (whQ fr) (be4 a) := ⟨_, rfl⟩
  obtain ⟨hs, hhs⟩ : ∃ x, x = hsQ b fr a := ⟨_, rfl⟩
  have hhsb : 0 ≤ hs ∧ hs ≤ 65535 := by rw [hhs]; exact chg_bd _ _ _
  obtain ⟨O2, hO2⟩ : ∃ l, l = splice O1 10 (be2 hs) := ⟨_, rfl⟩
  obtain ⟨O3, hO3⟩ : ∃ l, l = splice O2 J (be2 n) := ⟨_, rfl⟩
  have l1 : O1.length = b.length := by rw [hO1]; exact splice_len (by rw [be4_len]; omega)
  have l2 : O2.length = b.length := by rw [hO2, splice_len (by rw [be2_len]; omega), l1]
  have l3 : O3.length = b.length := by rw [hO3, splice_len (by rw [be2_len]; omega), l2]
  have HL1 := Lib.hid l1
  have HL2 := Lib.hid l2
  have HL3 := Lib.hid l3
  have HS1 : Hid (setB b ((whQ fr : Nat) : Int) a 4 = O1) := Lib.hid (by rw [hO1]; exact setB_ok (k := 4) HPA.out (be4_len a) (by omega) (by omega))
  have HS2 : Hid (setB O1 10 hs 2 = O2) := Lib.hid (by rw [hO2]; exact setB_ok (k := 2) (at_ := 10) (put_two (bs := []) hhsb.1 hhsb.2) (be2_len hs) (by omega) (by omega))
  have HS3 : Hid (setB O2 (J : Int) n 2 = O3) := Lib.hid (by rw [hO3]; exact setB_ok (k := 2) HPN.out (be2_len n) (by omega) (by omega))
  have HBASE := Lib.hid (show baseQ b q H fr a n = O3 by rw [baseQ_alt hq, hO3, hO2, hO1, hhs, HJ.out])
  have HHS := Lib.hid (show chg (n2 b 10) OA (be4 a) = hs by rw [hhs, hsQ, hsO.out])
  clear l1 l2 l3 hO1 hO2 hO3 hhs
  have AOA : ∀ U, Below w.heap.size w U → Arg U B (cutA A c (whQ fr)) (c - whQ fr) OA := fun U h => by
    have := (hA.below (h.mono hB)).mid (whQ fr) 4 (by omega)
    rw [hsO.out]; exact this
  have AOP : ∀ U, Below w.heap.size w U → Arg U B (cutA A c J) (c - J) OP := fun U h => by
    have := (hA.below (h.mono hB)).mid J 2 (by omega)
    rw [hsP.out, opQ, ← HJ.out]; exact this
  go_upto_region 6 with (go_at_call 85; refine (rset_any A b c B ((whQ fr : Nat) : Int) a 4 y4 hA4 (by omega)).mono ?_; rintro e y5 ⟨v5, rfl, m5⟩; rw [HS1.out] at m5; obtain ⟨P5, p5, rfl, g5, o5, x5⟩ := made_shape m5; clear m5)
  have hb5 := hb4.trans (x5.mono hb4.size)
  have hA5 := hA.below (hb5.mono hB)
  have z55 := x5.size
  have g4 := g4.below (x5.mono z44)
  have C6 : Hid (Calls Try.prog 86 #[.int .i64 (n2 b 10), .slice (cutA A c (whQ fr)) OA.length (c - whQ fr), .slice P4 (be4 a).length p4] y5 fun e w' => e = .returned (.int .i64 hs) ∧ ∃ k, w' = y5.drewN k) := Lib.hid (by
    rw [← HHS.out]
    exact rchange_any (cutA A c (whQ fr)) P4 OA (be4 a) (c - whQ fr) p4 y5.heap.size (n2 b 10) y5 ((AOA y5 hb5).rd.more (by have := hb5.size; omega)) (g4.rd.more (by omega)) (by rw [HOA.out]; omega) (by rw [be4_len]; omega))
  have hl1 : O1.length ≤ 1000000 := by rw [HL1.out]; exact hl
  have hl2 : O2.length ≤ 1000000 := by rw [HL2.out]; exact hl
  have hl3 : O3.length ≤ 1000000 := by rw [HL3.out]; exact hl
  go_upto_region 7 with (first
    | (go_at_call 56; refine (rqnum b A c B 10 y5 hA5 hl (by omega)).mono ?_; rintro e U ⟨rfl, rfl⟩)
    | (go_at_call 86; refine C6.out.mono ?_; rintro e U ⟨rfl, k6, rfl⟩)
    | (go_at_call 85; refine (rset_any P5 O1 p5 y5.heap.size 10 hs 2 (y5.drewN k6) (g5.drewN k6) (by omega)).mono ?_; rintro e y6 ⟨v6, rfl, m6⟩; rw [HS2.out] at m6; obtain ⟨P6, p6, rfl, g6, o6, x6⟩ := made_shape m6; clear m6))
  have x56 : Below y5.heap.size y5 y6 := (below_drewN (Below.refl _ y5) k6).trans x6
  have hb6 := hb5.trans (x56.mono hb5.size)
  have z66 := x56.size
  go_upto_region 8 with (go_at_call 85; rw [HJI.out]; refine (rset_any P6 O2 p6 y6.heap.size (J : Int) n 2 y6 g6 (by omega)).mono ?_; rintro e y7 ⟨v7, rfl, m7⟩; rw [HS3.out] at m7; obtain ⟨P7, p7, rfl, g7, o7, x7⟩ := made_shape m7; clear m7)
  have x57 := x5.trans ((x56.trans (x7.mono z66)).mono z55)
  have at5 := at5.below x57 (by omega)
  have gd7 := gd4.below (x57.mono (by omega))
  have hb7 := hb4.trans (x57.mono hb4.size)
  have z77 := x57.size
  have o4 := own_below o4 x57
  have o2 := own_below o2 x57
  clear C6 x5 x6 x56 x7 g5 g6 o5 o6 hA5
  go_upto_region 9 with (first
    | ((with_reducible show wpList _ _ _ (Oper.mk _ (Op.load 48 _) _ _ _ _ :: _) _ _); refine wpList_val rfl (run_load_v4 rfl rfl at5 rfl) ?_)
    | (go_at_call 87; refine (rqsumAt q P p P' p' w1.heap.size y7 gd7 (by omega) (by omega)).mono ?_; rintro e y8 ⟨rfl, x8⟩))
  have z88 := x8.size
  have at5 := at5.below x8 (by omega)
  have gd8 := gd7.below (x8.mono (by omega))
  have hb8 := hb7.trans (x8.mono hb7.size)
  have o4 := own_below o4 x8
  have o2 := own_below o2 x8
  have o7 := own_below o7 x8
  have g7 := g7.below x8
  cases hsis : sisQ q with
  | false =>
    have HF := Lib.hid (show R = O3 by rw [HR.out, putQ, hsis, if_neg (by decide), HBASE.out])
    rw [if_neg (by decide)]
    clear hsis
    go_wp2
    go_ret
    exact ⟨P7, p7, by rw [HF.out]; rfl, by rw [HF.out]; exact Made.of_own (own_base o7 (by have := hb4.size; omega)) hb8⟩
  | true =>
    have hsis2 := hsis
    simp only [sisQ, Bool.and_eq_true, decide_eq_true_eq] at hsis2
    obtain ⟨S, hS⟩ : ∃ s, s = satQ q := ⟨_, rfl⟩
    have hSd : S + 2 ≤ q.dat.length := by rw [hS]; exact hsis2.1
    have HRF := Lib.hid (show R = splice O3 (H + S) (be2 (wtQ b q H fr a n)) by rw [HR.out, putQ, hsis, if_pos rfl, HBASE.out, hS])
    have HWT := Lib.hid (show wtQ b q H fr a n = if q.proto = 17 ∧ wsQ b q H fr a n = 0 then 65535 else wsQ b q H fr a n from rfl)
    have HWS := Lib.hid (show wsQ b q H fr a n = if q.proto = 1 then chg (n2 q.dat S) OP (be2 n) else chg (n2 q.dat S) (OA ++ OP) (be4 a ++ be2 n) by rw [hsO.out, hsP.out, hS]; rfl)
    have HWB := wsQ_bd b q H fr a n
    rw [if_pos rfl, ← hS]
    clear hsis hsis2 hS
    obtain ⟨K, hK⟩ : ∃ k, k = H + S := ⟨_, rfl⟩
    have hK2 : K + 2 ≤ b.length := by omega
    have HKI := Lib.hid (show (H : Int) + (S : Int) = (K : Int) by rw [hK]; simp)
    have HRF := Lib.hid (show R = splice O3 K (be2 (wtQ b q H fr a n)) by rw [HRF.out, hK])
    have HO7 := Lib.hid o7
    have HG7 := Lib.hid g7
    obtain ⟨ws, hws⟩ : ∃ x, x = wsQ b q H fr a n := ⟨_, rfl⟩
    rw [← hws] at HWB HWT HWS
    have HSET : ∀ s, 0 ≤ s → s ≤ 65535 → wtQ b q H fr a n = s → Hid (setB O3 (K : Int) s 2 = R) := fun s h0 h1 e => Lib.hid (by rw [HRF.out, e]; exact setB_ok (k := 2) (put_two (bs := []) h0 h1) (be2_len s) (by omega) (by rw [HL3.out]; omega))
    obtain ⟨OO, hOO⟩ : ∃ l, l = OA ++ OP := ⟨_, rfl⟩
    obtain ⟨NN, hNN⟩ : ∃ l, l = be4 a ++ be2 n := ⟨_, rfl⟩
    have HOO := Lib.hid hOO
    have HNN := Lib.hid hNN
    clear hOO hNN
    have zB : V3.heap.size ≤ y8.heap.size := by omega
    have zw : w.heap.size ≤ V3.heap.size := by have := hb3.size; omega
    have z0 : w.heap.size ≤ y8.heap.size := by omega
    clear hK hws
    go_upto_region 12 with (first
      | (at_builtin; refine append_rd rfl _ _ rfl y8.heap.size _ 0 [] rfl (World.ownsRow_nil _ _ _ _) B (cutA A c (whQ fr)) (c - whQ fr) OA rfl (AOA y8 hb8).none_ (AOA y8 hb8).rd (by have := HOA.out; omega) (Nat.le_refl _) ?_; intro v9 y9 uw9 gr9; obtain ⟨P9, p9, rfl, ow9⟩ := own_made (bs := OA) uw9 (Nat.zero_add _) (List.nil_append _); clear uw9; have x9 := (Below.refl y8.heap.size y8).grown gr9 (Nat.le_refl _) (fun k hk => by cases hk); have hb9 := hb8.trans (x9.mono z0))
      | (at_builtin; refine append_rd rfl _ _ rfl y8.heap.size _ OA.length (row OA) rfl ow9 B (cutA A c J) (c - J) OP rfl (AOP y9 hb9).none_ (AOP y9 hb9).rd (by have := HOA.out; have := HOP.out; omega) x9.size ?_; intro v10 y10 uw10 gr10; obtain ⟨P10, p10, rfl, ow10⟩ := own_made (bs := OO) uw10 (by rw [HOO.out, List.length_append]) (by rw [HOO.out, row_append]); clear uw10; have x10 := x9.grown gr10 x9.size (fun k hk => own_block_ge ow9 k hk); have o4 := own_below o4 x10; have o2 := own_below o2 x10; have o7 := own_below o7 x10; have g2n := Made.arg o2)
      | (at_builtin; refine append_rd rfl _ _ rfl V3.heap.size _ (be4 a).length (row (be4 a)) rfl o4 y10.heap.size P2 p2 (be2 n) rfl g2n.none_ g2n.rd (by rw [be4_len, be2_len]; omega) (Nat.le_trans zB x10.size) ?_; intro v11 y11 uw11 gr11; obtain ⟨P11, p11, rfl, ow11⟩ := own_made (bs := NN) uw11 (by rw [HNN.out, List.length_append]) (by rw [HNN.out, row_append]); clear uw11))
    have o4b := own_block_ge o4
    have ow10 := own_keepC ow10 (fun k hk => by have := o4z k hk; omega) gr11
    have o2 := own_keepC o2 (fun k hk => o4z k hk) gr11
    have o7 := own_keepC o7 (fun k hk => by have := o4z k hk; omega) gr11
    have x11 : Below V3.heap.size y8 y11 := (x10.mono zB).grown gr11 (Nat.le_trans zB x10.size) o4b
    have hb11 := hb8.trans (x11.mono zw)
    have at5 := at5.below x11 hz3
    have gd11 := gd8.below (x11.mono (Nat.le_of_lt hz3))
    have a7 := Made.arg o7
    have a2 := Made.arg o2
    have a10 := Made.arg ow10
    have a11 := Made.arg ow11
    have kpr := at5.proto
    have kdt := at5.dat
    have CN : Hid (Calls Try.prog 56 #[.slice P' q.dat.length p', .int .i64 (S : Int), .int .i64 2] y11 fun e U => e = .returned (.int .i64 (n2 q.dat S)) ∧ y11 = U) := Lib.hid (rqnum q.dat P' p' w1.heap.size S y11 gd11 (by omega) hSd)
    have CC1 : q.proto = 1 → Hid (Calls Try.prog 86 #[.int .i64 (n2 q.dat S), .slice (cutA A c J) OP.length (c - J), .slice P2 (be2 n).length p2] y11 fun e w' => e = .returned (.int .i64 ws) ∧ ∃ k, w' = y11.drewN k) := fun h => Lib.hid (by
      rw [HWS.out, if_pos h]
      exact rchange_any (cutA A c J) P2 OP (be2 n) (c - J) p2 y11.heap.size (n2 q.dat S) y11 ((AOP y11 hb11).rd.more (by have := hb11.size; omega)) a2.rd (by rw [HOP.out]; omega) (by rw [be2_len]; omega))
    have CC2 : q.proto ≠ 1 → Hid (Calls Try.prog 86 #[.int .i64 (n2 q.dat S), .slice P10 OO.length p10, .slice P11 NN.length p11] y11 fun e w' => e = .returned (.int .i64 ws) ∧ ∃ k, w' = y11.drewN k) := fun h => Lib.hid (by
      rw [HWS.out, if_neg h, ← HOO.out, ← HNN.out]
      exact rchange_any P10 P11 OO NN p10 p11 y11.heap.size (n2 q.dat S) y11 a10.rd a11.rd (by rw [HOO.out, List.length_append, HOA.out, HOP.out]; omega) (by rw [HNN.out, List.length_append, be4_len, be2_len]; omega))
    clear HO7 HG7 o4 o4b ow9 gr9 gr10 gr11 x9 x10 gd8 g7 hb9 a10 a11 ow10 ow11 o2 g2n
    have hb11z := hb11.size
    by_cases h1 : q.proto = 1
    · have d1 : (q.proto == 1) = true := by simpa using h1
      have d17 : (q.proto == 17) = false := by simp [h1]
      have CC := CC1 h1
      have HW := HSET ws HWB.1 HWB.2 (by rw [HWT.out, if_neg (fun h => by omega)])
      clear h1 CC1 CC2 HSET
      by_cases hz : ws = 0
      · have dz : (ws == 0) = true := by simpa using hz
        clear hz
        go_wp2_with (first
          | (go_at_call 56; refine CN.out.mono ?_; rintro e U ⟨rfl, rfl⟩)
          | (go_at_call 86; refine CC.out.mono ?_; rintro e U ⟨rfl, k12, rfl⟩)
          | (go_at_call 85; rw [HKI.out]; refine (rset_any P7 O3 p7 y11.heap.size (K : Int) ws 2 (y11.drewN k12) (a7.drewN k12) (by omega)).mono ?_; rintro e y13 ⟨v13, rfl, m13⟩; rw [HW.out] at m13; obtain ⟨P13, p13, rfl, g13, o13, x13⟩ := made_shape m13; clear m13))
        go_ret
        exact ⟨P13, p13, rfl, Made.of_own (own_base o13 hb11z) ((below_drewN hb11 k12).trans (x13.mono hb11z))⟩
      · have dz : (ws == 0) = false := by simpa using hz
        clear hz
        go_wp2_with (first
          | (go_at_call 56; refine CN.out.mono ?_; rintro e U ⟨rfl, rfl⟩)
          | (go_at_call 86; refine CC.out.mono ?_; rintro e U ⟨rfl, k12, rfl⟩)
          | (go_at_call 85; rw [HKI.out]; refine (rset_any P7 O3 p7 y11.heap.size (K : Int) ws 2 (y11.drewN k12) (a7.drewN k12) (by omega)).mono ?_; rintro e y13 ⟨v13, rfl, m13⟩; rw [HW.out] at m13; obtain ⟨P13, p13, rfl, g13, o13, x13⟩ := made_shape m13; clear m13))
        go_ret
        exact ⟨P13, p13, rfl, Made.of_own (own_base o13 hb11z) ((below_drewN hb11 k12).trans (x13.mono hb11z))⟩
    · have d1 : (q.proto == 1) = false := by simpa using h1
      have CC := CC2 h1
      clear h1 CC1 CC2
      by_cases h17 : q.proto = 17
      · have d17 : (q.proto == 17) = true := by simpa using h17
        by_cases hz : ws = 0
        · have dz : (ws == 0) = true := by simpa using hz
          have HW := HSET 65535 (by decide) (by decide) (by rw [HWT.out, if_pos ⟨h17, hz⟩])
          clear hz h17 HSET
          go_wp2_with (first
            | (go_at_call 56; refine CN.out.mono ?_; rintro e U ⟨rfl, rfl⟩)
            | (go_at_call 86; refine CC.out.mono ?_; rintro e U ⟨rfl, k12, rfl⟩)
            | (go_at_call 85; rw [HKI.out]; refine (rset_any P7 O3 p7 y11.heap.size (K : Int) 65535 2 (y11.drewN k12) (a7.drewN k12) (by omega)).mono ?_; rintro e y13 ⟨v13, rfl, m13⟩; rw [HW.out] at m13; obtain ⟨P13, p13, rfl, g13, o13, x13⟩ := made_shape m13; clear m13))
          go_ret
          exact ⟨P13, p13, rfl, Made.of_own (own_base o13 hb11z) ((below_drewN hb11 k12).trans (x13.mono hb11z))⟩
        · have dz : (ws == 0) = false := by simpa using hz
          have HW := HSET ws HWB.1 HWB.2 (by rw [HWT.out, if_neg (fun h => hz h.2)])
          clear hz h17 HSET
          go_wp2_with (first
            | (go_at_call 56; refine CN.out.mono ?_; rintro e U ⟨rfl, rfl⟩)
            | (go_at_call 86; refine CC.out.mono ?_; rintro e U ⟨rfl, k12, rfl⟩)
            | (go_at_call 85; rw [HKI.out]; refine (rset_any P7 O3 p7 y11.heap.size (K : Int) ws 2 (y11.drewN k12) (a7.drewN k12) (by omega)).mono ?_; rintro e y13 ⟨v13, rfl, m13⟩; rw [HW.out] at m13; obtain ⟨P13, p13, rfl, g13, o13, x13⟩ := made_shape m13; clear m13))
          go_ret
          exact ⟨P13, p13, rfl, Made.of_own (own_base o13 hb11z) ((below_drewN hb11 k12).trans (x13.mono hb11z))⟩
      · have d17 : (q.proto == 17) = false := by simpa using h17
        have HW := HSET ws HWB.1 HWB.2 (by rw [HWT.out, if_neg (fun h => h17 h.1)])
        clear h17 HSET
        by_cases hz : ws = 0
        · have dz : (ws == 0) = true := by simpa using hz
          clear hz
          go_wp2_with (first
            | (go_at_call 56; refine CN.out.mono ?_; rintro e U ⟨rfl, rfl⟩)
            | (go_at_call 86; refine CC.out.mono ?_; rintro e U ⟨rfl, k12, rfl⟩)
            | (go_at_call 85; rw [HKI.out]; refine (rset_any P7 O3 p7 y11.heap.size (K : Int) ws 2 (y11.drewN k12) (a7.drewN k12) (by omega)).mono ?_; rintro e y13 ⟨v13, rfl, m13⟩; rw [HW.out] at m13; obtain ⟨P13, p13, rfl, g13, o13, x13⟩ := made_shape m13; clear m13))
          go_ret
          exact ⟨P13, p13, rfl, Made.of_own (own_base o13 hb11z) ((below_drewN hb11 k12).trans (x13.mono hb11z))⟩
        · have dz : (ws == 0) = false := by simpa using hz
          clear hz
          go_wp2_with (first
            | (go_at_call 56; refine CN.out.mono ?_; rintro e U ⟨rfl, rfl⟩)
            | (go_at_call 86; refine CC.out.mono ?_; rintro e U ⟨rfl, k12, rfl⟩)
            | (go_at_call 85; rw [HKI.out]; refine (rset_any P7 O3 p7 y11.heap.size (K : Int) ws 2 (y11.drewN k12) (a7.drewN k12) (by omega)).mono ?_; rintro e y13 ⟨v13, rfl, m13⟩; rw [HW.out] at m13; obtain ⟨P13, p13, rfl, g13, o13, x13⟩ := made_shape m13; clear m13))
          go_ret
          exact ⟨P13, p13, rfl, Made.of_own (own_base o13 hb11z) ((below_drewN hb11 k12).trans (x13.mono hb11z))⟩
end Go.Proofs.Ytkgbjohadkbjaaa

/-
  Contracts of the document's From, To and Message of layer 26, and of the code's Message. Conditions are each theorem's own.
-/
namespace Go.Proofs.Ytkgbjohadkbjaaa
open Go.RowKit
theorem ok_fits (a : Int) : okB a = fitsB a 4 := by
  have := @fitsB_iff a 4
  rw [pw4] at this
  rw [Bool.eq_iff_iff, this, okB, decide_eq_true_eq]
  omega
set_option maxRecDepth 100000 in
set_option maxHeartbeats 8000000 in
theorem rqmay (b : List UInt8) (A : Option Addr) (c B : Nat) (a n : Int) (w : World) (hA : Arg w B A c b) (hB : B ≤ w.heap.size) (hl : b.length ≤ 1000000) :
    Calls Try.prog 59 #[.slice A b.length c, .int .i64 a, .int .i64 n] w fun e w' => e = .returned (.int .i64 (frE b a n)) ∧ Below w.heap.size w w' := by
  obtain ⟨FE, hFE⟩ : ∃ x, x = frE b a n := ⟨_, rfl⟩
  rw [← hFE]
  obtain ⟨E, hE⟩ : ∃ x, x = qE b := ⟨_, rfl⟩
  have HE := Lib.hid hE
  have HFE : Hid (FE = if E ≠ 0 then E else if fitsB a 4 = true ∧ fitsB n 2 = true then 0 else 1) := Lib.hid (by rw [hFE, hE]; rfl)
  have hPO := Lib.hid (show poV b = .agg (pqa ⟨poP b, poN b true, poN b false⟩) from rfl)
  clear hFE hE
  go_enter Try.func59, Try.ntmps59
  go_upto_region 2 with (first
    | (go_at_call 25; refine (rqports b A c B w hA hB hl).mono ?_; rintro e w1 ⟨P, p, P', p', rfl, mo, md⟩; rw [← HE.out, hPO.out])
    | ((with_reducible show wpList _ _ _ (Oper.mk _ (Op.store 48 _ _) _ _ _ _ :: _) _ _); refine v4_store (g := w1.heap.size) (cs := v4a (qV b) P p P' p') rfl rfl (two_firstQ w1 _ _) rfl rfl (v4a_one _ _ _ _ _) ?_)
    | ((with_reducible show wpList _ _ _ (Oper.mk _ (Op.store 50 _ _) _ _ _ _ :: _) _ _); refine pq_store (g := w1.heap.size + 1) (cs := pqa ⟨poP b, poN b true, poN b false⟩) rfl rfl ((setRow_other _ _ _ _ (by omega)).trans (two_heap w1 _ _)) rfl rfl (pq_one _) ?_))
  obtain ⟨x1V, _, _⟩ := two_boxes2 w1 #[.int .i64 0, .int .i64 0, .int .i64 0, .int .i64 0, .int .i64 0, .int .i64 0, .int .i64 0, .bool false, .bool false, .slice none 0 0, .slice none 0 0] #[.int .i64 0, .int .i64 0, .int .i64 0] (v4a (qV b) P p P' p') (pqa ⟨poP b, poN b true, poN b false⟩) 48 50
  generalize (((w1.alloc (.cells #[.int .i64 0, .int .i64 0, .int .i64 0, .int .i64 0, .int .i64 0, .int .i64 0, .int .i64 0, .bool false, .bool false, .slice none 0 0, .slice none 0 0] 48)).alloc (.cells #[.int .i64 0, .int .i64 0, .int .i64 0] 50)).setRow w1.heap.size (v4a (qV b) P p P' p')).setRow (w1.heap.size + 1) (pqa ⟨poP b, poN b true, poN b false⟩) = V1 at *
  have hb1 := mo.below.trans (x1V.mono mo.below.size)
  clear mo md x1V
  by_cases h0 : E = 0
  · subst h0
    obtain ⟨f4, hf4⟩ : ∃ r, r = fitsB a 4 := ⟨_, rfl⟩
    obtain ⟨f2, hf2⟩ : ∃ r, r = fitsB n 2 := ⟨_, rfl⟩
    have HF4 := Lib.hid (show okB a = f4 by rw [ok_fits, hf4])
    have HF2 := Lib.hid hf2.symm
    have HFE2 := Lib.hid (show FE = if f4 = true ∧ f2 = true then 0 else 1 by rw [HFE.out, if_neg (by simp), hf4, hf2])
    clear hf4 hf2
    cases f4
    · have HN := Lib.hid (show FE = 1 by rw [HFE2.out]; rfl)
      go_wp2_with (go_at_call 81; refine (r3right_any _ _).mono ?_; rintro e W ⟨rfl, rfl⟩; rw [HF4.out])
      go_ret
      exact ⟨by rw [HN.out]; rfl, hb1⟩
    · cases f2
      · have HN := Lib.hid (show FE = 1 by rw [HFE2.out]; rfl)
        go_wp2_with (first | (go_at_call 81; refine (r3right_any _ _).mono ?_; rintro e W ⟨rfl, rfl⟩; rw [HF4.out]) | (go_at_call 82; refine (rfits_any _ _ _).mono ?_; rintro e W ⟨rfl, rfl⟩; rw [HF2.out]))
        go_ret
        exact ⟨by rw [HN.out]; rfl, hb1⟩
      · have HN := Lib.hid (show FE = 0 by rw [HFE2.out]; rfl)
        go_wp2_with (first | (go_at_call 81; refine (r3right_any _ _).mono ?_; rintro e W ⟨rfl, rfl⟩; rw [HF4.out]) | (go_at_call 82; refine (rfits_any _ _ _).mono ?_; rintro e W ⟨rfl, rfl⟩; rw [HF2.out]))
        go_ret
        exact ⟨by rw [HN.out]; rfl, hb1⟩
  · have dE : (E != 0) = true := by simpa using h0
    have HN := Lib.hid (show FE = E by rw [HFE.out, if_pos h0])
    go_wp2
    go_ret
    exact ⟨by rw [HN.out]; rfl, hb1⟩
theorem frE_zero {b : List UInt8} {a n : Int} (h : frE b a n = 0) : qE b = 0 ∧ (0 ≤ a ∧ a < 4294967296) ∧ (0 ≤ n ∧ n ≤ 65535) := by
  unfold frE at h
  split at h
  · rename_i h1; exact absurd h h1
  · rename_i h1
    split at h
    · rename_i h2
      have e1 := fitsB_iff.1 h2.1
      have e2 := fitsB_iff.1 h2.2
      rw [pw4] at e1
      rw [pw2] at e2
      exact ⟨by omega, ⟨e1.2.2.1, e1.2.2.2⟩, ⟨e2.2.2.1, by omega⟩⟩
    · cases h
theorem frV_quo {b : List UInt8} {q : P4} {H : Nat} (hq : Quo b q H) {a n : Int} (h : frE b a n = 0) (fr : Bool) : frV b fr a n = putQ b q H fr a n := by
  rw [frV, if_pos h, hq.val, hQ, hq.val, ← hq.hH]
set_option maxRecDepth 100000 in
set_option maxHeartbeats 8000000 in
theorem rqfrom (b : List UInt8) (A : Option Addr) (c B : Nat) (a n : Int) (w : World) (hA : Arg w B A c b) (hB : B ≤ w.heap.size) (hl : b.length ≤ 1000000) :
    Calls Try.prog 27 #[.slice A b.length c, .int .i64 a, .int .i64 n] w fun e w' => ∃ P p, e = .returned (.tuple #[.slice P (frV b true a n).length p, .int .i64 (frE b a n)]) ∧ Made w w' (.slice P (frV b true a n).length p) (frV b true a n) := by
  have MAY := Lib.hid (rqmay b A c B a n w hA hB hl)
  obtain ⟨FE, hFE⟩ : ∃ x, x = frE b a n := ⟨_, rfl⟩
  obtain ⟨FV, hFV⟩ : ∃ x, x = frV b true a n := ⟨_, rfl⟩
  rw [← hFE] at MAY
  rw [← hFE, ← hFV]
  have HFE := Lib.hid hFE
  have HFV := Lib.hid hFV
  clear hFE hFV
  go_enter Try.func27, Try.ntmps27
  go_upto_region 2 with (go_at_call 59; refine MAY.out.mono ?_; rintro e w1 ⟨rfl, x1⟩)
  by_cases h0 : FE = 0
  · subst h0
    obtain ⟨hE0, ha, hn⟩ := frE_zero HFE.out.symm
    obtain ⟨q, H, hq⟩ := qE_quo hE0
    have HFVQ := Lib.hid (show FV = putQ b q H true a n by rw [HFV.out, frV_quo hq HFE.out.symm])
    have hA1 := hA.below (x1.mono hB)
    have hd8 := hq.d8
    have h20 := hq.h20
    have hqle := hq.le
    obtain ⟨b0, off, hAe, hb0, hc0⟩ := hA1.rd (by omega)
    have k9 := hc0 9 (by omega)
    rw [← hq.prb] at k9
    have CH := Lib.hid (rqchanged b A c B q H true a n w1 hA1 (Nat.le_trans hB x1.size) hl hq ha hn)
    rw [← HFVQ.out] at CH
    have hcap := hA1.cap
    subst hAe
    by_cases h1 : q.proto = 1
    · have CH1 : Hid (Calls Try.prog 60 #[.slice (some ⟨b0, off, none⟩) b.length c, .int .i64 12, .int .i64 4, .int .i64 a, .int .i64 n] w1 fun e w' => ∃ P p, e = .returned (.slice P FV.length p) ∧ Made w1 w' (.slice P FV.length p) FV) := Lib.hid (by
        have := CH.out
        rw [show ppQ q.proto true = 4 by rw [ppQ, if_pos h1]] at this
        exact this)
      have d1 : (q.proto == 1) = true := by simpa using h1
      rw [h1] at k9
      clear h1 hE0 hc0 CH d1
      go_wp2_with (go_at_call 60; with_reducible refine CH1.out.mono ?_; rintro e w2 ⟨P, p, rfl, m2⟩)
      go_ret2
      exact ⟨P, p, rfl, m2.after x1⟩
    · have CH1 : Hid (Calls Try.prog 60 #[.slice (some ⟨b0, off, none⟩) b.length c, .int .i64 12, .int .i64 0, .int .i64 a, .int .i64 n] w1 fun e w' => ∃ P p, e = .returned (.slice P FV.length p) ∧ Made w1 w' (.slice P FV.length p) FV) := Lib.hid (by
        have := CH.out
        rw [show ppQ q.proto true = 0 by rw [ppQ, if_neg h1]; rfl] at this
        exact this)
      have d1 : (q.proto == 1) = false := by simpa using h1
      clear h1 hE0 hc0 CH
      go_wp2_with (go_at_call 60; with_reducible refine CH1.out.mono ?_; rintro e w2 ⟨P, p, rfl, m2⟩)
      go_ret2
      exact ⟨P, p, rfl, m2.after x1⟩
  · have dE : (FE != 0) = true := by simpa using h0
    have HN := Lib.hid (show FV = [] by rw [HFV.out, frV, ← HFE.out, if_neg h0])
    go_wp2
    go_ret2
    exact ⟨none, 0, by rw [HN.out]; rfl, by rw [HN.out]; exact Made.nil _ _ x1⟩
set_option maxRecDepth 100000 in
set_option maxHeartbeats 8000000 in
theorem rqto (b : List UInt8) (A : Option Addr) (c B : Nat) (a n : Int) (w : World) (hA : Arg w B A c b) (hB : B ≤ w.heap.size) (hl : b.length ≤ 1000000) :
    Calls Try.prog 29 #[.slice A b.length c, .int .i64 a, .int .i64 n] w fun e w' => ∃ P p, e = .returned (.tuple #[.slice P (frV b false a n).length p, .int .i64 (frE b a n)]) ∧ Made w w' (.slice P (frV b false a n).length p) (frV b false a n) := by
  have MAY := Lib.hid (rqmay b A c B a n w hA hB hl)
  obtain ⟨FE, hFE⟩ : ∃ x, x = frE b a n := ⟨_, rfl⟩
  obtain ⟨FV, hFV⟩ : ∃ x, x = frV b false a n := ⟨_, rfl⟩
  rw [← hFE] at MAY
  rw [← hFE, ← hFV]
  have HFE := Lib.hid hFE
  have HFV := Lib.hid hFV
  clear hFE hFV
  go_enter Try.func29, Try.ntmps29
  go_upto_region 2 with (go_at_call 59; refine MAY.out.mono ?_; rintro e w1 ⟨rfl, x1⟩)
  by_cases h0 : FE = 0
  · subst h0
    obtain ⟨hE0, ha, hn⟩ := frE_zero HFE.out.symm
    obtain ⟨q, H, hq⟩ := qE_quo hE0
    have HFVQ := Lib.hid (show FV = putQ b q H false a n by rw [HFV.out, frV_quo hq HFE.out.symm])
    have hA1 := hA.below (x1.mono hB)
    have hd8 := hq.d8
    have h20 := hq.h20
    have hqle := hq.le
    obtain ⟨b0, off, hAe, hb0, hc0⟩ := hA1.rd (by omega)
    have k9 := hc0 9 (by omega)
    rw [← hq.prb] at k9
    have CH := Lib.hid (rqchanged b A c B q H false a n w1 hA1 (Nat.le_trans hB x1.size) hl hq ha hn)
    rw [← HFVQ.out] at CH
    have hcap := hA1.cap
    subst hAe
    by_cases h1 : q.proto = 1
    · have CH1 : Hid (Calls Try.prog 60 #[.slice (some ⟨b0, off, none⟩) b.length c, .int .i64 16, .int .i64 4, .int .i64 a, .int .i64 n] w1 fun e w' => ∃ P p, e = .returned (.slice P FV.length p) ∧ Made w1 w' (.slice P FV.length p) FV) := Lib.hid (by
        have := CH.out
        rw [show ppQ q.proto false = 4 by rw [ppQ, if_pos h1]] at this
        exact this)
      have d1 : (q.proto == 1) = true := by simpa using h1
      rw [h1] at k9
      clear h1 hE0 hc0 CH d1
      go_wp2_with (go_at_call 60; with_reducible refine CH1.out.mono ?_; rintro e w2 ⟨P, p, rfl, m2⟩)
      go_ret2
      exact ⟨P, p, rfl, m2.after x1⟩
    · have CH1 : Hid (Calls Try.prog 60 #[.slice (some ⟨b0, off, none⟩) b.length c, .int .i64 16, .int .i64 2, .int .i64 a, .int .i64 n] w1 fun e w' => ∃ P p, e = .returned (.slice P FV.length p) ∧ Made w1 w' (.slice P FV.length p) FV) := Lib.hid (by
        have := CH.out
        rw [show ppQ q.proto false = 2 by rw [ppQ, if_neg h1]; rfl] at this
        exact this)
      have d1 : (q.proto == 1) = false := by simpa using h1
      clear h1 hE0 hc0 CH
      go_wp2_with (go_at_call 60; with_reducible refine CH1.out.mono ?_; rintro e w2 ⟨P, p, rfl, m2⟩)
      go_ret2
      exact ⟨P, p, rfl, m2.after x1⟩
  · have dE : (FE != 0) = true := by simpa using h0
    have HN := Lib.hid (show FV = [] by rw [HFV.out, frV, ← HFE.out, if_neg h0])
    go_wp2
    go_ret2
    exact ⟨none, 0, by rw [HN.out]; rfl, by rw [HN.out]; exact Made.nil _ _ x1⟩
end Go.Proofs.Ytkgbjohadkbjaaa
