/-
  Contracts and lemmas on which the proofs of this seat stand (several texts in one). Conditions are each theorem's own.
-/
import Derived.Test.YtobkiffiapjhgaaMb1

/-
  What layer 10's laws call first: that a message is parsed, between its own addresses alone. Conditions are each theorem's own.
-/
namespace Go.Proofs.Ytobkiffiapjhgaa
open Go.RowKit

def ad (x : UInt8) : List UInt8 := x :: List.replicate 15 0
theorem ad_len (x : UInt8) : (ad x).length = 16 := rfl
def qaJ : PI := ⟨2, 0, 1280, []⟩
theorem buildJ_awake (w : World) : Calls Try.prog 29 #[.agg #[.int .u8 1, .int .u8 0, .int .u8 0, .int .u8 0, .int .u8 0, .int .u8 0, .int .u8 0, .int .u8 0, .int .u8 0, .int .u8 0, .int .u8 0, .int .u8 0, .int .u8 0, .int .u8 0, .int .u8 0, .int .u8 0], .agg #[.int .u8 2, .int .u8 0, .int .u8 0, .int .u8 0, .int .u8 0, .int .u8 0, .int .u8 0, .int .u8 0, .int .u8 0, .int .u8 0, .int .u8 0, .int .u8 0, .int .u8 0, .int .u8 0, .int .u8 0, .int .u8 0], isv qaJ none 0] w fun e w' => ∃ A c, e = .returned (.tuple #[.slice A 8 c, .int .i64 0]) ∧ Arg w' w'.heap.size A c (bldJ (ad 1) (ad 2) qaJ) ∧ Below w.heap.size w w' := by
  have hc : chkI qaJ = 0 := by decide
  have hlen : (bldJ (ad 1) (ad 2) qaJ).length = 8 := bldJ_len _ _ qaJ
  refine (cJbuild (ad 1) (ad 2) w qaJ none 0 0 (Arg.nil _ 0) (Nat.zero_le _) (by decide) (ad_len 1) (ad_len 2)).mono ?_
  rintro e w' ⟨v, rfl, _, hm⟩
  obtain ⟨A, c, rfl, ha, ho, hb⟩ := made_shape (hm hc)
  exact ⟨A, c, by rw [hc, hlen], ha, hb⟩
theorem parseJ_awake (A : Option Addr) (c B : Nat) (w : World) (h : Arg w B A c (bldJ (ad 1) (ad 2) qaJ)) (hB : B ≤ w.heap.size) :
    Calls Try.prog 35 #[.agg #[.int .u8 1, .int .u8 0, .int .u8 0, .int .u8 0, .int .u8 0, .int .u8 0, .int .u8 0, .int .u8 0, .int .u8 0, .int .u8 0, .int .u8 0, .int .u8 0, .int .u8 0, .int .u8 0, .int .u8 0, .int .u8 0], .agg #[.int .u8 2, .int .u8 0, .int .u8 0, .int .u8 0, .int .u8 0, .int .u8 0, .int .u8 0, .int .u8 0, .int .u8 0, .int .u8 0, .int .u8 0, .int .u8 0, .int .u8 0, .int .u8 0, .int .u8 0, .int .u8 0], .slice A 8 c] w fun e w' => ∃ P p, e = .returned (.tuple #[isv qaJ P p, .int .i64 0]) ∧ Below w.heap.size w w' := by
  have hlen : (bldJ (ad 1) (ad 2) qaJ).length = 8 := bldJ_len _ _ qaJ
  have hk := backJ (src := ad 1) (dst := ad 2) (q := qaJ) (by decide)
  have := cJparse (ad 1) (ad 2) (bldJ (ad 1) (ad 2) qaJ) A c w B h hB (by rw [hlen]; decide) (ad_len 1) (ad_len 2)
  rw [hk.1, hk.2, hlen] at this
  refine this.mono ?_
  rintro e w' ⟨P, p, rfl, hm⟩
  exact ⟨P, p, rfl, hm.below⟩
theorem other_bad : badI (preJ (ad 1) (ad 3) (bldJ (ad 1) (ad 2) qaJ)) (bldJ (ad 1) (ad 2) qaJ) = 5 := by decide +kernel
theorem otherJ_awake (A : Option Addr) (c B : Nat) (w : World) (h : Arg w B A c (bldJ (ad 1) (ad 2) qaJ)) (hB : B ≤ w.heap.size) :
    Calls Try.prog 35 #[.agg #[.int .u8 1, .int .u8 0, .int .u8 0, .int .u8 0, .int .u8 0, .int .u8 0, .int .u8 0, .int .u8 0, .int .u8 0, .int .u8 0, .int .u8 0, .int .u8 0, .int .u8 0, .int .u8 0, .int .u8 0, .int .u8 0], .agg #[.int .u8 3, .int .u8 0, .int .u8 0, .int .u8 0, .int .u8 0, .int .u8 0, .int .u8 0, .int .u8 0, .int .u8 0, .int .u8 0, .int .u8 0, .int .u8 0, .int .u8 0, .int .u8 0, .int .u8 0, .int .u8 0], .slice A 8 c] w fun e w' => ∃ P p, e = .returned (.tuple #[isv isz P p, .int .i64 5]) ∧ Below w.heap.size w w' := by
  have hlen : (bldJ (ad 1) (ad 2) qaJ).length = 8 := bldJ_len _ _ qaJ
  have hv : prsI (preJ (ad 1) (ad 3) (bldJ (ad 1) (ad 2) qaJ)) (bldJ (ad 1) (ad 2) qaJ) = isz := by rw [prsI, other_bad]; rfl
  have := cJparse (ad 1) (ad 3) (bldJ (ad 1) (ad 2) qaJ) A c w B h hB (by rw [hlen]; decide) (ad_len 1) (ad_len 3)
  rw [other_bad, hv, hlen] at this
  refine this.mono ?_
  rintro e w' ⟨P, p, rfl, hm⟩
  exact ⟨P, p, rfl, hm.below⟩
set_option maxRecDepth 100000 in
set_option maxHeartbeats 1000000 in
theorem awakeJ_any (w : World) : Calls Try.prog 28 #[] w fun e w' => e = .returned (.bool true) ∧ Below w.heap.size w w' := by
  go_enter Try.func28, Try.ntmps28
  go_upto_region 3 with (first
    | (go_at_call 29; refine (buildJ_awake _).mono ?_; rintro e w1 ⟨A, c, rfl, ha, x1⟩)
    | (go_at_call 35; refine (parseJ_awake _ _ _ _ ha (Nat.le_refl _)).mono ?_; rintro e w2 ⟨P, p, rfl, x2⟩)
    | ((with_reducible show wpList _ _ _ (Oper.mk _ (Op.store _ _ _) _ _ _ _ :: _) _ _); refine is_store_new (cs := isa qaJ P p) rfl rfl rfl rfl (is_one _ _ _) ?_))
  have hAt := Atis.new (q := qaJ) (A := P) (c := p) w2
  have x23 : Below w2.heap.size w2 (w2.alloc (.cells (isa qaJ P p) 24)) := (Below.refl _ w2).alloc (Nat.le_refl _) _
  have hz : w2.heap.size < (w2.alloc (.cells (isa qaJ P p) 24)).heap.size := by simp
  generalize w2.alloc (.cells (isa qaJ P p) 24) = W2 at *
  have q12 : Below w1.heap.size w1 W2 := x2.trans (x23.mono x2.size)
  have ha2 := ha.below q12
  have q2 : Below w.heap.size w W2 := x1.trans (q12.mono x1.size)
  clear x1 x2 x23 ha
  go_upto_region 4 with (first
    | (go_at_call 35; refine (otherJ_awake _ _ _ _ ha2 q12.size).mono ?_; rintro e w3 ⟨P3, p3, rfl, x3⟩)
    | ((with_reducible show wpList _ _ _ (Oper.mk _ (Op.store _ _ _) _ _ _ _ :: _) _ _); refine is_store_new (cs := isa isz P3 p3) rfl rfl rfl rfl (is_one _ _ _) ?_))
  have x33 : Below w3.heap.size w3 (w3.alloc (.cells (isa isz P3 p3) 24)) := (Below.refl _ w3).alloc (Nat.le_refl _) _
  generalize w3.alloc (.cells (isa isz P3 p3) 24) = W3 at *
  have q23 : Below W2.heap.size W2 W3 := x3.trans (x33.mono x3.size)
  have k1 : W3.cell? ⟨w2.heap.size, 2, none⟩ = some (.int .i64 1280) := (hAt.below q23 hz).rest
  have q3 : Below w.heap.size w W3 := q2.trans (q23.mono q2.size)
  clear x3 x33 hAt
  go_wp2_with (go_at_call 33; refine (cJfault _ _).mono ?_; rintro e w4 ⟨rfl, rfl⟩; rw [show fltJ 2 = true from rfl])
  go_ret
  exact ⟨rfl, q3⟩
theorem resJ_shape {src dst : List UInt8} {q : PI} {w w' : World} {v : Value} (h : (chkI q ≠ 0 → v = .slice none 0 0 ∧ Below w.heap.size w w') ∧ (chkI q = 0 → Made w w' v (bldJ src dst q))) :
    ∃ A c, v = .slice A (resI (psJ src dst 58 (8 + (q.dat.length : Int))) q).length c ∧ Rd w' w'.heap.size A (resI (psJ src dst 58 (8 + (q.dat.length : Int))) q) ∧ Below w.heap.size w w' := resI_shape h
end Go.Proofs.Ytobkiffiapjhgaa
