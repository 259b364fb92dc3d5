/-
  What layer 3's statements share: awake. Conditions are each theorem's own.
-/
import Derived.Test.YtokcelbpiglieaaDoorFourC
namespace Go.Proofs.YtokcelbpiglieaaDoor
open Go.RowKit

theorem awake3_any (w : World) (hT : Tabs w) : Calls Tryd.prog 17 #[] w fun e w' => e = .returned (.bool true) ∧ Below w.heap.size w w' := by
  have h := par_yes (s := [49, 57, 50, 46, 48, 46, 50, 46, 49]) (a := 3221225985) (by omega) (by decide)
  have h2 : txtI 3221225985 = [49, 57, 50, 46, 48, 46, 50, 46, 49] := by decide
  have h3 : hostB 3221225985 = true := by decide
  have h4 : privB 167772161 = true := by decide
  have h5 : ((strB [49, 57, 50, 46, 48, 46, 50, 46, 49]).toList == [49, 57, 50, 46, 48, 46, 50, 46, 49]) = true := by rw [strB, ByteArray.toList_mk]; decide
  have H := Lib.hid h
  clear h
  go_enter Tryd.func17, Tryd.ntmps17
  go_wp2_with (first
    | (go_at_call 18; refine (c3parse _ _ (by decide)).mono ?_; rintro e w1 ⟨rfl, b1⟩; rw [H.out.1, H.out.2])
    | (go_at_call 11; refine (c3text _ _ (hT.below b1 (Nat.le_refl _))).mono ?_; rintro e w2 ⟨rfl, b2⟩; rw [h2])
    | (go_at_call 13; refine (c3host _ _).mono ?_; rintro e w3 ⟨rfl, b3⟩; rw [h3])
    | (go_at_call 15; refine (c3private _ _).mono ?_; rintro e w4 ⟨rfl, b4⟩; rw [h4]))
  go_ret
  exact ⟨rfl, b1.trans ((b2.trans ((b3.trans (b4.mono b3.size)).mono b2.size)).mono b1.size)⟩
end Go.Proofs.YtokcelbpiglieaaDoor
