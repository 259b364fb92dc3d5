/-
  Contracts and lemmas on which the proofs of this seat stand (several texts in one). Conditions are each theorem's own.
-/
import Derived.Test.YtpoigngpdcmipaaGreatMb3
import Derived.Test.YtpoigngpdcmipaaGreatMb7
import Derived.Test.YtpoigngpdcmipaaGreatMb2
namespace Go.Proofs.YtpoigngpdcmipaaGreat
open Go.RowKit
end Go.Proofs.YtpoigngpdcmipaaGreat
namespace Go.Proofs.YtpoigngpdcmipaaGreat
open Go.RowKit
end Go.Proofs.YtpoigngpdcmipaaGreat
namespace Go.Proofs.YtpoigngpdcmipaaGreat
open Go.RowKit
end Go.Proofs.YtpoigngpdcmipaaGreat
namespace Go.Proofs.YtpoigngpdcmipaaGreat
open Go.RowKit
section
variable (b : List UInt8) (A : Option Addr) (c : Nat) (w : World)
set_option maxRecDepth 100000 in
set_option maxHeartbeats 2000000 in
theorem c4quoted (B : Nat) (hR : Arg w B A c b) (hB : B ≤ w.heap.size) (hl : b.length ≤ 1000000) :
    Calls Tryz.prog 113 #[.slice A b.length c] w fun e w' => ∃ P p P' p', e = .returned (.tuple #[v4v (prsV b true) P p P' p', .int .i64 (prsE b true)]) ∧ Made w w' (.slice P (prsV b true).opt.length p) (prsV b true).opt ∧ Made w w' (.slice P' (prsV b true).dat.length p') (prsV b true).dat := by
  have hBW : Below w.heap.size w (w.alloc (.cells (v4a p4z none 0 none 0) 46)) := (Below.refl w.heap.size w).alloc (Nat.le_refl _) _
  have hg := World.alloc_heap_new w (.cells (v4a p4z none 0 none 0) 46)
  have hz : w.heap.size < (w.alloc (.cells (v4a p4z none 0 none 0) 46)).heap.size := by simp
  have hcap := hR.cap
  go_enter Tryz.func113, Tryz.ntmps113
  go_upto_region 1 with fail
  rw [show #[.int .i64 0, .int .i64 0, .int .i64 0, .int .i64 0, .int .i64 0, .int .i64 0, .int .i64 0, .bool false, .bool false, .slice none 0 0, .slice none 0 0] = v4a p4z none 0 none 0 from rfl]
  generalize w.alloc (.cells (v4a p4z none 0 none 0) 46) = W at *
  have hEE : bad4 b true = lay4 b true := by
    rw [bad4_lay]
    by_cases h : lay4 b true = 0
    · rw [if_pos h, if_neg (by simp), h]
    · rw [if_neg h]
  have hPE : prsE b true = lay4 b true := by
    rw [prsE, hEE]
    by_cases h : lay4 b true = 0
    · rw [if_pos h, if_neg (by simp), h]
    · rw [if_neg h]
  by_cases h0 : lay4 b true = 0
  · obtain ⟨l20, ll, ln, -⟩ := lay4_zero h0
    obtain ⟨H, hH⟩ : ∃ n : Nat, (n : Int) = hlen b := ⟨(hlen b).toNat, by omega⟩
    obtain ⟨Z, hZ⟩ : ∃ n : Nat, (n : Int) = min (n2 b 2) (b.length : Int) := ⟨(min (n2 b 2) (b.length : Int)).toNat, by omega⟩
    have hLV : layV (hlen b) (min (n2 b 2) (b.length : Int)) (lay4 b true) = .tuple #[.int .i64 (H : Int), .int .i64 (Z : Int), .int .i64 0] := by
      rw [h0, layV, if_pos rfl, if_pos rfl, hH, hZ]
    obtain ⟨D, hD⟩ : ∃ l, l = (b.take Z).drop H := ⟨_, rfl⟩
    obtain ⟨q, hq⟩ : ∃ q, q = fl4 b D := ⟨_, rfl⟩
    have HR := Lib.hid (show raw4 b = q by rw [raw4, hq, hD, ← hZ, ← hH, Int.toNat_natCast, Int.toNat_natCast])
    have HE := Lib.hid (show prsE b true = 0 by rw [hPE, h0])
    have HV := Lib.hid (show prsV b true = q by rw [prsV, if_pos HE.out, HR.out])
    have HLV := Lib.hid hLV
    have HQ := Lib.hid hq
    have h20 : 20 ≤ H := by omega
    have hHZ : H ≤ Z := by omega
    have hZb : Z ≤ b.length := by omega
    have HH := Lib.hid hH
    have HD := Lib.hid hD
    clear hEE hPE h0 l20 ll ln hZ hLV hD hq hH
    have hx1 := hBW.size
    go_upto_region 4 with (go_at_call 81; refine (c4layout b A c B true _ (hR.below (hBW.mono hB)) hl).mono ?_; rintro e w1 ⟨rfl, rfl⟩; rw [HLV.out])
    have hg3 : ∀ w3 : World, Below W.heap.size W w3 → w3.heap[w.heap.size]? = some (.cells (v4a p4z none 0 none 0) 46 (0, 0)) := fun w3 h => (h.block _ hz).trans hg
    go_wp2_with (first
      | (go_at_call 83; refine (c4read b A c _ B H Z D (hR.below (hBW.mono hB)) (Nat.le_trans hB hBW.size) hl HH.out h20 hHZ hZb HD.out).mono ?_; rintro e w3 ⟨P, p, P', p', rfl, mo, md⟩; rw [← HQ.out] at mo md; rw [← HQ.out]; have x3 := mo.below; have hg4 := hg3 _ x3)
      | ((with_reducible show wpList _ _ _ (Oper.mk _ (Op.store _ _ _) _ _ _ _ :: _) _ _); refine v4_store (g := w.heap.size) (cs := v4a q P p P' p') rfl rfl hg4 rfl rfl (v4a_one _ _ _ _ _) ?_))
    exact bodyPost_ret (res2 rfl rfl (run_loadVar_row _ _ _ 46 (v4a q P p P' p') _ _ (setRow_heap _ _ _ _ _ _ hg4) Tryz.underlying46 rfl (by kernel_rfl))) rfl ⟨P, p, P', p', by rw [HV.out, HE.out]; rfl, by rw [HV.out]; exact mo.row hBW hz, by rw [HV.out]; exact md.row hBW hz⟩
  · have HE := Lib.hid hPE
    have HV := Lib.hid (show prsV b true = p4z by rw [prsV, HE.out, if_neg h0])
    have hLV := Lib.hid (layV_no (n := hlen b) (s := min (n2 b 2) (b.length : Int)) h0)
    obtain ⟨E, hE⟩ : ∃ n, n = lay4 b true := ⟨_, rfl⟩
    rw [← hE] at HE h0
    have dE : (E != 0) = true := by simpa using h0
    have HEE := Lib.hid hE
    clear hE hEE hPE
    go_wp2_with (first | ((with_reducible show wpList _ _ _ (Oper.mk _ (Op.store _ _ _) _ _ _ _ :: _) _ _); refine v4_store (g := w.heap.size) (cs := v4a p4z none 0 none 0) rfl rfl hg rfl rfl (v4a_one _ _ _ _ _) ?_) | ((go_at_call 81; refine (c4layout b A c B true _ (hR.below (hBW.mono hB)) hl).mono ?_; rintro e w1 ⟨rfl, rfl⟩; rw [hLV.out, ← HEE.out])))
    exact bodyPost_ret (res2 rfl rfl (run_loadVar_row _ _ _ 46 (v4a p4z none 0 none 0) _ _ (setRow_heap _ _ _ _ _ _ hg) Tryz.underlying46 rfl (by kernel_rfl))) rfl ⟨none, 0, none, 0, by rw [HV.out, HE.out]; rfl, by rw [HV.out]; exact Made.nil _ _ (below_row hBW (Nat.le_refl _)), by rw [HV.out]; exact Made.nil _ _ (below_row hBW (Nat.le_refl _))⟩
end
end Go.Proofs.YtpoigngpdcmipaaGreat
