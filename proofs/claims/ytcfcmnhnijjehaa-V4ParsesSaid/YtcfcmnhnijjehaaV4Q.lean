/-
  Contracts of the document's plain answers of layer 5: Parse, Quoted. Conditions are each theorem's own.
-/
import Derived.Test.YtcfcmnhnijjehaaV4O
namespace Go.Proofs.Ytcfcmnhnijjehaa
open Go.RowKit

section
variable (b : List UInt8) (A : Option Addr) (c : Nat) (w : World)
set_option maxRecDepth 100000 in
set_option maxHeartbeats 1000000 in
theorem r5parse (B : Nat) (hR : Arg w B A c b) (hB : B ≤ w.heap.size) (hl : b.length ≤ 1000000) :
    Calls Try.prog 27 #[.slice A b.length c] w fun e w' => ∃ P p P' p', e = .returned (.tuple #[v4v (prsV b false) P p P' p', .int .i64 (prsE b false)]) ∧ Made w w' (.slice P (prsV b false).opt.length p) (prsV b false).opt ∧ Made w w' (.slice P' (prsV b false).dat.length p') (prsV b false).dat := by
  have hBW : Below w.heap.size w (w.alloc (.cells (v4a p4z none 0 none 0) 24)) := (Below.refl w.heap.size w).alloc (Nat.le_refl _) _
  have hg := World.alloc_heap_new w (.cells (v4a p4z none 0 none 0) 24)
  have hz : w.heap.size < (w.alloc (.cells (v4a p4z none 0 none 0) 24)).heap.size := by simp
  obtain ⟨q, hq⟩ : ∃ q, q = prsV b false := ⟨_, rfl⟩
  obtain ⟨E, hE⟩ : ∃ q, q = prsE b false := ⟨_, rfl⟩
  rw [← hq, ← hE]
  go_enter Try.func27, Try.ntmps27
  go_upto_region 1 with fail
  rw [show #[.int .i64 0, .int .i64 0, .int .i64 0, .int .i64 0, .int .i64 0, .int .i64 0, .int .i64 0, .bool false, .bool false, .slice none 0 0, .slice none 0 0] = v4a p4z none 0 none 0 from rfl]
  generalize w.alloc (.cells (v4a p4z none 0 none 0) 24) = W at *
  have HQ := Lib.hid hq
  have HE := Lib.hid hE
  clear hq hE
  go_wp2_with (first
    | (go_at_call 61; refine (r5read b A c _ B false (hR.below (hBW.mono hB)) (Nat.le_trans hB hBW.size) hl).mono ?_; rintro e w3 ⟨P, p, P', p', rfl, mo, md⟩; rw [← HQ.out] at mo md; rw [← HQ.out, ← HE.out]; have hg4 := (mo.below.block _ hz).trans hg)
    | ((with_reducible show wpList _ _ _ (Oper.mk _ (Op.store _ _ _) _ _ _ _ :: _) _ _); refine v4_store (g := w.heap.size) (cs := v4a q P p P' p') rfl rfl hg4 rfl rfl (v4a_one _ _ _ _ _) ?_))
  exact bodyPost_ret (res2 rfl rfl (run_loadVar_row _ _ _ 24 (v4a q P p P' p') _ _ (setRow_heap _ _ _ _ _ _ hg4) Try.underlying24 rfl (by kernel_rfl))) rfl ⟨P, p, P', p', rfl, mo.row hBW hz, md.row hBW hz⟩
set_option maxRecDepth 100000 in
set_option maxHeartbeats 1000000 in
theorem r5quoted (B : Nat) (hR : Arg w B A c b) (hB : B ≤ w.heap.size) (hl : b.length ≤ 1000000) :
    Calls Try.prog 29 #[.slice A b.length c] w fun e w' => ∃ P p P' p', e = .returned (.tuple #[v4v (prsV b true) P p P' p', .int .i64 (prsE b true)]) ∧ Made w w' (.slice P (prsV b true).opt.length p) (prsV b true).opt ∧ Made w w' (.slice P' (prsV b true).dat.length p') (prsV b true).dat := by
  have hBW : Below w.heap.size w (w.alloc (.cells (v4a p4z none 0 none 0) 24)) := (Below.refl w.heap.size w).alloc (Nat.le_refl _) _
  have hg := World.alloc_heap_new w (.cells (v4a p4z none 0 none 0) 24)
  have hz : w.heap.size < (w.alloc (.cells (v4a p4z none 0 none 0) 24)).heap.size := by simp
  obtain ⟨q, hq⟩ : ∃ q, q = prsV b true := ⟨_, rfl⟩
  obtain ⟨E, hE⟩ : ∃ q, q = prsE b true := ⟨_, rfl⟩
  rw [← hq, ← hE]
  go_enter Try.func29, Try.ntmps29
  go_upto_region 1 with fail
  rw [show #[.int .i64 0, .int .i64 0, .int .i64 0, .int .i64 0, .int .i64 0, .int .i64 0, .int .i64 0, .bool false, .bool false, .slice none 0 0, .slice none 0 0] = v4a p4z none 0 none 0 from rfl]
  generalize w.alloc (.cells (v4a p4z none 0 none 0) 24) = W at *
  have HQ := Lib.hid hq
  have HE := Lib.hid hE
  clear hq hE
  go_wp2_with (first
    | (go_at_call 61; refine (r5read b A c _ B true (hR.below (hBW.mono hB)) (Nat.le_trans hB hBW.size) hl).mono ?_; rintro e w3 ⟨P, p, P', p', rfl, mo, md⟩; rw [← HQ.out] at mo md; rw [← HQ.out, ← HE.out]; have hg4 := (mo.below.block _ hz).trans hg)
    | ((with_reducible show wpList _ _ _ (Oper.mk _ (Op.store _ _ _) _ _ _ _ :: _) _ _); refine v4_store (g := w.heap.size) (cs := v4a q P p P' p') rfl rfl hg4 rfl rfl (v4a_one _ _ _ _ _) ?_))
  exact bodyPost_ret (res2 rfl rfl (run_loadVar_row _ _ _ 24 (v4a q P p P' p') _ _ (setRow_heap _ _ _ _ _ _ hg4) Try.underlying24 rfl (by kernel_rfl))) rfl ⟨P, p, P', p', rfl, mo.row hBW hz, md.row hBW hz⟩
end
theorem r5same_arr (q r : P4) (A : Option Addr) (c : Nat) (A' : Option Addr) (c' : Nat) (X : Option Addr) (d : Nat) (X' : Option Addr) (d' B : Nat) (w : World) (hB : B ≤ w.heap.size)
    (hA : Rd w B A q.opt) (hA' : Rd w B A' q.dat) (hX : Rd w B X r.opt) (hX' : Rd w B X' r.dat) :
    Calls Try.prog 25 #[.agg (v4a q A c A' c'), .agg (v4a r X d X' d')] w fun e w' => e = .returned (.bool (same4 q r)) ∧ Below w.heap.size w w' := r5same q r A c A' c' X d X' d' B w hB hA hA' hX hX'
end Go.Proofs.Ytcfcmnhnijjehaa
