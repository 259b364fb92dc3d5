/-
  Contracts of the document's Parse and Quoted of layer 6. Conditions are each theorem's own.
-/
import Derived.Test.YtcfcmnhnijjehaaV6O
namespace Go.Proofs.Ytcfcmnhnijjehaa
open Go.RowKit

section
variable (b : List UInt8) (A : Option Addr) (c : Nat) (w : World)
set_option maxRecDepth 100000 in
set_option maxHeartbeats 1000000 in
theorem r6parse (B : Nat) (hR : Arg w B A c b) (hB : B ≤ w.heap.size) (hl : b.length ≤ 1000000) :
    Calls Try.prog 42 #[.slice A b.length c] w fun e w' => ∃ P p, e = .returned (.tuple #[v6v (prs6 b false) P p, .int .i64 (bad6 b false)]) ∧ Made w w' (.slice P (prs6 b false).dat.length p) (prs6 b false).dat := by
  have hOR0 := OwnR.new w (v6a p6z none 0) 44
  obtain ⟨hqs, hqd⟩ := prs6_len b false
  have HQS := Lib.hid hqs; have HQD := Lib.hid hqd
  clear hqs hqd
  go_enter Try.func42, Try.ntmps42
  go_upto_region 1 with fail
  have hOR : OwnR w 44 37 (w.alloc (.cells #[.int .i64 0, .int .i64 0, .int .i64 0, .int .i64 0, .int .u8 0, .int .u8 0, .int .u8 0, .int .u8 0, .int .u8 0, .int .u8 0, .int .u8 0, .int .u8 0, .int .u8 0, .int .u8 0, .int .u8 0, .int .u8 0, .int .u8 0, .int .u8 0, .int .u8 0, .int .u8 0, .int .u8 0, .int .u8 0, .int .u8 0, .int .u8 0, .int .u8 0, .int .u8 0, .int .u8 0, .int .u8 0, .int .u8 0, .int .u8 0, .int .u8 0, .int .u8 0, .int .u8 0, .int .u8 0, .int .u8 0, .int .u8 0, .slice none 0 0] 44)) := hOR0
  clear hOR0
  generalize w.alloc (.cells #[.int .i64 0, .int .i64 0, .int .i64 0, .int .i64 0, .int .u8 0, .int .u8 0, .int .u8 0, .int .u8 0, .int .u8 0, .int .u8 0, .int .u8 0, .int .u8 0, .int .u8 0, .int .u8 0, .int .u8 0, .int .u8 0, .int .u8 0, .int .u8 0, .int .u8 0, .int .u8 0, .int .u8 0, .int .u8 0, .int .u8 0, .int .u8 0, .int .u8 0, .int .u8 0, .int .u8 0, .int .u8 0, .int .u8 0, .int .u8 0, .int .u8 0, .int .u8 0, .int .u8 0, .int .u8 0, .int .u8 0, .int .u8 0, .slice none 0 0] 44) = W at *
  have hlt := hOR.lt
  obtain ⟨q, hq⟩ : ∃ q, q = prs6 b false := ⟨_, rfl⟩
  rw [← hq] at HQS HQD
  have HQ := Lib.hid hq
  clear hq
  go_wp2_with (first
    | (go_at_call 68; refine (r6read b A c _ false B (hR.below (hOR.b.mono hB)) (Nat.le_trans hB hOR.b.size) hl).mono ?_; rintro e w1 ⟨P, p, rfl, m1⟩; rw [← HQ.out] at m1 ⊢; have hgo := (hOR.step m1.below).2; obtain ⟨old, hold, hgo⟩ := hgo)
    | ((with_reducible show wpList _ _ _ (Oper.mk _ (Op.store _ _ _) _ _ _ _ :: _) _ _); refine v6_store (g := w.heap.size) (cs := v6a q P p) rfl rfl hgo hold (by rw [v6a, List.size_toArray]; exact v6l_len HQS.out HQD.out) (v6a_one _ _ _) ?_))
  exact bodyPost_ret (res2 rfl rfl (run_loadVar_row _ _ _ 44 (v6a q P p) _ _ (setRow_heap _ _ _ _ _ _ hgo) Try.underlying44 rfl (by rw [v6a, List.size_toArray, v6l_len HQS.out HQD.out]; kernel_rfl))) rfl ⟨P, p, by rw [← HQ.out]; rfl, by rw [← HQ.out]; exact m1.row hOR.b hlt⟩
set_option maxRecDepth 100000 in
set_option maxHeartbeats 1000000 in
theorem r6quoted (B : Nat) (hR : Arg w B A c b) (hB : B ≤ w.heap.size) (hl : b.length ≤ 1000000) :
    Calls Try.prog 44 #[.slice A b.length c] w fun e w' => ∃ P p, e = .returned (.tuple #[v6v (prs6 b true) P p, .int .i64 (bad6 b true)]) ∧ Made w w' (.slice P (prs6 b true).dat.length p) (prs6 b true).dat := by
  have hOR0 := OwnR.new w (v6a p6z none 0) 44
  obtain ⟨hqs, hqd⟩ := prs6_len b true
  have HQS := Lib.hid hqs; have HQD := Lib.hid hqd
  clear hqs hqd
  go_enter Try.func44, Try.ntmps44
  go_upto_region 1 with fail
  have hOR : OwnR w 44 37 (w.alloc (.cells #[.int .i64 0, .int .i64 0, .int .i64 0, .int .i64 0, .int .u8 0, .int .u8 0, .int .u8 0, .int .u8 0, .int .u8 0, .int .u8 0, .int .u8 0, .int .u8 0, .int .u8 0, .int .u8 0, .int .u8 0, .int .u8 0, .int .u8 0, .int .u8 0, .int .u8 0, .int .u8 0, .int .u8 0, .int .u8 0, .int .u8 0, .int .u8 0, .int .u8 0, .int .u8 0, .int .u8 0, .int .u8 0, .int .u8 0, .int .u8 0, .int .u8 0, .int .u8 0, .int .u8 0, .int .u8 0, .int .u8 0, .int .u8 0, .slice none 0 0] 44)) := hOR0
  clear hOR0
  generalize w.alloc (.cells #[.int .i64 0, .int .i64 0, .int .i64 0, .int .i64 0, .int .u8 0, .int .u8 0, .int .u8 0, .int .u8 0, .int .u8 0, .int .u8 0, .int .u8 0, .int .u8 0, .int .u8 0, .int .u8 0, .int .u8 0, .int .u8 0, .int .u8 0, .int .u8 0, .int .u8 0, .int .u8 0, .int .u8 0, .int .u8 0, .int .u8 0, .int .u8 0, .int .u8 0, .int .u8 0, .int .u8 0, .int .u8 0, .int .u8 0, .int .u8 0, .int .u8 0, .int .u8 0, .int .u8 0, .int .u8 0, .int .u8 0, .int .u8 0, .slice none 0 0] 44) = W at *
  have hlt := hOR.lt
  obtain ⟨q, hq⟩ : ∃ q, q = prs6 b true := ⟨_, rfl⟩
  rw [← hq] at HQS HQD
  have HQ := Lib.hid hq
  clear hq
  go_wp2_with (first
    | (go_at_call 68; refine (r6read b A c _ true B (hR.below (hOR.b.mono hB)) (Nat.le_trans hB hOR.b.size) hl).mono ?_; rintro e w1 ⟨P, p, rfl, m1⟩; rw [← HQ.out] at m1 ⊢; have hgo := (hOR.step m1.below).2; obtain ⟨old, hold, hgo⟩ := hgo)
    | ((with_reducible show wpList _ _ _ (Oper.mk _ (Op.store _ _ _) _ _ _ _ :: _) _ _); refine v6_store (g := w.heap.size) (cs := v6a q P p) rfl rfl hgo hold (by rw [v6a, List.size_toArray]; exact v6l_len HQS.out HQD.out) (v6a_one _ _ _) ?_))
  exact bodyPost_ret (res2 rfl rfl (run_loadVar_row _ _ _ 44 (v6a q P p) _ _ (setRow_heap _ _ _ _ _ _ hgo) Try.underlying44 rfl (by rw [v6a, List.size_toArray, v6l_len HQS.out HQD.out]; kernel_rfl))) rfl ⟨P, p, by rw [← HQ.out]; rfl, by rw [← HQ.out]; exact m1.row hOR.b hlt⟩
end
end Go.Proofs.Ytcfcmnhnijjehaa
