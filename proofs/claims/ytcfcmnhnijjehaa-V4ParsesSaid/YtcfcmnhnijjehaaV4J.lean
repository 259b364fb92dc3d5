/-
  What layer 5's statement V4Back stands on besides: Right of the document's plain answers, of one. Conditions are each theorem's own.
-/
import Derived.Test.YtcfcmnhnijjehaaV4I
import Derived.Test.YtcfcmnhnijjehaaSumB
namespace Go.Proofs.Ytcfcmnhnijjehaa
open Go.RowKit

theorem rright_one (A : Option Addr) (bs : List UInt8) (c B : Nat) (w : World) (h : Rd2 w B A [bs]) (hl : bs.length ≤ 1099511627000) :
    Calls Try.prog 31 #[.slice A 1 c] w fun e w' => e = .returned (.bool (rightB [bs])) ∧ ∃ n, w' = w.drewN n :=
  rright_any A [bs] c B w h (by simpa [bulk] using hl) (by simp)
theorem back_head {q : P4} {H : Nat} (hH : H = 20 + q.opt.length) : (bld4 q).take H = hd4 q (size4 q) (sum4 q) := by
  have := back_take (q := q) (more := []) H hH
  rwa [List.append_nil] at this
end Go.Proofs.Ytcfcmnhnijjehaa
