/-
  No cell of these rows narrows 'for every input' (looked for: loops, veiled, ifaces, maps, wideKeys, modest, calm, conditions, laid).
  DERIVED. THE GIVEN ROWS OF THIS SEAT. 4 by the template 'for every input the law returns true; each argument reads behind the call as it read before'; 0 by the template 'total and deterministic' (their statements: YtjgcpaepaocigaaTotals.lean).
  GIVEN WITH THE SEED: the statements are not yours to turn. If you find one false, say at which input.
  Laid BY PROGRAM, IN A SANDBOX (cutbox-rows.mjs): the forced cells as the released guide's own fill.sh prints them over the translation 7956bdd2a01f9dae… (all of the seat's roots in one cut). By AI agents, Wed Nov 11 2026. No macro, syntax, notation, axiom, sorry.
-/
import Derived.Test.YtjgcpaepaocigaaChecked
import GoSem.Claim
import GoSem.ClaimJoined
import GoSem.ClaimMapViews
import Derived.JoinedTies
import Derived.KernelRfl
namespace Go.Proofs.Ytjgcpaepaocigaa
/- THE CELL 'sum', in the pinned program and in every row, IS THE sha256 OF THE DUMP (.gsa) THAT YtjgcpaepaocigaaProg.lean LOADS. Nothing in Lean hashes anything: it is a label: what it is worth is what the hold of that sum in a sandbox is worth. -/
noncomputable def Try.pinned : Pinned := { name := "ytjgcpaepaocigaa", sum := "7956bdd2a01f9daecc3c5760240edf13de6fce441414dcec8104d10341a22273", checked := Try.checked }
namespace Rows
def none {H : Type} : Left H := { results := [], args := [] }

/-- 'goosepondlaw17.WheelSteps': WHATEVER THE INPUT: true; the input reads as it did. -/
def wheelStepsSpec : ChangeSpec := { name := "wheelSteps", fn := fun _ => fun
  | [d1, d2] => { results := [.lit (.bool true)], args := [d1, d2] }
  | _ => none }
def wheelStepsRow : OpenClaim := { program := "ytjgcpaepaocigaa", sum := "7956bdd2a01f9daecc3c5760240edf13de6fce441414dcec8104d10341a22273", func := "goosepond/goosepondlaw17.WheelSteps", spec := "wheelSteps", unfollowed := true, recurses := true, apart := false }
def WheelStepsSaid : Prop := wheelStepsRow.holds Try.pinned (OpenSpec.ofChange wheelStepsSpec)

/-- ITS FALSE NEIGHBOUR: 'it returns false'. Refute it at one input. -/
def wheelStepsWrong : ChangeSpec := { name := "wheelSteps", fn := fun _ => fun
  | [d1, d2] => { results := [.lit (.bool false)], args := [d1, d2] }
  | _ => none }
def WheelStepsWrongFalsely : Prop := wheelStepsRow.holds Try.pinned (OpenSpec.ofChange wheelStepsWrong)

/-- 'goosepondlaw28.ErrsMake': WHATEVER THE INPUT: true; the input reads as it did. -/
def errsMakeSpec : ChangeSpec := { name := "errsMake", fn := fun _ => fun
  | [d1, d2, d3, d4, d5] => { results := [.lit (.bool true)], args := [d1, d2, d3, d4, d5] }
  | _ => none }
def errsMakeRow : OpenClaim := { program := "ytjgcpaepaocigaa", sum := "7956bdd2a01f9daecc3c5760240edf13de6fce441414dcec8104d10341a22273", func := "goosepond/goosepondlaw28.ErrsMake", spec := "errsMake", unfollowed := true, recurses := true, apart := false }
def ErrsMakeSaid : Prop := errsMakeRow.holds Try.pinned (OpenSpec.ofChange errsMakeSpec)

/-- ITS FALSE NEIGHBOUR: 'it returns false'. Refute it at one input. -/
def errsMakeWrong : ChangeSpec := { name := "errsMake", fn := fun _ => fun
  | [d1, d2, d3, d4, d5] => { results := [.lit (.bool false)], args := [d1, d2, d3, d4, d5] }
  | _ => none }
def ErrsMakeWrongFalsely : Prop := errsMakeRow.holds Try.pinned (OpenSpec.ofChange errsMakeWrong)

/-- 'goosepondlaw28.ErrsOnce': WHATEVER THE INPUT: true; the input reads as it did. -/
def errsOnceSpec : ChangeSpec := { name := "errsOnce", fn := fun _ => fun
  | [d1, d2, d3, d4, d5] => { results := [.lit (.bool true)], args := [d1, d2, d3, d4, d5] }
  | _ => none }
def errsOnceRow : OpenClaim := { program := "ytjgcpaepaocigaa", sum := "7956bdd2a01f9daecc3c5760240edf13de6fce441414dcec8104d10341a22273", func := "goosepond/goosepondlaw28.ErrsOnce", spec := "errsOnce", unfollowed := true, recurses := true, apart := false }
def ErrsOnceSaid : Prop := errsOnceRow.holds Try.pinned (OpenSpec.ofChange errsOnceSpec)

/-- ITS FALSE NEIGHBOUR: 'it returns false'. Refute it at one input. -/
def errsOnceWrong : ChangeSpec := { name := "errsOnce", fn := fun _ => fun
  | [d1, d2, d3, d4, d5] => { results := [.lit (.bool false)], args := [d1, d2, d3, d4, d5] }
  | _ => none }
def ErrsOnceWrongFalsely : Prop := errsOnceRow.holds Try.pinned (OpenSpec.ofChange errsOnceWrong)

/-- 'goosepondlaw28.ErrsQuote': WHATEVER THE INPUT: true; the input reads as it did. -/
def errsQuoteSpec : ChangeSpec := { name := "errsQuote", fn := fun _ => fun
  | [d1, d2, d3, d4] => { results := [.lit (.bool true)], args := [d1, d2, d3, d4] }
  | _ => none }
def errsQuoteRow : OpenClaim := { program := "ytjgcpaepaocigaa", sum := "7956bdd2a01f9daecc3c5760240edf13de6fce441414dcec8104d10341a22273", func := "goosepond/goosepondlaw28.ErrsQuote", spec := "errsQuote", unfollowed := true, recurses := true, apart := false }
def ErrsQuoteSaid : Prop := errsQuoteRow.holds Try.pinned (OpenSpec.ofChange errsQuoteSpec)

/-- ITS FALSE NEIGHBOUR: 'it returns false'. Refute it at one input. -/
def errsQuoteWrong : ChangeSpec := { name := "errsQuote", fn := fun _ => fun
  | [d1, d2, d3, d4] => { results := [.lit (.bool false)], args := [d1, d2, d3, d4] }
  | _ => none }
def ErrsQuoteWrongFalsely : Prop := errsQuoteRow.holds Try.pinned (OpenSpec.ofChange errsQuoteWrong)

/- THE SECOND FORM. 'bulk': how many values and letters a reading holds, each counted each time it is reached (what is shared counts as often as it is met; a slice's spare places count too). A statement '..UptoSaid' is the law's where the arguments, and the package variables that the reading takes, are together of bulk at most 1048576: NARROWER than '..Said'. Prove '..Said' where nothing that the law and all that it calls make is longer than what came in: it says more and counts as full. Else prove '..UptoSaid'. A law counts once. -/
mutual
def uptoBulk {H : Type} : DataW H → Nat
  | .lit (.string bytes) => bytes.length + 1
  | .lit _ => 1
  | .nil => 1
  | .ptr d => uptoBulk d + 1
  | .slice elems spare => uptoBulkAll elems + uptoBulkAll spare + 1
  | .agg parts => uptoBulkAll parts + 1
  | .iface _ d => uptoBulk d + 1
  | .map entries => uptoBulkEntries entries + 1
  | .held _ => 1
def uptoBulkAll {H : Type} : List (DataW H) → Nat
  | [] => 0
  | d :: r => uptoBulk d + uptoBulkAll r
def uptoBulkEntries {H : Type} : List (Lit × DataW H) → Nat
  | [] => 0
  | x :: r => uptoBulkEntry x + uptoBulkEntries r
def uptoBulkEntry {H : Type} : Lit × DataW H → Nat
  | (.string bytes, d) => bytes.length + uptoBulk d + 1
  | (_, d) => uptoBulk d + 1
 end
def uptoSmall : (H : Type) → List (DataW H) → Bool := fun _ ds => decide (uptoBulkAll ds ≤ 1048576)
def OpenSpec.upto (s : _root_.Go.ChangeSpec) : _root_.Go.OpenSpec := { _root_.Go.OpenSpec.ofChange s with cond := some uptoSmall }

/-- 'goosepondlaw17.WheelSteps', WHERE WHAT IT READS IS OF BULK AT MOST 1048576: true; the input reads as it did. -/
def wheelStepsUptoRow : OpenClaim := { program := "ytjgcpaepaocigaa", sum := "7956bdd2a01f9daecc3c5760240edf13de6fce441414dcec8104d10341a22273", func := "goosepond/goosepondlaw17.WheelSteps", spec := "wheelSteps", unfollowed := true, recurses := true, apart := false, narrowed := true }
def WheelStepsUptoSaid : Prop := wheelStepsUptoRow.holds Try.pinned (OpenSpec.upto wheelStepsSpec)

/-- 'goosepondlaw28.ErrsMake', WHERE WHAT IT READS IS OF BULK AT MOST 1048576: true; the input reads as it did. -/
def errsMakeUptoRow : OpenClaim := { program := "ytjgcpaepaocigaa", sum := "7956bdd2a01f9daecc3c5760240edf13de6fce441414dcec8104d10341a22273", func := "goosepond/goosepondlaw28.ErrsMake", spec := "errsMake", unfollowed := true, recurses := true, apart := false, narrowed := true }
def ErrsMakeUptoSaid : Prop := errsMakeUptoRow.holds Try.pinned (OpenSpec.upto errsMakeSpec)

/-- 'goosepondlaw28.ErrsOnce', WHERE WHAT IT READS IS OF BULK AT MOST 1048576: true; the input reads as it did. -/
def errsOnceUptoRow : OpenClaim := { program := "ytjgcpaepaocigaa", sum := "7956bdd2a01f9daecc3c5760240edf13de6fce441414dcec8104d10341a22273", func := "goosepond/goosepondlaw28.ErrsOnce", spec := "errsOnce", unfollowed := true, recurses := true, apart := false, narrowed := true }
def ErrsOnceUptoSaid : Prop := errsOnceUptoRow.holds Try.pinned (OpenSpec.upto errsOnceSpec)

/-- 'goosepondlaw28.ErrsQuote', WHERE WHAT IT READS IS OF BULK AT MOST 1048576: true; the input reads as it did. -/
def errsQuoteUptoRow : OpenClaim := { program := "ytjgcpaepaocigaa", sum := "7956bdd2a01f9daecc3c5760240edf13de6fce441414dcec8104d10341a22273", func := "goosepond/goosepondlaw28.ErrsQuote", spec := "errsQuote", unfollowed := true, recurses := true, apart := false, narrowed := true }
def ErrsQuoteUptoSaid : Prop := errsQuoteUptoRow.holds Try.pinned (OpenSpec.upto errsQuoteSpec)

end Rows
end Go.Proofs.Ytjgcpaepaocigaa
