/-
  No cell of these rows narrows 'for every input' (looked for: loops, veiled, ifaces, maps, wideKeys, modest, calm, conditions, laid).
  DERIVED. THE GIVEN ROWS OF THIS SEAT. 8 by the template 'for every input the law returns true; each argument reads behind the call as it read before'; 0 by the template 'total and deterministic' (their statements: YtkgbjohadkbjaaaTotals.lean).
  GIVEN WITH THE SEED: the statements are not yours to turn. If you find one false, say at which input.
  Laid BY PROGRAM, IN A SANDBOX (cutbox-rows.mjs): the forced cells as the released guide's own fill.sh prints them over the translation e7aa628f725716ce… (all of the seat's roots in one cut). By AI agents, Wed Nov 11 2026. No macro, syntax, notation, axiom, sorry.
-/
import Derived.Test.YtkgbjohadkbjaaaChecked
import GoSem.Claim
import GoSem.ClaimJoined
import GoSem.ClaimMapViews
import Derived.JoinedTies
import Derived.KernelRfl
namespace Go.Proofs.Ytkgbjohadkbjaaa
/- THE CELL 'sum', in the pinned program and in every row, IS THE sha256 OF THE DUMP (.gsa) THAT YtkgbjohadkbjaaaProg.lean LOADS. Nothing in Lean hashes anything: it is a label: what it is worth is what the hold of that sum in a sandbox is worth. -/
noncomputable def Try.pinned : Pinned := { name := "ytkgbjohadkbjaaa", sum := "e7aa628f725716ce6ab5da616716c21e659522301231db0a4fd2961ce7b4ee1a", checked := Try.checked }
namespace Rows
def none {H : Type} : Left H := { results := [], args := [] }

/-- 'goosepondlaw17.WheelOnce': WHATEVER THE INPUT: true; the input reads as it did. -/
def wheelOnceSpec : ChangeSpec := { name := "wheelOnce", fn := fun _ => fun
  | [d1, d2] => { results := [.lit (.bool true)], args := [d1, d2] }
  | _ => none }
def wheelOnceRow : OpenClaim := { program := "ytkgbjohadkbjaaa", sum := "e7aa628f725716ce6ab5da616716c21e659522301231db0a4fd2961ce7b4ee1a", func := "goosepond/goosepondlaw17.WheelOnce", spec := "wheelOnce", unfollowed := true, recurses := true, apart := false }
def WheelOnceSaid : Prop := wheelOnceRow.holds Try.pinned (OpenSpec.ofChange wheelOnceSpec)

/-- ITS FALSE NEIGHBOUR: 'it returns false'. Refute it at one input. -/
def wheelOnceWrong : ChangeSpec := { name := "wheelOnce", fn := fun _ => fun
  | [d1, d2] => { results := [.lit (.bool false)], args := [d1, d2] }
  | _ => none }
def WheelOnceWrongFalsely : Prop := wheelOnceRow.holds Try.pinned (OpenSpec.ofChange wheelOnceWrong)

/-- 'goosepondlaw17.WheelSteps': WHATEVER THE INPUT: true; the input reads as it did. -/
def wheelStepsSpec : ChangeSpec := { name := "wheelSteps", fn := fun _ => fun
  | [d1, d2] => { results := [.lit (.bool true)], args := [d1, d2] }
  | _ => none }
def wheelStepsRow : OpenClaim := { program := "ytkgbjohadkbjaaa", sum := "e7aa628f725716ce6ab5da616716c21e659522301231db0a4fd2961ce7b4ee1a", func := "goosepond/goosepondlaw17.WheelSteps", spec := "wheelSteps", unfollowed := true, recurses := true, apart := false }
def WheelStepsSaid : Prop := wheelStepsRow.holds Try.pinned (OpenSpec.ofChange wheelStepsSpec)

/-- ITS FALSE NEIGHBOUR: 'it returns false'. Refute it at one input. -/
def wheelStepsWrong : ChangeSpec := { name := "wheelSteps", fn := fun _ => fun
  | [d1, d2] => { results := [.lit (.bool false)], args := [d1, d2] }
  | _ => none }
def WheelStepsWrongFalsely : Prop := wheelStepsRow.holds Try.pinned (OpenSpec.ofChange wheelStepsWrong)

/-- 'goosepondlaw25.FilterTells': WHATEVER THE INPUT: true; the input reads as it did. -/
def filterTellsSpec : ChangeSpec := { name := "filterTells", fn := fun _ => fun
  | [d1, d2, d3] => { results := [.lit (.bool true)], args := [d1, d2, d3] }
  | _ => none }
def filterTellsRow : OpenClaim := { program := "ytkgbjohadkbjaaa", sum := "e7aa628f725716ce6ab5da616716c21e659522301231db0a4fd2961ce7b4ee1a", func := "goosepond/goosepondlaw25.FilterTells", spec := "filterTells", unfollowed := true, recurses := true, apart := false }
def FilterTellsSaid : Prop := filterTellsRow.holds Try.pinned (OpenSpec.ofChange filterTellsSpec)

/-- ITS FALSE NEIGHBOUR: 'it returns false'. Refute it at one input. -/
def filterTellsWrong : ChangeSpec := { name := "filterTells", fn := fun _ => fun
  | [d1, d2, d3] => { results := [.lit (.bool false)], args := [d1, d2, d3] }
  | _ => none }
def FilterTellsWrongFalsely : Prop := filterTellsRow.holds Try.pinned (OpenSpec.ofChange filterTellsWrong)

/-- 'goosepondlaw25.FilterOrders': WHATEVER THE INPUT: true; the input reads as it did. -/
def filterOrdersSpec : ChangeSpec := { name := "filterOrders", fn := fun _ => fun
  | [d1, d2] => { results := [.lit (.bool true)], args := [d1, d2] }
  | _ => none }
def filterOrdersRow : OpenClaim := { program := "ytkgbjohadkbjaaa", sum := "e7aa628f725716ce6ab5da616716c21e659522301231db0a4fd2961ce7b4ee1a", func := "goosepond/goosepondlaw25.FilterOrders", spec := "filterOrders", unfollowed := true, recurses := true, apart := false }
def FilterOrdersSaid : Prop := filterOrdersRow.holds Try.pinned (OpenSpec.ofChange filterOrdersSpec)

/-- ITS FALSE NEIGHBOUR: 'it returns false'. Refute it at one input. -/
def filterOrdersWrong : ChangeSpec := { name := "filterOrders", fn := fun _ => fun
  | [d1, d2] => { results := [.lit (.bool false)], args := [d1, d2] }
  | _ => none }
def FilterOrdersWrongFalsely : Prop := filterOrdersRow.holds Try.pinned (OpenSpec.ofChange filterOrdersWrong)

/-- 'goosepondlaw26.QuoteTells': WHATEVER THE INPUT: true; the input reads as it did. -/
def quoteTellsSpec : ChangeSpec := { name := "quoteTells", fn := fun _ => fun
  | [d1, d2, d3] => { results := [.lit (.bool true)], args := [d1, d2, d3] }
  | _ => none }
def quoteTellsRow : OpenClaim := { program := "ytkgbjohadkbjaaa", sum := "e7aa628f725716ce6ab5da616716c21e659522301231db0a4fd2961ce7b4ee1a", func := "goosepond/goosepondlaw26.QuoteTells", spec := "quoteTells", unfollowed := true, recurses := true, apart := false }
def QuoteTellsSaid : Prop := quoteTellsRow.holds Try.pinned (OpenSpec.ofChange quoteTellsSpec)

/-- ITS FALSE NEIGHBOUR: 'it returns false'. Refute it at one input. -/
def quoteTellsWrong : ChangeSpec := { name := "quoteTells", fn := fun _ => fun
  | [d1, d2, d3] => { results := [.lit (.bool false)], args := [d1, d2, d3] }
  | _ => none }
def QuoteTellsWrongFalsely : Prop := quoteTellsRow.holds Try.pinned (OpenSpec.ofChange quoteTellsWrong)

/-- 'goosepondlaw26.QuoteMessages': WHATEVER THE INPUT: true; the input reads as it did. -/
def quoteMessagesSpec : ChangeSpec := { name := "quoteMessages", fn := fun _ => fun
  | [d1, d2, d3, d4] => { results := [.lit (.bool true)], args := [d1, d2, d3, d4] }
  | _ => none }
def quoteMessagesRow : OpenClaim := { program := "ytkgbjohadkbjaaa", sum := "e7aa628f725716ce6ab5da616716c21e659522301231db0a4fd2961ce7b4ee1a", func := "goosepond/goosepondlaw26.QuoteMessages", spec := "quoteMessages", unfollowed := true, recurses := true, apart := false }
def QuoteMessagesSaid : Prop := quoteMessagesRow.holds Try.pinned (OpenSpec.ofChange quoteMessagesSpec)

/-- ITS FALSE NEIGHBOUR: 'it returns false'. Refute it at one input. -/
def quoteMessagesWrong : ChangeSpec := { name := "quoteMessages", fn := fun _ => fun
  | [d1, d2, d3, d4] => { results := [.lit (.bool false)], args := [d1, d2, d3, d4] }
  | _ => none }
def QuoteMessagesWrongFalsely : Prop := quoteMessagesRow.holds Try.pinned (OpenSpec.ofChange quoteMessagesWrong)

/-- 'goosepondlaw26.QuotePorts': WHATEVER THE INPUT: true; the input reads as it did. -/
def quotePortsSpec : ChangeSpec := { name := "quotePorts", fn := fun _ => fun
  | [d1, d2, d3] => { results := [.lit (.bool true)], args := [d1, d2, d3] }
  | _ => none }
def quotePortsRow : OpenClaim := { program := "ytkgbjohadkbjaaa", sum := "e7aa628f725716ce6ab5da616716c21e659522301231db0a4fd2961ce7b4ee1a", func := "goosepond/goosepondlaw26.QuotePorts", spec := "quotePorts", unfollowed := true, recurses := true, apart := false }
def QuotePortsSaid : Prop := quotePortsRow.holds Try.pinned (OpenSpec.ofChange quotePortsSpec)

/-- ITS FALSE NEIGHBOUR: 'it returns false'. Refute it at one input. -/
def quotePortsWrong : ChangeSpec := { name := "quotePorts", fn := fun _ => fun
  | [d1, d2, d3] => { results := [.lit (.bool false)], args := [d1, d2, d3] }
  | _ => none }
def QuotePortsWrongFalsely : Prop := quotePortsRow.holds Try.pinned (OpenSpec.ofChange quotePortsWrong)

/-- 'goosepondlaw26.QuoteSums': WHATEVER THE INPUT: true; the input reads as it did. -/
def quoteSumsSpec : ChangeSpec := { name := "quoteSums", fn := fun _ => fun
  | [d1, d2, d3, d4] => { results := [.lit (.bool true)], args := [d1, d2, d3, d4] }
  | _ => none }
def quoteSumsRow : OpenClaim := { program := "ytkgbjohadkbjaaa", sum := "e7aa628f725716ce6ab5da616716c21e659522301231db0a4fd2961ce7b4ee1a", func := "goosepond/goosepondlaw26.QuoteSums", spec := "quoteSums", unfollowed := true, recurses := true, apart := false }
def QuoteSumsSaid : Prop := quoteSumsRow.holds Try.pinned (OpenSpec.ofChange quoteSumsSpec)

/-- ITS FALSE NEIGHBOUR: 'it returns false'. Refute it at one input. -/
def quoteSumsWrong : ChangeSpec := { name := "quoteSums", fn := fun _ => fun
  | [d1, d2, d3, d4] => { results := [.lit (.bool false)], args := [d1, d2, d3, d4] }
  | _ => none }
def QuoteSumsWrongFalsely : Prop := quoteSumsRow.holds Try.pinned (OpenSpec.ofChange quoteSumsWrong)

/- THE SECOND FORM. 'bulk': how many values and letters a reading holds, each counted each time it is reached (what is shared counts as often as it is met; a slice's spare places count too). A statement '..UptoSaid' is the law's where the arguments, and the package variables that the reading takes, are together of bulk at most 1048576: NARROWER than '..Said'. Prove '..Said' where nothing that the law and all that it calls make is longer than what came in: it says more and counts as full. Else prove '..UptoSaid'. A law counts once. -/
mutual
def uptoBulk {H : Type} : DataW H → Nat
  | .lit (.string bytes) => bytes.length + 1
  | .lit _ => 1
  | .nil => 1
  | .ptr d => uptoBulk d + 1
  | .slice elems spare => uptoBulkAll elems + uptoBulkAll spare + 1
  | .agg parts => uptoBulkAll parts + 1
  | .iface _ d => uptoBulk d + 1
  | .map entries => uptoBulkEntries entries + 1
  | .held _ => 1
def uptoBulkAll {H : Type} : List (DataW H) → Nat
  | [] => 0
  | d :: r => uptoBulk d + uptoBulkAll r
def uptoBulkEntries {H : Type} : List (Lit × DataW H) → Nat
  | [] => 0
  | x :: r => uptoBulkEntry x + uptoBulkEntries r
def uptoBulkEntry {H : Type} : Lit × DataW H → Nat
  | (.string bytes, d) => bytes.length + uptoBulk d + 1
  | (_, d) => uptoBulk d + 1
 end
def uptoSmall : (H : Type) → List (DataW H) → Bool := fun _ ds => decide (uptoBulkAll ds ≤ 1048576)
def OpenSpec.upto (s : _root_.Go.ChangeSpec) : _root_.Go.OpenSpec := { _root_.Go.OpenSpec.ofChange s with cond := some uptoSmall }

/-- 'goosepondlaw17.WheelOnce', WHERE WHAT IT READS IS OF BULK AT MOST 1048576: true; the input reads as it did. -/
def wheelOnceUptoRow : OpenClaim := { program := "ytkgbjohadkbjaaa", sum := "e7aa628f725716ce6ab5da616716c21e659522301231db0a4fd2961ce7b4ee1a", func := "goosepond/goosepondlaw17.WheelOnce", spec := "wheelOnce", unfollowed := true, recurses := true, apart := false, narrowed := true }
def WheelOnceUptoSaid : Prop := wheelOnceUptoRow.holds Try.pinned (OpenSpec.upto wheelOnceSpec)

/-- 'goosepondlaw17.WheelSteps', WHERE WHAT IT READS IS OF BULK AT MOST 1048576: true; the input reads as it did. -/
def wheelStepsUptoRow : OpenClaim := { program := "ytkgbjohadkbjaaa", sum := "e7aa628f725716ce6ab5da616716c21e659522301231db0a4fd2961ce7b4ee1a", func := "goosepond/goosepondlaw17.WheelSteps", spec := "wheelSteps", unfollowed := true, recurses := true, apart := false, narrowed := true }
def WheelStepsUptoSaid : Prop := wheelStepsUptoRow.holds Try.pinned (OpenSpec.upto wheelStepsSpec)

/-- 'goosepondlaw25.FilterTells', WHERE WHAT IT READS IS OF BULK AT MOST 1048576: true; the input reads as it did. -/
def filterTellsUptoRow : OpenClaim := { program := "ytkgbjohadkbjaaa", sum := "e7aa628f725716ce6ab5da616716c21e659522301231db0a4fd2961ce7b4ee1a", func := "goosepond/goosepondlaw25.FilterTells", spec := "filterTells", unfollowed := true, recurses := true, apart := false, narrowed := true }
def FilterTellsUptoSaid : Prop := filterTellsUptoRow.holds Try.pinned (OpenSpec.upto filterTellsSpec)

/-- 'goosepondlaw25.FilterOrders', WHERE WHAT IT READS IS OF BULK AT MOST 1048576: true; the input reads as it did. -/
def filterOrdersUptoRow : OpenClaim := { program := "ytkgbjohadkbjaaa", sum := "e7aa628f725716ce6ab5da616716c21e659522301231db0a4fd2961ce7b4ee1a", func := "goosepond/goosepondlaw25.FilterOrders", spec := "filterOrders", unfollowed := true, recurses := true, apart := false, narrowed := true }
def FilterOrdersUptoSaid : Prop := filterOrdersUptoRow.holds Try.pinned (OpenSpec.upto filterOrdersSpec)

/-- 'goosepondlaw26.QuoteTells', WHERE WHAT IT READS IS OF BULK AT MOST 1048576: true; the input reads as it did. -/
def quoteTellsUptoRow : OpenClaim := { program := "ytkgbjohadkbjaaa", sum := "e7aa628f725716ce6ab5da616716c21e659522301231db0a4fd2961ce7b4ee1a", func := "goosepond/goosepondlaw26.QuoteTells", spec := "quoteTells", unfollowed := true, recurses := true, apart := false, narrowed := true }
def QuoteTellsUptoSaid : Prop := quoteTellsUptoRow.holds Try.pinned (OpenSpec.upto quoteTellsSpec)

/-- 'goosepondlaw26.QuoteMessages', WHERE WHAT IT READS IS OF BULK AT MOST 1048576: true; the input reads as it did. -/
def quoteMessagesUptoRow : OpenClaim := { program := "ytkgbjohadkbjaaa", sum := "e7aa628f725716ce6ab5da616716c21e659522301231db0a4fd2961ce7b4ee1a", func := "goosepond/goosepondlaw26.QuoteMessages", spec := "quoteMessages", unfollowed := true, recurses := true, apart := false, narrowed := true }
def QuoteMessagesUptoSaid : Prop := quoteMessagesUptoRow.holds Try.pinned (OpenSpec.upto quoteMessagesSpec)

/-- 'goosepondlaw26.QuotePorts', WHERE WHAT IT READS IS OF BULK AT MOST 1048576: true; the input reads as it did. -/
def quotePortsUptoRow : OpenClaim := { program := "ytkgbjohadkbjaaa", sum := "e7aa628f725716ce6ab5da616716c21e659522301231db0a4fd2961ce7b4ee1a", func := "goosepond/goosepondlaw26.QuotePorts", spec := "quotePorts", unfollowed := true, recurses := true, apart := false, narrowed := true }
def QuotePortsUptoSaid : Prop := quotePortsUptoRow.holds Try.pinned (OpenSpec.upto quotePortsSpec)

/-- 'goosepondlaw26.QuoteSums', WHERE WHAT IT READS IS OF BULK AT MOST 1048576: true; the input reads as it did. -/
def quoteSumsUptoRow : OpenClaim := { program := "ytkgbjohadkbjaaa", sum := "e7aa628f725716ce6ab5da616716c21e659522301231db0a4fd2961ce7b4ee1a", func := "goosepond/goosepondlaw26.QuoteSums", spec := "quoteSums", unfollowed := true, recurses := true, apart := false, narrowed := true }
def QuoteSumsUptoSaid : Prop := quoteSumsUptoRow.holds Try.pinned (OpenSpec.upto quoteSumsSpec)

end Rows
end Go.Proofs.Ytkgbjohadkbjaaa
