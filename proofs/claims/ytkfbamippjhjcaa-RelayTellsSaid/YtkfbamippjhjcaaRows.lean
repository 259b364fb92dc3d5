/-
  No cell of these rows narrows 'for every input' (looked for: loops, veiled, ifaces, maps, wideKeys, modest, calm, conditions, laid).
  DERIVED. THE GIVEN ROWS OF THIS SEAT. 6 by the template 'for every input the law returns true; each argument reads behind the call as it read before'; 0 by the template 'total and deterministic' (their statements: YtkfbamippjhjcaaTotals.lean).
  GIVEN WITH THE SEED: the statements are not yours to turn. If you find one false, say at which input.
  Laid BY PROGRAM, IN A SANDBOX (cutbox-rows.mjs): the forced cells as the released guide's own fill.sh prints them over the translation fe92d20880d15d28… (all of the seat's roots in one cut). By AI agents, Wed Nov 11 2026. No macro, syntax, notation, axiom, sorry.
-/
import Derived.Test.YtkfbamippjhjcaaChecked
import GoSem.Claim
import GoSem.ClaimJoined
import GoSem.ClaimMapViews
import Derived.JoinedTies
import Derived.KernelRfl
namespace Go.Proofs.Ytkfbamippjhjcaa
/- THE CELL 'sum', in the pinned program and in every row, IS THE sha256 OF THE DUMP (.gsa) THAT YtkfbamippjhjcaaProg.lean LOADS. Nothing in Lean hashes anything: it is a label: what it is worth is what the hold of that sum in a sandbox is worth. -/
noncomputable def Try.pinned : Pinned := { name := "ytkfbamippjhjcaa", sum := "fe92d20880d15d2825a137986783db503e758658edcc5aaa86e05c5a63a2da66", checked := Try.checked }
namespace Rows
def none {H : Type} : Left H := { results := [], args := [] }

/-- 'goosepondlaw29.WrapTells': WHATEVER THE INPUT: true; the input reads as it did. -/
def wrapTellsSpec : ChangeSpec := { name := "wrapTells", fn := fun _ => fun
  | [d1, d2, d3, d4, d5, d6] => { results := [.lit (.bool true)], args := [d1, d2, d3, d4, d5, d6] }
  | _ => none }
def wrapTellsRow : OpenClaim := { program := "ytkfbamippjhjcaa", sum := "fe92d20880d15d2825a137986783db503e758658edcc5aaa86e05c5a63a2da66", func := "goosepond/goosepondlaw29.WrapTells", spec := "wrapTells", apart := false }
def WrapTellsSaid : Prop := wrapTellsRow.holds Try.pinned (OpenSpec.ofChange wrapTellsSpec)

/-- ITS FALSE NEIGHBOUR: 'it returns false'. Refute it at one input. -/
def wrapTellsWrong : ChangeSpec := { name := "wrapTells", fn := fun _ => fun
  | [d1, d2, d3, d4, d5, d6] => { results := [.lit (.bool false)], args := [d1, d2, d3, d4, d5, d6] }
  | _ => none }
def WrapTellsWrongFalsely : Prop := wrapTellsRow.holds Try.pinned (OpenSpec.ofChange wrapTellsWrong)

/-- 'goosepondlaw29.WrapBack': WHATEVER THE INPUT: true; the input reads as it did. -/
def wrapBackSpec : ChangeSpec := { name := "wrapBack", fn := fun _ => fun
  | [d1, d2, d3, d4] => { results := [.lit (.bool true)], args := [d1, d2, d3, d4] }
  | _ => none }
def wrapBackRow : OpenClaim := { program := "ytkfbamippjhjcaa", sum := "fe92d20880d15d2825a137986783db503e758658edcc5aaa86e05c5a63a2da66", func := "goosepond/goosepondlaw29.WrapBack", spec := "wrapBack", apart := false }
def WrapBackSaid : Prop := wrapBackRow.holds Try.pinned (OpenSpec.ofChange wrapBackSpec)

/-- ITS FALSE NEIGHBOUR: 'it returns false'. Refute it at one input. -/
def wrapBackWrong : ChangeSpec := { name := "wrapBack", fn := fun _ => fun
  | [d1, d2, d3, d4] => { results := [.lit (.bool false)], args := [d1, d2, d3, d4] }
  | _ => none }
def WrapBackWrongFalsely : Prop := wrapBackRow.holds Try.pinned (OpenSpec.ofChange wrapBackWrong)

/-- 'goosepondlaw30.RelayTells': WHATEVER THE INPUT: true; the input reads as it did. -/
def relayTellsSpec : ChangeSpec := { name := "relayTells", fn := fun _ => fun
  | [d1, d2, d3] => { results := [.lit (.bool true)], args := [d1, d2, d3] }
  | _ => none }
def relayTellsRow : OpenClaim := { program := "ytkfbamippjhjcaa", sum := "fe92d20880d15d2825a137986783db503e758658edcc5aaa86e05c5a63a2da66", func := "goosepond/goosepondlaw30.RelayTells", spec := "relayTells", unfollowed := true, recurses := true, apart := false }
def RelayTellsSaid : Prop := relayTellsRow.holds Try.pinned (OpenSpec.ofChange relayTellsSpec)

/-- ITS FALSE NEIGHBOUR: 'it returns false'. Refute it at one input. -/
def relayTellsWrong : ChangeSpec := { name := "relayTells", fn := fun _ => fun
  | [d1, d2, d3] => { results := [.lit (.bool false)], args := [d1, d2, d3] }
  | _ => none }
def RelayTellsWrongFalsely : Prop := relayTellsRow.holds Try.pinned (OpenSpec.ofChange relayTellsWrong)

/-- 'goosepondlaw30.RelayTable': WHATEVER THE INPUT: true; the input reads as it did. -/
def relayTableSpec : ChangeSpec := { name := "relayTable", fn := fun _ => fun
  | [d1, d2, d3] => { results := [.lit (.bool true)], args := [d1, d2, d3] }
  | _ => none }
def relayTableRow : OpenClaim := { program := "ytkfbamippjhjcaa", sum := "fe92d20880d15d2825a137986783db503e758658edcc5aaa86e05c5a63a2da66", func := "goosepond/goosepondlaw30.RelayTable", spec := "relayTable", unfollowed := true, recurses := true, apart := false }
def RelayTableSaid : Prop := relayTableRow.holds Try.pinned (OpenSpec.ofChange relayTableSpec)

/-- ITS FALSE NEIGHBOUR: 'it returns false'. Refute it at one input. -/
def relayTableWrong : ChangeSpec := { name := "relayTable", fn := fun _ => fun
  | [d1, d2, d3] => { results := [.lit (.bool false)], args := [d1, d2, d3] }
  | _ => none }
def RelayTableWrongFalsely : Prop := relayTableRow.holds Try.pinned (OpenSpec.ofChange relayTableWrong)

/-- 'goosepondlaw30.RelayReaches': WHATEVER THE INPUT: true; the input reads as it did. -/
def relayReachesSpec : ChangeSpec := { name := "relayReaches", fn := fun _ => fun
  | [d1, d2, d3, d4, d5, d6] => { results := [.lit (.bool true)], args := [d1, d2, d3, d4, d5, d6] }
  | _ => none }
def relayReachesRow : OpenClaim := { program := "ytkfbamippjhjcaa", sum := "fe92d20880d15d2825a137986783db503e758658edcc5aaa86e05c5a63a2da66", func := "goosepond/goosepondlaw30.RelayReaches", spec := "relayReaches", unfollowed := true, recurses := true, apart := false }
def RelayReachesSaid : Prop := relayReachesRow.holds Try.pinned (OpenSpec.ofChange relayReachesSpec)

/-- ITS FALSE NEIGHBOUR: 'it returns false'. Refute it at one input. -/
def relayReachesWrong : ChangeSpec := { name := "relayReaches", fn := fun _ => fun
  | [d1, d2, d3, d4, d5, d6] => { results := [.lit (.bool false)], args := [d1, d2, d3, d4, d5, d6] }
  | _ => none }
def RelayReachesWrongFalsely : Prop := relayReachesRow.holds Try.pinned (OpenSpec.ofChange relayReachesWrong)

/-- 'goosepondlaw30.RelayOnce': WHATEVER THE INPUT: true; the input reads as it did. -/
def relayOnceSpec : ChangeSpec := { name := "relayOnce", fn := fun _ => fun
  | [d1, d2, d3, d4] => { results := [.lit (.bool true)], args := [d1, d2, d3, d4] }
  | _ => none }
def relayOnceRow : OpenClaim := { program := "ytkfbamippjhjcaa", sum := "fe92d20880d15d2825a137986783db503e758658edcc5aaa86e05c5a63a2da66", func := "goosepond/goosepondlaw30.RelayOnce", spec := "relayOnce", unfollowed := true, recurses := true, apart := false }
def RelayOnceSaid : Prop := relayOnceRow.holds Try.pinned (OpenSpec.ofChange relayOnceSpec)

/-- ITS FALSE NEIGHBOUR: 'it returns false'. Refute it at one input. -/
def relayOnceWrong : ChangeSpec := { name := "relayOnce", fn := fun _ => fun
  | [d1, d2, d3, d4] => { results := [.lit (.bool false)], args := [d1, d2, d3, d4] }
  | _ => none }
def RelayOnceWrongFalsely : Prop := relayOnceRow.holds Try.pinned (OpenSpec.ofChange relayOnceWrong)

/- THE SECOND FORM. 'bulk': how many values and letters a reading holds, each counted each time it is reached (what is shared counts as often as it is met; a slice's spare places count too). A statement '..UptoSaid' is the law's where the arguments, and the package variables that the reading takes, are together of bulk at most 1048576: NARROWER than '..Said'. Prove '..Said' where nothing that the law and all that it calls make is longer than what came in: it says more and counts as full. Else prove '..UptoSaid'. A law counts once. -/
mutual
def uptoBulk {H : Type} : DataW H → Nat
  | .lit (.string bytes) => bytes.length + 1
  | .lit _ => 1
  | .nil => 1
  | .ptr d => uptoBulk d + 1
  | .slice elems spare => uptoBulkAll elems + uptoBulkAll spare + 1
  | .agg parts => uptoBulkAll parts + 1
  | .iface _ d => uptoBulk d + 1
  | .map entries => uptoBulkEntries entries + 1
  | .held _ => 1
def uptoBulkAll {H : Type} : List (DataW H) → Nat
  | [] => 0
  | d :: r => uptoBulk d + uptoBulkAll r
def uptoBulkEntries {H : Type} : List (Lit × DataW H) → Nat
  | [] => 0
  | x :: r => uptoBulkEntry x + uptoBulkEntries r
def uptoBulkEntry {H : Type} : Lit × DataW H → Nat
  | (.string bytes, d) => bytes.length + uptoBulk d + 1
  | (_, d) => uptoBulk d + 1
 end
def uptoSmall : (H : Type) → List (DataW H) → Bool := fun _ ds => decide (uptoBulkAll ds ≤ 1048576)
def OpenSpec.upto (s : _root_.Go.ChangeSpec) : _root_.Go.OpenSpec := { _root_.Go.OpenSpec.ofChange s with cond := some uptoSmall }

/-- 'goosepondlaw29.WrapTells', WHERE WHAT IT READS IS OF BULK AT MOST 1048576: true; the input reads as it did. -/
def wrapTellsUptoRow : OpenClaim := { program := "ytkfbamippjhjcaa", sum := "fe92d20880d15d2825a137986783db503e758658edcc5aaa86e05c5a63a2da66", func := "goosepond/goosepondlaw29.WrapTells", spec := "wrapTells", apart := false, narrowed := true }
def WrapTellsUptoSaid : Prop := wrapTellsUptoRow.holds Try.pinned (OpenSpec.upto wrapTellsSpec)

/-- 'goosepondlaw29.WrapBack', WHERE WHAT IT READS IS OF BULK AT MOST 1048576: true; the input reads as it did. -/
def wrapBackUptoRow : OpenClaim := { program := "ytkfbamippjhjcaa", sum := "fe92d20880d15d2825a137986783db503e758658edcc5aaa86e05c5a63a2da66", func := "goosepond/goosepondlaw29.WrapBack", spec := "wrapBack", apart := false, narrowed := true }
def WrapBackUptoSaid : Prop := wrapBackUptoRow.holds Try.pinned (OpenSpec.upto wrapBackSpec)

/-- 'goosepondlaw30.RelayTells', WHERE WHAT IT READS IS OF BULK AT MOST 1048576: true; the input reads as it did. -/
def relayTellsUptoRow : OpenClaim := { program := "ytkfbamippjhjcaa", sum := "fe92d20880d15d2825a137986783db503e758658edcc5aaa86e05c5a63a2da66", func := "goosepond/goosepondlaw30.RelayTells", spec := "relayTells", unfollowed := true, recurses := true, apart := false, narrowed := true }
def RelayTellsUptoSaid : Prop := relayTellsUptoRow.holds Try.pinned (OpenSpec.upto relayTellsSpec)

/-- 'goosepondlaw30.RelayTable', WHERE WHAT IT READS IS OF BULK AT MOST 1048576: true; the input reads as it did. -/
def relayTableUptoRow : OpenClaim := { program := "ytkfbamippjhjcaa", sum := "fe92d20880d15d2825a137986783db503e758658edcc5aaa86e05c5a63a2da66", func := "goosepond/goosepondlaw30.RelayTable", spec := "relayTable", unfollowed := true, recurses := true, apart := false, narrowed := true }
def RelayTableUptoSaid : Prop := relayTableUptoRow.holds Try.pinned (OpenSpec.upto relayTableSpec)

/-- 'goosepondlaw30.RelayReaches', WHERE WHAT IT READS IS OF BULK AT MOST 1048576: true; the input reads as it did. -/
def relayReachesUptoRow : OpenClaim := { program := "ytkfbamippjhjcaa", sum := "fe92d20880d15d2825a137986783db503e758658edcc5aaa86e05c5a63a2da66", func := "goosepond/goosepondlaw30.RelayReaches", spec := "relayReaches", unfollowed := true, recurses := true, apart := false, narrowed := true }
def RelayReachesUptoSaid : Prop := relayReachesUptoRow.holds Try.pinned (OpenSpec.upto relayReachesSpec)

/-- 'goosepondlaw30.RelayOnce', WHERE WHAT IT READS IS OF BULK AT MOST 1048576: true; the input reads as it did. -/
def relayOnceUptoRow : OpenClaim := { program := "ytkfbamippjhjcaa", sum := "fe92d20880d15d2825a137986783db503e758658edcc5aaa86e05c5a63a2da66", func := "goosepond/goosepondlaw30.RelayOnce", spec := "relayOnce", unfollowed := true, recurses := true, apart := false, narrowed := true }
def RelayOnceUptoSaid : Prop := relayOnceUptoRow.holds Try.pinned (OpenSpec.upto relayOnceSpec)

end Rows
end Go.Proofs.Ytkfbamippjhjcaa
