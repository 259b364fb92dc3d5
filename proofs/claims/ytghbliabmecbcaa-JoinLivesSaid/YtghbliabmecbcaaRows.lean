/-
  No cell of these rows narrows 'for every input' (looked for: loops, veiled, ifaces, maps, wideKeys, modest, calm, conditions, laid).
  DERIVED. THE GIVEN ROWS OF THIS SEAT. 6 by the template 'for every input the law returns true; each argument reads behind the call as it read before'; 0 by the template 'total and deterministic' (their statements: YtghbliabmecbcaaTotals.lean).
  GIVEN WITH THE SEED: the statements are not yours to turn. If you find one false, say at which input.
  Laid BY PROGRAM, IN A SANDBOX (cutbox-rows.mjs): the forced cells as the released guide's own fill.sh prints them over the translation 9525f7fb8a5c1154… (all of the seat's roots in one cut). By AI agents, Wed Nov 11 2026. No macro, syntax, notation, axiom, sorry.
-/
import Derived.Test.YtghbliabmecbcaaChecked
import GoSem.Claim
import GoSem.ClaimJoined
import GoSem.ClaimMapViews
import Derived.JoinedTies
import Derived.KernelRfl
namespace Go.Proofs.Ytghbliabmecbcaa
/- THE CELL 'sum', in the pinned program and in every row, IS THE sha256 OF THE DUMP (.gsa) THAT YtghbliabmecbcaaProg.lean LOADS. Nothing in Lean hashes anything: it is a label: what it is worth is what the hold of that sum in a sandbox is worth. -/
noncomputable def Try.pinned : Pinned := { name := "ytghbliabmecbcaa", sum := "9525f7fb8a5c115423b735d2d14ade4350d3803a0320309dee8313af1fbee128", checked := Try.checked }
namespace Rows
def none {H : Type} : Left H := { results := [], args := [] }

/-- 'goosepondlaw16.JoinLives': WHATEVER THE INPUT: true; the input reads as it did. -/
def joinLivesSpec : ChangeSpec := { name := "joinLives", fn := fun _ => fun
  | [d1, d2, d3, d4] => { results := [.lit (.bool true)], args := [d1, d2, d3, d4] }
  | _ => none }
def joinLivesRow : OpenClaim := { program := "ytghbliabmecbcaa", sum := "9525f7fb8a5c115423b735d2d14ade4350d3803a0320309dee8313af1fbee128", func := "goosepond/goosepondlaw16.JoinLives", spec := "joinLives", inPlace := ["slices.overlaps[goosepond/holes.part]"], unfollowed := true, recurses := true, apart := false }
def JoinLivesSaid : Prop := joinLivesRow.holds Try.pinned (OpenSpec.ofChange joinLivesSpec)

/-- ITS FALSE NEIGHBOUR: 'it returns false'. Refute it at one input. -/
def joinLivesWrong : ChangeSpec := { name := "joinLives", fn := fun _ => fun
  | [d1, d2, d3, d4] => { results := [.lit (.bool false)], args := [d1, d2, d3, d4] }
  | _ => none }
def JoinLivesWrongFalsely : Prop := joinLivesRow.holds Try.pinned (OpenSpec.ofChange joinLivesWrong)

/-- 'goosepondlaw17.WheelOnce': WHATEVER THE INPUT: true; the input reads as it did. -/
def wheelOnceSpec : ChangeSpec := { name := "wheelOnce", fn := fun _ => fun
  | [d1, d2] => { results := [.lit (.bool true)], args := [d1, d2] }
  | _ => none }
def wheelOnceRow : OpenClaim := { program := "ytghbliabmecbcaa", sum := "9525f7fb8a5c115423b735d2d14ade4350d3803a0320309dee8313af1fbee128", func := "goosepond/goosepondlaw17.WheelOnce", spec := "wheelOnce", unfollowed := true, recurses := true, apart := false }
def WheelOnceSaid : Prop := wheelOnceRow.holds Try.pinned (OpenSpec.ofChange wheelOnceSpec)

/-- ITS FALSE NEIGHBOUR: 'it returns false'. Refute it at one input. -/
def wheelOnceWrong : ChangeSpec := { name := "wheelOnce", fn := fun _ => fun
  | [d1, d2] => { results := [.lit (.bool false)], args := [d1, d2] }
  | _ => none }
def WheelOnceWrongFalsely : Prop := wheelOnceRow.holds Try.pinned (OpenSpec.ofChange wheelOnceWrong)

/-- 'goosepondlaw17.WheelSteps': WHATEVER THE INPUT: true; the input reads as it did. -/
def wheelStepsSpec : ChangeSpec := { name := "wheelSteps", fn := fun _ => fun
  | [d1, d2] => { results := [.lit (.bool true)], args := [d1, d2] }
  | _ => none }
def wheelStepsRow : OpenClaim := { program := "ytghbliabmecbcaa", sum := "9525f7fb8a5c115423b735d2d14ade4350d3803a0320309dee8313af1fbee128", func := "goosepond/goosepondlaw17.WheelSteps", spec := "wheelSteps", unfollowed := true, recurses := true, apart := false }
def WheelStepsSaid : Prop := wheelStepsRow.holds Try.pinned (OpenSpec.ofChange wheelStepsSpec)

/-- ITS FALSE NEIGHBOUR: 'it returns false'. Refute it at one input. -/
def wheelStepsWrong : ChangeSpec := { name := "wheelSteps", fn := fun _ => fun
  | [d1, d2] => { results := [.lit (.bool false)], args := [d1, d2] }
  | _ => none }
def WheelStepsWrongFalsely : Prop := wheelStepsRow.holds Try.pinned (OpenSpec.ofChange wheelStepsWrong)

/-- 'goosepondlaw23.StateTells': WHATEVER THE INPUT: true; the input reads as it did. -/
def stateTellsSpec : ChangeSpec := { name := "stateTells", fn := fun _ => fun
  | [d1, d2, d3] => { results := [.lit (.bool true)], args := [d1, d2, d3] }
  | _ => none }
def stateTellsRow : OpenClaim := { program := "ytghbliabmecbcaa", sum := "9525f7fb8a5c115423b735d2d14ade4350d3803a0320309dee8313af1fbee128", func := "goosepond/goosepondlaw23.StateTells", spec := "stateTells", apart := false }
def StateTellsSaid : Prop := stateTellsRow.holds Try.pinned (OpenSpec.ofChange stateTellsSpec)

/-- ITS FALSE NEIGHBOUR: 'it returns false'. Refute it at one input. -/
def stateTellsWrong : ChangeSpec := { name := "stateTells", fn := fun _ => fun
  | [d1, d2, d3] => { results := [.lit (.bool false)], args := [d1, d2, d3] }
  | _ => none }
def StateTellsWrongFalsely : Prop := stateTellsRow.holds Try.pinned (OpenSpec.ofChange stateTellsWrong)

/-- 'goosepondlaw23.StateThrough': WHATEVER THE INPUT: true; the input reads as it did. -/
def stateThroughSpec : ChangeSpec := { name := "stateThrough", fn := fun _ => fun
  | [d1, d2] => { results := [.lit (.bool true)], args := [d1, d2] }
  | _ => none }
def stateThroughRow : OpenClaim := { program := "ytghbliabmecbcaa", sum := "9525f7fb8a5c115423b735d2d14ade4350d3803a0320309dee8313af1fbee128", func := "goosepond/goosepondlaw23.StateThrough", spec := "stateThrough", apart := false }
def StateThroughSaid : Prop := stateThroughRow.holds Try.pinned (OpenSpec.ofChange stateThroughSpec)

/-- ITS FALSE NEIGHBOUR: 'it returns false'. Refute it at one input. -/
def stateThroughWrong : ChangeSpec := { name := "stateThrough", fn := fun _ => fun
  | [d1, d2] => { results := [.lit (.bool false)], args := [d1, d2] }
  | _ => none }
def StateThroughWrongFalsely : Prop := stateThroughRow.holds Try.pinned (OpenSpec.ofChange stateThroughWrong)

/-- 'goosepondlaw23.StateBegins': WHATEVER THE INPUT: true; the input reads as it did. -/
def stateBeginsSpec : ChangeSpec := { name := "stateBegins", fn := fun _ => fun
  | [d1, d2, d3] => { results := [.lit (.bool true)], args := [d1, d2, d3] }
  | _ => none }
def stateBeginsRow : OpenClaim := { program := "ytghbliabmecbcaa", sum := "9525f7fb8a5c115423b735d2d14ade4350d3803a0320309dee8313af1fbee128", func := "goosepond/goosepondlaw23.StateBegins", spec := "stateBegins", apart := false }
def StateBeginsSaid : Prop := stateBeginsRow.holds Try.pinned (OpenSpec.ofChange stateBeginsSpec)

/-- ITS FALSE NEIGHBOUR: 'it returns false'. Refute it at one input. -/
def stateBeginsWrong : ChangeSpec := { name := "stateBegins", fn := fun _ => fun
  | [d1, d2, d3] => { results := [.lit (.bool false)], args := [d1, d2, d3] }
  | _ => none }
def StateBeginsWrongFalsely : Prop := stateBeginsRow.holds Try.pinned (OpenSpec.ofChange stateBeginsWrong)

/- THE SECOND FORM. 'bulk': how many values and letters a reading holds, each counted each time it is reached (what is shared counts as often as it is met; a slice's spare places count too). A statement '..UptoSaid' is the law's where the arguments, and the package variables that the reading takes, are together of bulk at most 1048576: NARROWER than '..Said'. Prove '..Said' where nothing that the law and all that it calls make is longer than what came in: it says more and counts as full. Else prove '..UptoSaid'. A law counts once. -/
mutual
def uptoBulk {H : Type} : DataW H → Nat
  | .lit (.string bytes) => bytes.length + 1
  | .lit _ => 1
  | .nil => 1
  | .ptr d => uptoBulk d + 1
  | .slice elems spare => uptoBulkAll elems + uptoBulkAll spare + 1
  | .agg parts => uptoBulkAll parts + 1
  | .iface _ d => uptoBulk d + 1
  | .map entries => uptoBulkEntries entries + 1
  | .held _ => 1
def uptoBulkAll {H : Type} : List (DataW H) → Nat
  | [] => 0
  | d :: r => uptoBulk d + uptoBulkAll r
def uptoBulkEntries {H : Type} : List (Lit × DataW H) → Nat
  | [] => 0
  | x :: r => uptoBulkEntry x + uptoBulkEntries r
def uptoBulkEntry {H : Type} : Lit × DataW H → Nat
  | (.string bytes, d) => bytes.length + uptoBulk d + 1
  | (_, d) => uptoBulk d + 1
 end
def uptoSmall : (H : Type) → List (DataW H) → Bool := fun _ ds => decide (uptoBulkAll ds ≤ 1048576)
def OpenSpec.upto (s : _root_.Go.ChangeSpec) : _root_.Go.OpenSpec := { _root_.Go.OpenSpec.ofChange s with cond := some uptoSmall }

/-- 'goosepondlaw16.JoinLives', WHERE WHAT IT READS IS OF BULK AT MOST 1048576: true; the input reads as it did. -/
def joinLivesUptoRow : OpenClaim := { program := "ytghbliabmecbcaa", sum := "9525f7fb8a5c115423b735d2d14ade4350d3803a0320309dee8313af1fbee128", func := "goosepond/goosepondlaw16.JoinLives", spec := "joinLives", inPlace := ["slices.overlaps[goosepond/holes.part]"], unfollowed := true, recurses := true, apart := false, narrowed := true }
def JoinLivesUptoSaid : Prop := joinLivesUptoRow.holds Try.pinned (OpenSpec.upto joinLivesSpec)

/-- 'goosepondlaw17.WheelOnce', WHERE WHAT IT READS IS OF BULK AT MOST 1048576: true; the input reads as it did. -/
def wheelOnceUptoRow : OpenClaim := { program := "ytghbliabmecbcaa", sum := "9525f7fb8a5c115423b735d2d14ade4350d3803a0320309dee8313af1fbee128", func := "goosepond/goosepondlaw17.WheelOnce", spec := "wheelOnce", unfollowed := true, recurses := true, apart := false, narrowed := true }
def WheelOnceUptoSaid : Prop := wheelOnceUptoRow.holds Try.pinned (OpenSpec.upto wheelOnceSpec)

/-- 'goosepondlaw17.WheelSteps', WHERE WHAT IT READS IS OF BULK AT MOST 1048576: true; the input reads as it did. -/
def wheelStepsUptoRow : OpenClaim := { program := "ytghbliabmecbcaa", sum := "9525f7fb8a5c115423b735d2d14ade4350d3803a0320309dee8313af1fbee128", func := "goosepond/goosepondlaw17.WheelSteps", spec := "wheelSteps", unfollowed := true, recurses := true, apart := false, narrowed := true }
def WheelStepsUptoSaid : Prop := wheelStepsUptoRow.holds Try.pinned (OpenSpec.upto wheelStepsSpec)

/-- 'goosepondlaw23.StateTells', WHERE WHAT IT READS IS OF BULK AT MOST 1048576: true; the input reads as it did. -/
def stateTellsUptoRow : OpenClaim := { program := "ytghbliabmecbcaa", sum := "9525f7fb8a5c115423b735d2d14ade4350d3803a0320309dee8313af1fbee128", func := "goosepond/goosepondlaw23.StateTells", spec := "stateTells", apart := false, narrowed := true }
def StateTellsUptoSaid : Prop := stateTellsUptoRow.holds Try.pinned (OpenSpec.upto stateTellsSpec)

/-- 'goosepondlaw23.StateThrough', WHERE WHAT IT READS IS OF BULK AT MOST 1048576: true; the input reads as it did. -/
def stateThroughUptoRow : OpenClaim := { program := "ytghbliabmecbcaa", sum := "9525f7fb8a5c115423b735d2d14ade4350d3803a0320309dee8313af1fbee128", func := "goosepond/goosepondlaw23.StateThrough", spec := "stateThrough", apart := false, narrowed := true }
def StateThroughUptoSaid : Prop := stateThroughUptoRow.holds Try.pinned (OpenSpec.upto stateThroughSpec)

/-- 'goosepondlaw23.StateBegins', WHERE WHAT IT READS IS OF BULK AT MOST 1048576: true; the input reads as it did. -/
def stateBeginsUptoRow : OpenClaim := { program := "ytghbliabmecbcaa", sum := "9525f7fb8a5c115423b735d2d14ade4350d3803a0320309dee8313af1fbee128", func := "goosepond/goosepondlaw23.StateBegins", spec := "stateBegins", apart := false, narrowed := true }
def StateBeginsUptoSaid : Prop := stateBeginsUptoRow.holds Try.pinned (OpenSpec.upto stateBeginsSpec)

end Rows
end Go.Proofs.Ytghbliabmecbcaa
