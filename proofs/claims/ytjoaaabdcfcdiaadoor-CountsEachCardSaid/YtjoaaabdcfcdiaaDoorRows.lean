/-
  NARROWER THAN 'FOR EVERY INPUT', by the rows' own cells (each row's printed sentence says how): CountsLive: laid · CountsEach: laid · CountsNobody: laid.
  DERIVED. THE GIVEN ROWS OF THIS SEAT. 3 by the template 'for every input the law returns true; each argument reads behind the call as it read before'; 0 by the template 'total and deterministic' (their statements: YtjoaaabdcfcdiaaDoorTotals.lean).
  GIVEN WITH THE SEED: the statements are not yours to turn. If you find one false, say at which input.
  Laid BY PROGRAM, IN A SANDBOX (cutbox-rows.mjs): the forced cells as the released guide's own fill.sh prints them over the translation 3d1c2a95a36db722… (all of the seat's roots in one cut). By AI agents, Wed Nov 11 2026. No macro, syntax, notation, axiom, sorry.
-/
import Derived.Test.YtjoaaabdcfcdiaaDoorChecked
import GoSem.Claim
import GoSem.ClaimJoined
import GoSem.ClaimMapViews
import Derived.JoinedTies
import Derived.KernelRfl
namespace Go.Proofs.YtjoaaabdcfcdiaaDoor
/- THE CELL 'sum', in the pinned program and in every row, IS THE sha256 OF THE DUMP (.gsa) THAT YtjoaaabdcfcdiaaDoorProg.lean LOADS. Nothing in Lean hashes anything: it is a label: what it is worth is what the hold of that sum in a sandbox is worth. -/
noncomputable def Tryd.pinned : Pinned := { name := "ytjoaaabdcfcdiaadoor", sum := "3d1c2a95a36db722dad92a8a3284686b696668205158716b42094a5d5ab79372", checked := Tryd.checked }
namespace Rows
def none {H : Type} : Left H := { results := [], args := [] }

/- WHAT THE LISTED PACKAGE-LEVEL VARIABLES READ AS WHEN THE CALL BEGINS. Each datum BY PROGRAM (the guide's laid-datum.mjs) off the statement by which the dump's own 'gosem.cut.vars' lays the variable. In a bare row this is a premise. The card (YtjoaaabdcfcdiaaDoorCards.lean) ties it to the program's text. -/
def laid_goosepond_counts_names {H : Type} : DataW H := .agg [.lit (.string []), .lit (.string [102, 111, 114, 109]), .lit (.string [115, 111, 117, 114, 99, 101]), .lit (.string [116, 116, 108]), .lit (.string [112, 114, 111, 116, 111]), .lit (.string [113, 117, 111, 116, 97]), .lit (.string [102, 117, 108, 108]), .lit (.string [112, 111, 111, 108]), .lit (.string [115, 116, 97, 116, 101]), .lit (.string [98, 105, 110, 100, 105, 110, 103]), .lit (.string [102, 105, 108, 116, 101, 114]), .lit (.string [108, 111, 110, 103]), .lit (.string [111, 118, 101, 114, 108, 97, 112]), .lit (.string [119, 97, 121])]

/-- 'goosepondlaw31.CountsLive': WHATEVER THE INPUT: true; the input reads as it did. -/
def countsLiveSpec : ChangeSpec := { name := "countsLive", fn := fun _ => fun
  | [d] => { results := [.lit (.bool true)], args := [d] }
  | _ => none }
def countsLiveRow : OpenClaim := { program := "ytjoaaabdcfcdiaadoor", sum := "3d1c2a95a36db722dad92a8a3284686b696668205158716b42094a5d5ab79372", func := "goosepond/goosepondlaw31.CountsLive", spec := "countsLive", named := ["goosepond/counts.names"], apart := false, laid := [("goosepond/counts.names", laid_goosepond_counts_names)] }
def CountsLiveSaid : Prop := countsLiveRow.holds Tryd.pinned (OpenSpec.ofChange countsLiveSpec)

/-- ITS FALSE NEIGHBOUR: 'it returns false'. Refute it at one input. -/
def countsLiveWrong : ChangeSpec := { name := "countsLive", fn := fun _ => fun
  | [d] => { results := [.lit (.bool false)], args := [d] }
  | _ => none }
def CountsLiveWrongFalsely : Prop := countsLiveRow.holds Tryd.pinned (OpenSpec.ofChange countsLiveWrong)

/-- 'goosepondlaw31.CountsEach': WHATEVER THE INPUT: true; the input reads as it did. -/
def countsEachSpec : ChangeSpec := { name := "countsEach", fn := fun _ => fun
  | [d] => { results := [.lit (.bool true)], args := [d] }
  | _ => none }
def countsEachRow : OpenClaim := { program := "ytjoaaabdcfcdiaadoor", sum := "3d1c2a95a36db722dad92a8a3284686b696668205158716b42094a5d5ab79372", func := "goosepond/goosepondlaw31.CountsEach", spec := "countsEach", unfollowed := true, recurses := true, named := ["goosepond/counts.names"], apart := false, laid := [("goosepond/counts.names", laid_goosepond_counts_names)] }
def CountsEachSaid : Prop := countsEachRow.holds Tryd.pinned (OpenSpec.ofChange countsEachSpec)

/-- ITS FALSE NEIGHBOUR: 'it returns false'. Refute it at one input. -/
def countsEachWrong : ChangeSpec := { name := "countsEach", fn := fun _ => fun
  | [d] => { results := [.lit (.bool false)], args := [d] }
  | _ => none }
def CountsEachWrongFalsely : Prop := countsEachRow.holds Tryd.pinned (OpenSpec.ofChange countsEachWrong)

/-- 'goosepondlaw31.CountsNobody': WHATEVER THE INPUT: true; the input reads as it did. -/
def countsNobodySpec : ChangeSpec := { name := "countsNobody", fn := fun _ => fun
  | [d] => { results := [.lit (.bool true)], args := [d] }
  | _ => none }
def countsNobodyRow : OpenClaim := { program := "ytjoaaabdcfcdiaadoor", sum := "3d1c2a95a36db722dad92a8a3284686b696668205158716b42094a5d5ab79372", func := "goosepond/goosepondlaw31.CountsNobody", spec := "countsNobody", unfollowed := true, recurses := true, named := ["goosepond/counts.names"], apart := false, laid := [("goosepond/counts.names", laid_goosepond_counts_names)] }
def CountsNobodySaid : Prop := countsNobodyRow.holds Tryd.pinned (OpenSpec.ofChange countsNobodySpec)

/-- ITS FALSE NEIGHBOUR: 'it returns false'. Refute it at one input. -/
def countsNobodyWrong : ChangeSpec := { name := "countsNobody", fn := fun _ => fun
  | [d] => { results := [.lit (.bool false)], args := [d] }
  | _ => none }
def CountsNobodyWrongFalsely : Prop := countsNobodyRow.holds Tryd.pinned (OpenSpec.ofChange countsNobodyWrong)

/- THE SECOND FORM. 'bulk': how many values and letters a reading holds, each counted each time it is reached (what is shared counts as often as it is met; a slice's spare places count too). A statement '..UptoSaid' is the law's where the arguments, and the package variables that the reading takes, are together of bulk at most 1048576: NARROWER than '..Said'. Prove '..Said' where nothing that the law and all that it calls make is longer than what came in: it says more and counts as full. Else prove '..UptoSaid'. A law counts once. -/
mutual
def uptoBulk {H : Type} : DataW H → Nat
  | .lit (.string bytes) => bytes.length + 1
  | .lit _ => 1
  | .nil => 1
  | .ptr d => uptoBulk d + 1
  | .slice elems spare => uptoBulkAll elems + uptoBulkAll spare + 1
  | .agg parts => uptoBulkAll parts + 1
  | .iface _ d => uptoBulk d + 1
  | .map entries => uptoBulkEntries entries + 1
  | .held _ => 1
def uptoBulkAll {H : Type} : List (DataW H) → Nat
  | [] => 0
  | d :: r => uptoBulk d + uptoBulkAll r
def uptoBulkEntries {H : Type} : List (Lit × DataW H) → Nat
  | [] => 0
  | x :: r => uptoBulkEntry x + uptoBulkEntries r
def uptoBulkEntry {H : Type} : Lit × DataW H → Nat
  | (.string bytes, d) => bytes.length + uptoBulk d + 1
  | (_, d) => uptoBulk d + 1
 end
def uptoSmall : (H : Type) → List (DataW H) → Bool := fun _ ds => decide (uptoBulkAll ds ≤ 1048576)
def OpenSpec.upto (s : _root_.Go.ChangeSpec) : _root_.Go.OpenSpec := { _root_.Go.OpenSpec.ofChange s with cond := some uptoSmall }

/-- 'goosepondlaw31.CountsLive', WHERE WHAT IT READS IS OF BULK AT MOST 1048576: true; the input reads as it did. -/
def countsLiveUptoRow : OpenClaim := { program := "ytjoaaabdcfcdiaadoor", sum := "3d1c2a95a36db722dad92a8a3284686b696668205158716b42094a5d5ab79372", func := "goosepond/goosepondlaw31.CountsLive", spec := "countsLive", named := ["goosepond/counts.names"], apart := false, laid := [("goosepond/counts.names", laid_goosepond_counts_names)], narrowed := true }
def CountsLiveUptoSaid : Prop := countsLiveUptoRow.holds Tryd.pinned (OpenSpec.upto countsLiveSpec)

/-- 'goosepondlaw31.CountsEach', WHERE WHAT IT READS IS OF BULK AT MOST 1048576: true; the input reads as it did. -/
def countsEachUptoRow : OpenClaim := { program := "ytjoaaabdcfcdiaadoor", sum := "3d1c2a95a36db722dad92a8a3284686b696668205158716b42094a5d5ab79372", func := "goosepond/goosepondlaw31.CountsEach", spec := "countsEach", unfollowed := true, recurses := true, named := ["goosepond/counts.names"], apart := false, laid := [("goosepond/counts.names", laid_goosepond_counts_names)], narrowed := true }
def CountsEachUptoSaid : Prop := countsEachUptoRow.holds Tryd.pinned (OpenSpec.upto countsEachSpec)

/-- 'goosepondlaw31.CountsNobody', WHERE WHAT IT READS IS OF BULK AT MOST 1048576: true; the input reads as it did. -/
def countsNobodyUptoRow : OpenClaim := { program := "ytjoaaabdcfcdiaadoor", sum := "3d1c2a95a36db722dad92a8a3284686b696668205158716b42094a5d5ab79372", func := "goosepond/goosepondlaw31.CountsNobody", spec := "countsNobody", unfollowed := true, recurses := true, named := ["goosepond/counts.names"], apart := false, laid := [("goosepond/counts.names", laid_goosepond_counts_names)], narrowed := true }
def CountsNobodyUptoSaid : Prop := countsNobodyUptoRow.holds Tryd.pinned (OpenSpec.upto countsNobodySpec)

end Rows
end Go.Proofs.YtjoaaabdcfcdiaaDoor
