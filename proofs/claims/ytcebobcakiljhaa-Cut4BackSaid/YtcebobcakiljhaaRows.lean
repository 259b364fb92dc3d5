/-
  No cell of these rows narrows 'for every input' (looked for: loops, veiled, ifaces, maps, wideKeys, modest, calm, conditions, laid).
  DERIVED. THE GIVEN ROWS OF THIS SEAT. 5 by the template 'for every input the law returns true; each argument reads behind the call as it read before'; 0 by the template 'total and deterministic' (their statements: YtcebobcakiljhaaTotals.lean).
  GIVEN WITH THE SEED: the statements are not yours to turn. If you find one false, say at which input.
  Laid BY PROGRAM, IN A SANDBOX (cutbox-rows.mjs): the forced cells as the released guide's own fill.sh prints them over the translation d2b89b6483e1fae4… (all of the seat's roots in one cut). By AI agents, Wed Nov 11 2026. No macro, syntax, notation, axiom, sorry.
-/
import Derived.Test.YtcebobcakiljhaaChecked
import GoSem.Claim
import GoSem.ClaimJoined
import GoSem.ClaimMapViews
import Derived.JoinedTies
import Derived.KernelRfl
namespace Go.Proofs.Ytcebobcakiljhaa
/- THE CELL 'sum', in the pinned program and in every row, IS THE sha256 OF THE DUMP (.gsa) THAT YtcebobcakiljhaaProg.lean LOADS. Nothing in Lean hashes anything: it is a label: what it is worth is what the hold of that sum in a sandbox is worth. -/
noncomputable def Try.pinned : Pinned := { name := "ytcebobcakiljhaa", sum := "d2b89b6483e1fae4b84a8cdfc172a859b6919db185575ca2200bb648bf7a3554", checked := Try.checked }
namespace Rows
def none {H : Type} : Left H := { results := [], args := [] }

/-- 'goosepondlaw13.Cut4Cuts': WHATEVER THE INPUT: true; the input reads as it did. -/
def cut4CutsSpec : ChangeSpec := { name := "cut4Cuts", fn := fun _ => fun
  | [d1, d2, d3] => { results := [.lit (.bool true)], args := [d1, d2, d3] }
  | _ => none }
def cut4CutsRow : OpenClaim := { program := "ytcebobcakiljhaa", sum := "d2b89b6483e1fae4b84a8cdfc172a859b6919db185575ca2200bb648bf7a3554", func := "goosepond/goosepondlaw13.Cut4Cuts", spec := "cut4Cuts", unfollowed := true, recurses := true, apart := false }
def Cut4CutsSaid : Prop := cut4CutsRow.holds Try.pinned (OpenSpec.ofChange cut4CutsSpec)

/-- ITS FALSE NEIGHBOUR: 'it returns false'. Refute it at one input. -/
def cut4CutsWrong : ChangeSpec := { name := "cut4Cuts", fn := fun _ => fun
  | [d1, d2, d3] => { results := [.lit (.bool false)], args := [d1, d2, d3] }
  | _ => none }
def Cut4CutsWrongFalsely : Prop := cut4CutsRow.holds Try.pinned (OpenSpec.ofChange cut4CutsWrong)

/-- 'goosepondlaw13.Cut4Glues': WHATEVER THE INPUT: true; the input reads as it did. -/
def cut4GluesSpec : ChangeSpec := { name := "cut4Glues", fn := fun _ => fun
  | [d] => { results := [.lit (.bool true)], args := [d] }
  | _ => none }
def cut4GluesRow : OpenClaim := { program := "ytcebobcakiljhaa", sum := "d2b89b6483e1fae4b84a8cdfc172a859b6919db185575ca2200bb648bf7a3554", func := "goosepond/goosepondlaw13.Cut4Glues", spec := "cut4Glues", unfollowed := true, recurses := true, apart := false }
def Cut4GluesSaid : Prop := cut4GluesRow.holds Try.pinned (OpenSpec.ofChange cut4GluesSpec)

/-- ITS FALSE NEIGHBOUR: 'it returns false'. Refute it at one input. -/
def cut4GluesWrong : ChangeSpec := { name := "cut4Glues", fn := fun _ => fun
  | [d] => { results := [.lit (.bool false)], args := [d] }
  | _ => none }
def Cut4GluesWrongFalsely : Prop := cut4GluesRow.holds Try.pinned (OpenSpec.ofChange cut4GluesWrong)

/-- 'goosepondlaw13.Cut4Back': WHATEVER THE INPUT: true; the input reads as it did. -/
def cut4BackSpec : ChangeSpec := { name := "cut4Back", fn := fun _ => fun
  | [d1, d2] => { results := [.lit (.bool true)], args := [d1, d2] }
  | _ => none }
def cut4BackRow : OpenClaim := { program := "ytcebobcakiljhaa", sum := "d2b89b6483e1fae4b84a8cdfc172a859b6919db185575ca2200bb648bf7a3554", func := "goosepond/goosepondlaw13.Cut4Back", spec := "cut4Back", unfollowed := true, recurses := true, apart := false }
def Cut4BackSaid : Prop := cut4BackRow.holds Try.pinned (OpenSpec.ofChange cut4BackSpec)

/-- ITS FALSE NEIGHBOUR: 'it returns false'. Refute it at one input. -/
def cut4BackWrong : ChangeSpec := { name := "cut4Back", fn := fun _ => fun
  | [d1, d2] => { results := [.lit (.bool false)], args := [d1, d2] }
  | _ => none }
def Cut4BackWrongFalsely : Prop := cut4BackRow.holds Try.pinned (OpenSpec.ofChange cut4BackWrong)

/-- 'goosepondlaw14.Cut6Cuts': WHATEVER THE INPUT: true; the input reads as it did. -/
def cut6CutsSpec : ChangeSpec := { name := "cut6Cuts", fn := fun _ => fun
  | [d1, d2, d3] => { results := [.lit (.bool true)], args := [d1, d2, d3] }
  | _ => none }
def cut6CutsRow : OpenClaim := { program := "ytcebobcakiljhaa", sum := "d2b89b6483e1fae4b84a8cdfc172a859b6919db185575ca2200bb648bf7a3554", func := "goosepond/goosepondlaw14.Cut6Cuts", spec := "cut6Cuts", unfollowed := true, recurses := true, apart := false }
def Cut6CutsSaid : Prop := cut6CutsRow.holds Try.pinned (OpenSpec.ofChange cut6CutsSpec)

/-- ITS FALSE NEIGHBOUR: 'it returns false'. Refute it at one input. -/
def cut6CutsWrong : ChangeSpec := { name := "cut6Cuts", fn := fun _ => fun
  | [d1, d2, d3] => { results := [.lit (.bool false)], args := [d1, d2, d3] }
  | _ => none }
def Cut6CutsWrongFalsely : Prop := cut6CutsRow.holds Try.pinned (OpenSpec.ofChange cut6CutsWrong)

/-- 'goosepondlaw14.Cut6Back': WHATEVER THE INPUT: true; the input reads as it did. -/
def cut6BackSpec : ChangeSpec := { name := "cut6Back", fn := fun _ => fun
  | [d1, d2, d3] => { results := [.lit (.bool true)], args := [d1, d2, d3] }
  | _ => none }
def cut6BackRow : OpenClaim := { program := "ytcebobcakiljhaa", sum := "d2b89b6483e1fae4b84a8cdfc172a859b6919db185575ca2200bb648bf7a3554", func := "goosepond/goosepondlaw14.Cut6Back", spec := "cut6Back", unfollowed := true, recurses := true, apart := false }
def Cut6BackSaid : Prop := cut6BackRow.holds Try.pinned (OpenSpec.ofChange cut6BackSpec)

/-- ITS FALSE NEIGHBOUR: 'it returns false'. Refute it at one input. -/
def cut6BackWrong : ChangeSpec := { name := "cut6Back", fn := fun _ => fun
  | [d1, d2, d3] => { results := [.lit (.bool false)], args := [d1, d2, d3] }
  | _ => none }
def Cut6BackWrongFalsely : Prop := cut6BackRow.holds Try.pinned (OpenSpec.ofChange cut6BackWrong)

/- THE SECOND FORM. 'bulk': how many values and letters a reading holds, each counted each time it is reached (what is shared counts as often as it is met; a slice's spare places count too). A statement '..UptoSaid' is the law's where the arguments, and the package variables that the reading takes, are together of bulk at most 1048576: NARROWER than '..Said'. Prove '..Said' where nothing that the law and all that it calls make is longer than what came in: it says more and counts as full. Else prove '..UptoSaid'. A law counts once. -/
mutual
def uptoBulk {H : Type} : DataW H → Nat
  | .lit (.string bytes) => bytes.length + 1
  | .lit _ => 1
  | .nil => 1
  | .ptr d => uptoBulk d + 1
  | .slice elems spare => uptoBulkAll elems + uptoBulkAll spare + 1
  | .agg parts => uptoBulkAll parts + 1
  | .iface _ d => uptoBulk d + 1
  | .map entries => uptoBulkEntries entries + 1
  | .held _ => 1
def uptoBulkAll {H : Type} : List (DataW H) → Nat
  | [] => 0
  | d :: r => uptoBulk d + uptoBulkAll r
def uptoBulkEntries {H : Type} : List (Lit × DataW H) → Nat
  | [] => 0
  | x :: r => uptoBulkEntry x + uptoBulkEntries r
def uptoBulkEntry {H : Type} : Lit × DataW H → Nat
  | (.string bytes, d) => bytes.length + uptoBulk d + 1
  | (_, d) => uptoBulk d + 1
 end
def uptoSmall : (H : Type) → List (DataW H) → Bool := fun _ ds => decide (uptoBulkAll ds ≤ 1048576)
def OpenSpec.upto (s : _root_.Go.ChangeSpec) : _root_.Go.OpenSpec := { _root_.Go.OpenSpec.ofChange s with cond := some uptoSmall }

/-- 'goosepondlaw13.Cut4Cuts', WHERE WHAT IT READS IS OF BULK AT MOST 1048576: true; the input reads as it did. -/
def cut4CutsUptoRow : OpenClaim := { program := "ytcebobcakiljhaa", sum := "d2b89b6483e1fae4b84a8cdfc172a859b6919db185575ca2200bb648bf7a3554", func := "goosepond/goosepondlaw13.Cut4Cuts", spec := "cut4Cuts", unfollowed := true, recurses := true, apart := false, narrowed := true }
def Cut4CutsUptoSaid : Prop := cut4CutsUptoRow.holds Try.pinned (OpenSpec.upto cut4CutsSpec)

/-- 'goosepondlaw13.Cut4Glues', WHERE WHAT IT READS IS OF BULK AT MOST 1048576: true; the input reads as it did. -/
def cut4GluesUptoRow : OpenClaim := { program := "ytcebobcakiljhaa", sum := "d2b89b6483e1fae4b84a8cdfc172a859b6919db185575ca2200bb648bf7a3554", func := "goosepond/goosepondlaw13.Cut4Glues", spec := "cut4Glues", unfollowed := true, recurses := true, apart := false, narrowed := true }
def Cut4GluesUptoSaid : Prop := cut4GluesUptoRow.holds Try.pinned (OpenSpec.upto cut4GluesSpec)

/-- 'goosepondlaw13.Cut4Back', WHERE WHAT IT READS IS OF BULK AT MOST 1048576: true; the input reads as it did. -/
def cut4BackUptoRow : OpenClaim := { program := "ytcebobcakiljhaa", sum := "d2b89b6483e1fae4b84a8cdfc172a859b6919db185575ca2200bb648bf7a3554", func := "goosepond/goosepondlaw13.Cut4Back", spec := "cut4Back", unfollowed := true, recurses := true, apart := false, narrowed := true }
def Cut4BackUptoSaid : Prop := cut4BackUptoRow.holds Try.pinned (OpenSpec.upto cut4BackSpec)

/-- 'goosepondlaw14.Cut6Cuts', WHERE WHAT IT READS IS OF BULK AT MOST 1048576: true; the input reads as it did. -/
def cut6CutsUptoRow : OpenClaim := { program := "ytcebobcakiljhaa", sum := "d2b89b6483e1fae4b84a8cdfc172a859b6919db185575ca2200bb648bf7a3554", func := "goosepond/goosepondlaw14.Cut6Cuts", spec := "cut6Cuts", unfollowed := true, recurses := true, apart := false, narrowed := true }
def Cut6CutsUptoSaid : Prop := cut6CutsUptoRow.holds Try.pinned (OpenSpec.upto cut6CutsSpec)

/-- 'goosepondlaw14.Cut6Back', WHERE WHAT IT READS IS OF BULK AT MOST 1048576: true; the input reads as it did. -/
def cut6BackUptoRow : OpenClaim := { program := "ytcebobcakiljhaa", sum := "d2b89b6483e1fae4b84a8cdfc172a859b6919db185575ca2200bb648bf7a3554", func := "goosepond/goosepondlaw14.Cut6Back", spec := "cut6Back", unfollowed := true, recurses := true, apart := false, narrowed := true }
def Cut6BackUptoSaid : Prop := cut6BackUptoRow.holds Try.pinned (OpenSpec.upto cut6BackSpec)

end Rows
end Go.Proofs.Ytcebobcakiljhaa
