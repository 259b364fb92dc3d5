/-
  No cell of these rows narrows 'for every input' (looked for: loops, veiled, ifaces, maps, wideKeys, modest, calm, conditions, laid).
  DERIVED. THE GIVEN ROWS OF THIS SEAT. 3 by the template 'for every input the law returns true; each argument reads behind the call as it read before'; 0 by the template 'total and deterministic' (their statements: YtpoigngpdcmipaaGreatTotals.lean).
  GIVEN WITH THE SEED: the statements are not yours to turn. If you find one false, say at which input.
  Laid BY PROGRAM, IN A SANDBOX (cutbox-rows.mjs): the forced cells as the released guide's own fill.sh prints them over the translation fe0f13baa1bba716… (all of the seat's roots in one cut). By AI agents, Wed Nov 11 2026. No macro, syntax, notation, axiom, sorry.
-/
import Derived.Test.YtpoigngpdcmipaaGreatChecked
import GoSem.Claim
import GoSem.ClaimJoined
import GoSem.ClaimMapViews
import Derived.JoinedTies
import Derived.KernelRfl
namespace Go.Proofs.YtpoigngpdcmipaaGreat
/- THE CELL 'sum', in the pinned program and in every row, IS THE sha256 OF THE DUMP (.gsa) THAT YtpoigngpdcmipaaGreatProg.lean LOADS. Nothing in Lean hashes anything: it is a label: what it is worth is what the hold of that sum in a sandbox is worth. -/
noncomputable def Tryz.pinned : Pinned := { name := "ytpoigngpdcmipaagreat", sum := "fe0f13baa1bba7161a7b8088fd3af42eb40280961feaf0ad48640e6d41df4005", checked := Tryz.checked }
namespace Rows
def none {H : Type} : Left H := { results := [], args := [] }

/-- 'goosepondlaw32.B4Sends': WHATEVER THE INPUT: true; the input reads as it did. -/
def b4SendsSpec : ChangeSpec := { name := "b4Sends", fn := fun _ => fun
  | [d1, d2, d3] => { results := [.lit (.bool true)], args := [d1, d2, d3] }
  | _ => none }
def b4SendsRow : OpenClaim := { program := "ytpoigngpdcmipaagreat", sum := "fe0f13baa1bba7161a7b8088fd3af42eb40280961feaf0ad48640e6d41df4005", func := "goosepond/goosepondlaw32.B4Sends", spec := "b4Sends", unfollowed := true, recurses := true, apart := false }
def B4SendsSaid : Prop := b4SendsRow.holds Tryz.pinned (OpenSpec.ofChange b4SendsSpec)

/-- ITS FALSE NEIGHBOUR: 'it returns false'. Refute it at one input. -/
def b4SendsWrong : ChangeSpec := { name := "b4Sends", fn := fun _ => fun
  | [d1, d2, d3] => { results := [.lit (.bool false)], args := [d1, d2, d3] }
  | _ => none }
def B4SendsWrongFalsely : Prop := b4SendsRow.holds Tryz.pinned (OpenSpec.ofChange b4SendsWrong)

/-- 'goosepondlaw32.B4Gets': WHATEVER THE INPUT: true; the input reads as it did. -/
def b4GetsSpec : ChangeSpec := { name := "b4Gets", fn := fun _ => fun
  | [d1, d2] => { results := [.lit (.bool true)], args := [d1, d2] }
  | _ => none }
def b4GetsRow : OpenClaim := { program := "ytpoigngpdcmipaagreat", sum := "fe0f13baa1bba7161a7b8088fd3af42eb40280961feaf0ad48640e6d41df4005", func := "goosepond/goosepondlaw32.B4Gets", spec := "b4Gets", inPlace := ["slices.overlaps[goosepond/holes.part]"], unfollowed := true, recurses := true, apart := false }
def B4GetsSaid : Prop := b4GetsRow.holds Tryz.pinned (OpenSpec.ofChange b4GetsSpec)

/-- ITS FALSE NEIGHBOUR: 'it returns false'. Refute it at one input. -/
def b4GetsWrong : ChangeSpec := { name := "b4Gets", fn := fun _ => fun
  | [d1, d2] => { results := [.lit (.bool false)], args := [d1, d2] }
  | _ => none }
def B4GetsWrongFalsely : Prop := b4GetsRow.holds Tryz.pinned (OpenSpec.ofChange b4GetsWrong)

/-- 'goosepondlaw32.B4Nobody': WHATEVER THE INPUT: true; the input reads as it did. -/
def b4NobodySpec : ChangeSpec := { name := "b4Nobody", fn := fun _ => fun
  | [d1, d2] => { results := [.lit (.bool true)], args := [d1, d2] }
  | _ => none }
def b4NobodyRow : OpenClaim := { program := "ytpoigngpdcmipaagreat", sum := "fe0f13baa1bba7161a7b8088fd3af42eb40280961feaf0ad48640e6d41df4005", func := "goosepond/goosepondlaw32.B4Nobody", spec := "b4Nobody", inPlace := ["slices.overlaps[goosepond/holes.part]"], unfollowed := true, recurses := true, apart := false }
def B4NobodySaid : Prop := b4NobodyRow.holds Tryz.pinned (OpenSpec.ofChange b4NobodySpec)

/-- ITS FALSE NEIGHBOUR: 'it returns false'. Refute it at one input. -/
def b4NobodyWrong : ChangeSpec := { name := "b4Nobody", fn := fun _ => fun
  | [d1, d2] => { results := [.lit (.bool false)], args := [d1, d2] }
  | _ => none }
def B4NobodyWrongFalsely : Prop := b4NobodyRow.holds Tryz.pinned (OpenSpec.ofChange b4NobodyWrong)

/- THE SECOND FORM. 'bulk': how many values and letters a reading holds, each counted each time it is reached (what is shared counts as often as it is met; a slice's spare places count too). A statement '..UptoSaid' is the law's where the arguments, and the package variables that the reading takes, are together of bulk at most 1048576: NARROWER than '..Said'. Prove '..Said' where nothing that the law and all that it calls make is longer than what came in: it says more and counts as full. Else prove '..UptoSaid'. A law counts once. -/
mutual
def uptoBulk {H : Type} : DataW H → Nat
  | .lit (.string bytes) => bytes.length + 1
  | .lit _ => 1
  | .nil => 1
  | .ptr d => uptoBulk d + 1
  | .slice elems spare => uptoBulkAll elems + uptoBulkAll spare + 1
  | .agg parts => uptoBulkAll parts + 1
  | .iface _ d => uptoBulk d + 1
  | .map entries => uptoBulkEntries entries + 1
  | .held _ => 1
def uptoBulkAll {H : Type} : List (DataW H) → Nat
  | [] => 0
  | d :: r => uptoBulk d + uptoBulkAll r
def uptoBulkEntries {H : Type} : List (Lit × DataW H) → Nat
  | [] => 0
  | x :: r => uptoBulkEntry x + uptoBulkEntries r
def uptoBulkEntry {H : Type} : Lit × DataW H → Nat
  | (.string bytes, d) => bytes.length + uptoBulk d + 1
  | (_, d) => uptoBulk d + 1
 end
def uptoSmall : (H : Type) → List (DataW H) → Bool := fun _ ds => decide (uptoBulkAll ds ≤ 1048576)
def OpenSpec.upto (s : _root_.Go.ChangeSpec) : _root_.Go.OpenSpec := { _root_.Go.OpenSpec.ofChange s with cond := some uptoSmall }

/-- 'goosepondlaw32.B4Sends', WHERE WHAT IT READS IS OF BULK AT MOST 1048576: true; the input reads as it did. -/
def b4SendsUptoRow : OpenClaim := { program := "ytpoigngpdcmipaagreat", sum := "fe0f13baa1bba7161a7b8088fd3af42eb40280961feaf0ad48640e6d41df4005", func := "goosepond/goosepondlaw32.B4Sends", spec := "b4Sends", unfollowed := true, recurses := true, apart := false, narrowed := true }
def B4SendsUptoSaid : Prop := b4SendsUptoRow.holds Tryz.pinned (OpenSpec.upto b4SendsSpec)

/-- 'goosepondlaw32.B4Gets', WHERE WHAT IT READS IS OF BULK AT MOST 1048576: true; the input reads as it did. -/
def b4GetsUptoRow : OpenClaim := { program := "ytpoigngpdcmipaagreat", sum := "fe0f13baa1bba7161a7b8088fd3af42eb40280961feaf0ad48640e6d41df4005", func := "goosepond/goosepondlaw32.B4Gets", spec := "b4Gets", inPlace := ["slices.overlaps[goosepond/holes.part]"], unfollowed := true, recurses := true, apart := false, narrowed := true }
def B4GetsUptoSaid : Prop := b4GetsUptoRow.holds Tryz.pinned (OpenSpec.upto b4GetsSpec)

/-- 'goosepondlaw32.B4Nobody', WHERE WHAT IT READS IS OF BULK AT MOST 1048576: true; the input reads as it did. -/
def b4NobodyUptoRow : OpenClaim := { program := "ytpoigngpdcmipaagreat", sum := "fe0f13baa1bba7161a7b8088fd3af42eb40280961feaf0ad48640e6d41df4005", func := "goosepond/goosepondlaw32.B4Nobody", spec := "b4Nobody", inPlace := ["slices.overlaps[goosepond/holes.part]"], unfollowed := true, recurses := true, apart := false, narrowed := true }
def B4NobodyUptoSaid : Prop := b4NobodyUptoRow.holds Tryz.pinned (OpenSpec.upto b4NobodySpec)

end Rows
end Go.Proofs.YtpoigngpdcmipaaGreat
