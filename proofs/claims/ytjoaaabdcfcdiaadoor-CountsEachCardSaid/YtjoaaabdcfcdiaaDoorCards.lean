/-
  DERIVED. GIVEN WITH THE SEED: THE CARDS: each row of YtjoaaabdcfcdiaaDoorRows.lean that lists a variable, with what it lists TIED to the program's text (the seventh form; the later family's looks); each row that meets fmt, with fmt's text TOLD by the authors' own Lean function (tested against real Go, not proved from fmt's source: count such statements apart). THE CARD IS WHAT COUNTS. Prove the row's statement (the work); the ties are given (YtjoaaabdcfcdiaaDoorTie.lean); close each card by the builder's one call (the guide's Derived/Test/ToyasCard.lean, 'card_holds'). Laid BY PROGRAM, IN A SANDBOX (cutbox-door.mjs). By AI agents, Wed Nov 11 2026. No macro, syntax, notation, axiom, sorry.
-/
import Derived.Test.YtjoaaabdcfcdiaaDoorRows
import GoSem.ClaimSeven
namespace Go.Proofs.YtjoaaabdcfcdiaaDoor
namespace Rows

/-- THE TIED CARD OF 'goosepondlaw31.CountsLive'. -/
def countsLiveCard : Claim7 := { stood := { row := countsLiveRow, standIns := [], harness := (true, "2b518650217b8244b893b9c1948ea0cf686df376ff2c663007180efe5fd75d8e"), looks := false }, kinds := [], alts := [], laidByText := true, laidKinds := [.data], laidTests := true, laidLooks := .later }
def CountsLiveCardSaid : Prop := Claim7.holds Tryd.pinned (.plain (OpenSpec.ofChange countsLiveSpec)) countsLiveCard

/-- THE TIED CARD OF 'goosepondlaw31.CountsEach'. -/
def countsEachCard : Claim7 := { stood := { row := countsEachRow, standIns := [], harness := (true, "2b518650217b8244b893b9c1948ea0cf686df376ff2c663007180efe5fd75d8e"), looks := false }, kinds := [], alts := [], laidByText := true, laidKinds := [.data], laidTests := true, laidLooks := .later }
def CountsEachCardSaid : Prop := Claim7.holds Tryd.pinned (.plain (OpenSpec.ofChange countsEachSpec)) countsEachCard

/-- THE TIED CARD OF 'goosepondlaw31.CountsNobody'. -/
def countsNobodyCard : Claim7 := { stood := { row := countsNobodyRow, standIns := [], harness := (true, "2b518650217b8244b893b9c1948ea0cf686df376ff2c663007180efe5fd75d8e"), looks := false }, kinds := [], alts := [], laidByText := true, laidKinds := [.data], laidTests := true, laidLooks := .later }
def CountsNobodyCardSaid : Prop := Claim7.holds Tryd.pinned (.plain (OpenSpec.ofChange countsNobodySpec)) countsNobodyCard

/-- THE SECOND FORM's CARD OF 'goosepondlaw31.CountsLive'. -/
def countsLiveUptoCard : Claim7 := { stood := { row := countsLiveUptoRow, standIns := [], harness := (true, "2b518650217b8244b893b9c1948ea0cf686df376ff2c663007180efe5fd75d8e"), looks := false }, kinds := [], alts := [], laidByText := true, laidKinds := [.data], laidTests := true, laidLooks := .later }
def CountsLiveUptoCardSaid : Prop := Claim7.holds Tryd.pinned (.plain (OpenSpec.upto countsLiveSpec)) countsLiveUptoCard

/-- THE SECOND FORM's CARD OF 'goosepondlaw31.CountsEach'. -/
def countsEachUptoCard : Claim7 := { stood := { row := countsEachUptoRow, standIns := [], harness := (true, "2b518650217b8244b893b9c1948ea0cf686df376ff2c663007180efe5fd75d8e"), looks := false }, kinds := [], alts := [], laidByText := true, laidKinds := [.data], laidTests := true, laidLooks := .later }
def CountsEachUptoCardSaid : Prop := Claim7.holds Tryd.pinned (.plain (OpenSpec.upto countsEachSpec)) countsEachUptoCard

/-- THE SECOND FORM's CARD OF 'goosepondlaw31.CountsNobody'. -/
def countsNobodyUptoCard : Claim7 := { stood := { row := countsNobodyUptoRow, standIns := [], harness := (true, "2b518650217b8244b893b9c1948ea0cf686df376ff2c663007180efe5fd75d8e"), looks := false }, kinds := [], alts := [], laidByText := true, laidKinds := [.data], laidTests := true, laidLooks := .later }
def CountsNobodyUptoCardSaid : Prop := Claim7.holds Tryd.pinned (.plain (OpenSpec.upto countsNobodySpec)) countsNobodyUptoCard
end Rows
end Go.Proofs.YtjoaaabdcfcdiaaDoor
