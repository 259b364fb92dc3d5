/-
  DERIVED. GIVEN WITH THE SEED: THE CARDS: each row of YtafidbjaeopciaaDoorRows.lean that lists a variable, with what it lists TIED to the program's text (the seventh form; the later family's looks); each row that meets fmt, with fmt's text TOLD by the authors' own Lean function (tested against real Go, not proved from fmt's source: count such statements apart). THE CARD IS WHAT COUNTS. Prove the row's statement (the work); the ties are given (YtafidbjaeopciaaDoorTie.lean); close each card by the builder's one call (the guide's Derived/Test/ToyasCard.lean, 'card_holds'). Laid BY PROGRAM, IN A SANDBOX (cutbox-door.mjs). By AI agents, Wed Nov 11 2026. No macro, syntax, notation, axiom, sorry.
-/
import Derived.Test.YtafidbjaeopciaaDoorRows
import GoSem.ClaimSeven
namespace Go.Proofs.YtafidbjaeopciaaDoor
namespace Rows

/-- THE TIED CARD OF 'goosepondlaw22.BindLives'. -/
def bindLivesCard : Claim7 := { stood := { row := bindLivesRow, standIns := [], harness := (true, "183ff87a5a63e94e84ce58f38bb8909909c48117016321c69d4c71f9192637ce"), looks := false }, kinds := [], alts := [], laidByText := true, laidKinds := [.data, .data, .data], laidTests := true, laidLooks := .later }
def BindLivesCardSaid : Prop := Claim7.holds Tryd.pinned (.plain (OpenSpec.ofChange bindLivesSpec)) bindLivesCard

/-- THE TIED CARD OF 'goosepondlaw22.BindInjective'. -/
def bindInjectiveCard : Claim7 := { stood := { row := bindInjectiveRow, standIns := [], harness := (true, "183ff87a5a63e94e84ce58f38bb8909909c48117016321c69d4c71f9192637ce"), looks := false }, kinds := [], alts := [], laidByText := true, laidKinds := [.data, .data, .data], laidTests := true, laidLooks := .later }
def BindInjectiveCardSaid : Prop := Claim7.holds Tryd.pinned (.plain (OpenSpec.ofChange bindInjectiveSpec)) bindInjectiveCard

/-- THE TIED CARD OF 'goosepondlaw22.BindNobody'. -/
def bindNobodyCard : Claim7 := { stood := { row := bindNobodyRow, standIns := [], harness := (true, "183ff87a5a63e94e84ce58f38bb8909909c48117016321c69d4c71f9192637ce"), looks := false }, kinds := [], alts := [], laidByText := true, laidKinds := [.data, .data, .data], laidTests := true, laidLooks := .later }
def BindNobodyCardSaid : Prop := Claim7.holds Tryd.pinned (.plain (OpenSpec.ofChange bindNobodySpec)) bindNobodyCard

/-- THE SECOND FORM's CARD OF 'goosepondlaw22.BindLives'. -/
def bindLivesUptoCard : Claim7 := { stood := { row := bindLivesUptoRow, standIns := [], harness := (true, "183ff87a5a63e94e84ce58f38bb8909909c48117016321c69d4c71f9192637ce"), looks := false }, kinds := [], alts := [], laidByText := true, laidKinds := [.data, .data, .data], laidTests := true, laidLooks := .later }
def BindLivesUptoCardSaid : Prop := Claim7.holds Tryd.pinned (.plain (OpenSpec.upto bindLivesSpec)) bindLivesUptoCard

/-- THE SECOND FORM's CARD OF 'goosepondlaw22.BindInjective'. -/
def bindInjectiveUptoCard : Claim7 := { stood := { row := bindInjectiveUptoRow, standIns := [], harness := (true, "183ff87a5a63e94e84ce58f38bb8909909c48117016321c69d4c71f9192637ce"), looks := false }, kinds := [], alts := [], laidByText := true, laidKinds := [.data, .data, .data], laidTests := true, laidLooks := .later }
def BindInjectiveUptoCardSaid : Prop := Claim7.holds Tryd.pinned (.plain (OpenSpec.upto bindInjectiveSpec)) bindInjectiveUptoCard

/-- THE SECOND FORM's CARD OF 'goosepondlaw22.BindNobody'. -/
def bindNobodyUptoCard : Claim7 := { stood := { row := bindNobodyUptoRow, standIns := [], harness := (true, "183ff87a5a63e94e84ce58f38bb8909909c48117016321c69d4c71f9192637ce"), looks := false }, kinds := [], alts := [], laidByText := true, laidKinds := [.data, .data, .data], laidTests := true, laidLooks := .later }
def BindNobodyUptoCardSaid : Prop := Claim7.holds Tryd.pinned (.plain (OpenSpec.upto bindNobodySpec)) bindNobodyUptoCard
end Rows
end Go.Proofs.YtafidbjaeopciaaDoor
