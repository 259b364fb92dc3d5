/-
  DERIVED. GIVEN WITH THE SEED: THE CARDS: each row of YtghbliabmecbcaaDoorRows.lean that lists a variable, with what it lists TIED to the program's text (the seventh form; the later family's looks); each row that meets fmt, with fmt's text TOLD by the authors' own Lean function (tested against real Go, not proved from fmt's source: count such statements apart). THE CARD IS WHAT COUNTS. Prove the row's statement (the work); the ties are given (YtghbliabmecbcaaDoorTie.lean); close each card by the builder's one call (the guide's Derived/Test/ToyasCard.lean, 'card_holds'). Laid BY PROGRAM, IN A SANDBOX (cutbox-door.mjs). By AI agents, Wed Nov 11 2026. No macro, syntax, notation, axiom, sorry.
-/
import Derived.Test.YtghbliabmecbcaaDoorRows
import GoSem.ClaimSeven
namespace Go.Proofs.YtghbliabmecbcaaDoor
namespace Rows

/-- THE TIED CARD OF 'goosepondlaw24.SessionLives'. -/
def sessionLivesCard : Claim7 := { stood := { row := sessionLivesRow, standIns := [], harness := (true, "027e34a637e86688e8c465c40c6f86d1df15968b356722f5fe93a709c772ac71"), looks := false }, kinds := [], alts := [], laidByText := true, laidKinds := [.data, .data, .data], laidTests := true, laidLooks := .later }
def SessionLivesCardSaid : Prop := Claim7.holds Tryd.pinned (.plain (OpenSpec.ofChange sessionLivesSpec)) sessionLivesCard

/-- THE TIED CARD OF 'goosepondlaw24.SessionOnce'. -/
def sessionOnceCard : Claim7 := { stood := { row := sessionOnceRow, standIns := [], harness := (true, "027e34a637e86688e8c465c40c6f86d1df15968b356722f5fe93a709c772ac71"), looks := false }, kinds := [], alts := [], laidByText := true, laidKinds := [.data, .data, .data], laidTests := true, laidLooks := .later }
def SessionOnceCardSaid : Prop := Claim7.holds Tryd.pinned (.plain (OpenSpec.ofChange sessionOnceSpec)) sessionOnceCard

/-- THE TIED CARD OF 'goosepondlaw24.SessionNobody'. -/
def sessionNobodyCard : Claim7 := { stood := { row := sessionNobodyRow, standIns := [], harness := (true, "027e34a637e86688e8c465c40c6f86d1df15968b356722f5fe93a709c772ac71"), looks := false }, kinds := [], alts := [], laidByText := true, laidKinds := [.data, .data, .data], laidTests := true, laidLooks := .later }
def SessionNobodyCardSaid : Prop := Claim7.holds Tryd.pinned (.plain (OpenSpec.ofChange sessionNobodySpec)) sessionNobodyCard

/-- THE SECOND FORM's CARD OF 'goosepondlaw24.SessionLives'. -/
def sessionLivesUptoCard : Claim7 := { stood := { row := sessionLivesUptoRow, standIns := [], harness := (true, "027e34a637e86688e8c465c40c6f86d1df15968b356722f5fe93a709c772ac71"), looks := false }, kinds := [], alts := [], laidByText := true, laidKinds := [.data, .data, .data], laidTests := true, laidLooks := .later }
def SessionLivesUptoCardSaid : Prop := Claim7.holds Tryd.pinned (.plain (OpenSpec.upto sessionLivesSpec)) sessionLivesUptoCard

/-- THE SECOND FORM's CARD OF 'goosepondlaw24.SessionOnce'. -/
def sessionOnceUptoCard : Claim7 := { stood := { row := sessionOnceUptoRow, standIns := [], harness := (true, "027e34a637e86688e8c465c40c6f86d1df15968b356722f5fe93a709c772ac71"), looks := false }, kinds := [], alts := [], laidByText := true, laidKinds := [.data, .data, .data], laidTests := true, laidLooks := .later }
def SessionOnceUptoCardSaid : Prop := Claim7.holds Tryd.pinned (.plain (OpenSpec.upto sessionOnceSpec)) sessionOnceUptoCard

/-- THE SECOND FORM's CARD OF 'goosepondlaw24.SessionNobody'. -/
def sessionNobodyUptoCard : Claim7 := { stood := { row := sessionNobodyUptoRow, standIns := [], harness := (true, "027e34a637e86688e8c465c40c6f86d1df15968b356722f5fe93a709c772ac71"), looks := false }, kinds := [], alts := [], laidByText := true, laidKinds := [.data, .data, .data], laidTests := true, laidLooks := .later }
def SessionNobodyUptoCardSaid : Prop := Claim7.holds Tryd.pinned (.plain (OpenSpec.upto sessionNobodySpec)) sessionNobodyUptoCard
end Rows
end Go.Proofs.YtghbliabmecbcaaDoor
