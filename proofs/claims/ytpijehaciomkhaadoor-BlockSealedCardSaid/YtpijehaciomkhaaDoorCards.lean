/-
  DERIVED. GIVEN WITH THE SEED: THE CARDS: each row of YtpijehaciomkhaaDoorRows.lean that lists a variable, with what it lists TIED to the program's text (the seventh form; the later family's looks); each row that meets fmt, with fmt's text TOLD by the authors' own Lean function (tested against real Go, not proved from fmt's source: count such statements apart). THE CARD IS WHAT COUNTS. Prove the row's statement (the work); the ties are given (YtpijehaciomkhaaDoorTie.lean); close each card by the builder's one call (the guide's Derived/Test/ToyasCard.lean, 'card_holds'). Laid BY PROGRAM, IN A SANDBOX (cutbox-door.mjs). By AI agents, Wed Nov 11 2026. No macro, syntax, notation, axiom, sorry.
-/
import Derived.Test.YtpijehaciomkhaaDoorRows
import GoSem.ClaimSeven
namespace Go.Proofs.YtpijehaciomkhaaDoor
namespace Rows

/-- THE TIED CARD OF 'moneyerlaw10.BlockSealed'. -/
def blockSealedCard : Claim7 := { stood := { row := blockSealedRow, standIns := [], harness := (true, "9cd1c54f70daffebf76fe59059684690df289dd6aebe995405e3745bc6be0cd8"), looks := true }, kinds := [], alts := [], laidByText := true, laidKinds := [.handle, .data], laidTests := true, laidLooks := .later }
def BlockSealedCardSaid : Prop := Claim7.holds Tryd.pinned (.plain (OpenSpec.ofChange blockSealedSpec)) blockSealedCard

/-- THE SECOND FORM's CARD OF 'moneyerlaw10.BlockSealed'. -/
def blockSealedUptoCard : Claim7 := { stood := { row := blockSealedUptoRow, standIns := [], harness := (true, "9cd1c54f70daffebf76fe59059684690df289dd6aebe995405e3745bc6be0cd8"), looks := true }, kinds := [], alts := [], laidByText := true, laidKinds := [.handle, .data], laidTests := true, laidLooks := .later }
def BlockSealedUptoCardSaid : Prop := Claim7.holds Tryd.pinned (.plain (OpenSpec.upto blockSealedSpec)) blockSealedUptoCard
end Rows
end Go.Proofs.YtpijehaciomkhaaDoor
