/-
  DERIVED. GIVEN WITH THE SEED: THE CARDS: each row of YtejeekbpeinioaaGreatDoorRows.lean that lists a variable, with what it lists TIED to the program's text (the seventh form; the later family's looks); each row that meets fmt, with fmt's text TOLD by the authors' own Lean function (tested against real Go, not proved from fmt's source: count such statements apart). THE CARD IS WHAT COUNTS. Prove the row's statement (the work); the ties are given (YtejeekbpeinioaaGreatDoorTie.lean); close each card by the builder's one call (the guide's Derived/Test/ToyasCard.lean, 'card_holds'). Laid BY PROGRAM, IN A SANDBOX (cutbox-door.mjs). By AI agents, Wed Nov 11 2026. No macro, syntax, notation, axiom, sorry.
-/
import Derived.Test.YtejeekbpeinioaaGreatDoorRows
import GoSem.ClaimSeven
namespace Go.Proofs.YtejeekbpeinioaaGreatDoor
namespace Rows

/-- THE TIED CARD OF 'moneyerlaw10.BlockPuts'. -/
def blockPutsCard : Claim7 := { stood := { row := blockPutsRow, standIns := [], harness := (true, "c14bf571d5c02692541fea118f490e84700523c88b3c77bd1facf22c32def8da"), looks := true }, kinds := [], alts := [], laidByText := true, laidKinds := [.handle, .data], laidTests := true, laidLooks := .later }
def BlockPutsCardSaid : Prop := Claim7.holds Tryz.pinned (.plain (OpenSpec.ofChange blockPutsSpec)) blockPutsCard

/-- THE TIED CARD OF 'moneyerlaw10.BlockGets'. -/
def blockGetsCard : Claim7 := { stood := { row := blockGetsRow, standIns := [], harness := (true, "c14bf571d5c02692541fea118f490e84700523c88b3c77bd1facf22c32def8da"), looks := true }, kinds := [], alts := [], laidByText := true, laidKinds := [.handle, .data], laidTests := true, laidLooks := .later }
def BlockGetsCardSaid : Prop := Claim7.holds Tryz.pinned (.plain (OpenSpec.ofChange blockGetsSpec)) blockGetsCard

/-- THE TIED CARD OF 'moneyerlaw10.BlockBack'. -/
def blockBackCard : Claim7 := { stood := { row := blockBackRow, standIns := [], harness := (true, "c14bf571d5c02692541fea118f490e84700523c88b3c77bd1facf22c32def8da"), looks := true }, kinds := [], alts := [], laidByText := true, laidKinds := [.handle, .data], laidTests := true, laidLooks := .later }
def BlockBackCardSaid : Prop := Claim7.holds Tryz.pinned (.plain (OpenSpec.ofChange blockBackSpec)) blockBackCard

/-- THE TIED CARD OF 'moneyerlaw10.BlockFresh'. -/
def blockFreshCard : Claim7 := { stood := { row := blockFreshRow, standIns := [], harness := (true, "c14bf571d5c02692541fea118f490e84700523c88b3c77bd1facf22c32def8da"), looks := true }, kinds := [], alts := [], laidByText := true, laidKinds := [.handle, .data], laidTests := true, laidLooks := .later }
def BlockFreshCardSaid : Prop := Claim7.holds Tryz.pinned (.plain (OpenSpec.ofChange blockFreshSpec)) blockFreshCard

/-- THE SECOND FORM's CARD OF 'moneyerlaw10.BlockPuts'. -/
def blockPutsUptoCard : Claim7 := { stood := { row := blockPutsUptoRow, standIns := [], harness := (true, "c14bf571d5c02692541fea118f490e84700523c88b3c77bd1facf22c32def8da"), looks := true }, kinds := [], alts := [], laidByText := true, laidKinds := [.handle, .data], laidTests := true, laidLooks := .later }
def BlockPutsUptoCardSaid : Prop := Claim7.holds Tryz.pinned (.plain (OpenSpec.upto blockPutsSpec)) blockPutsUptoCard

/-- THE SECOND FORM's CARD OF 'moneyerlaw10.BlockGets'. -/
def blockGetsUptoCard : Claim7 := { stood := { row := blockGetsUptoRow, standIns := [], harness := (true, "c14bf571d5c02692541fea118f490e84700523c88b3c77bd1facf22c32def8da"), looks := true }, kinds := [], alts := [], laidByText := true, laidKinds := [.handle, .data], laidTests := true, laidLooks := .later }
def BlockGetsUptoCardSaid : Prop := Claim7.holds Tryz.pinned (.plain (OpenSpec.upto blockGetsSpec)) blockGetsUptoCard

/-- THE SECOND FORM's CARD OF 'moneyerlaw10.BlockBack'. -/
def blockBackUptoCard : Claim7 := { stood := { row := blockBackUptoRow, standIns := [], harness := (true, "c14bf571d5c02692541fea118f490e84700523c88b3c77bd1facf22c32def8da"), looks := true }, kinds := [], alts := [], laidByText := true, laidKinds := [.handle, .data], laidTests := true, laidLooks := .later }
def BlockBackUptoCardSaid : Prop := Claim7.holds Tryz.pinned (.plain (OpenSpec.upto blockBackSpec)) blockBackUptoCard

/-- THE SECOND FORM's CARD OF 'moneyerlaw10.BlockFresh'. -/
def blockFreshUptoCard : Claim7 := { stood := { row := blockFreshUptoRow, standIns := [], harness := (true, "c14bf571d5c02692541fea118f490e84700523c88b3c77bd1facf22c32def8da"), looks := true }, kinds := [], alts := [], laidByText := true, laidKinds := [.handle, .data], laidTests := true, laidLooks := .later }
def BlockFreshUptoCardSaid : Prop := Claim7.holds Tryz.pinned (.plain (OpenSpec.upto blockFreshSpec)) blockFreshUptoCard
end Rows
end Go.Proofs.YtejeekbpeinioaaGreatDoor
