/-
  DERIVED. GIVEN WITH THE SEED: THE CARDS: each row of YtpkopigiijiiiaaDoorRows.lean that lists a variable, with what it lists TIED to the program's text (the seventh form; the later family's looks); each row that meets fmt, with fmt's text TOLD by the authors' own Lean function (tested against real Go, not proved from fmt's source: count such statements apart). THE CARD IS WHAT COUNTS. Prove the row's statement (the work); the ties are given (YtpkopigiijiiiaaDoorTie.lean); close each card by the builder's one call (the guide's Derived/Test/ToyasCard.lean, 'card_holds'). Laid BY PROGRAM, IN A SANDBOX (cutbox-door.mjs). By AI agents, Wed Nov 11 2026. No macro, syntax, notation, axiom, sorry.
-/
import Derived.Test.YtpkopigiijiiiaaDoorRows
import GoSem.ClaimSeven
namespace Go.Proofs.YtpkopigiijiiiaaDoor
namespace Rows

/-- THE TIED CARD OF 'moneyerlaw13.LampMakes'. -/
def lampMakesCard : Claim7 := { stood := { row := lampMakesRow, standIns := [], harness := (true, "a71764054451359d29f9645c0ede7cdcc27b0b94d70d23ca9598454bc7e52aa5"), looks := false }, kinds := [], alts := [], laidByText := true, laidKinds := [.data], laidTests := true, laidLooks := .later }
def LampMakesCardSaid : Prop := Claim7.holds Tryd.pinned (.plain (OpenSpec.ofChange lampMakesSpec)) lampMakesCard

/-- THE TIED CARD OF 'moneyerlaw13.LampChecks'. -/
def lampChecksCard : Claim7 := { stood := { row := lampChecksRow, standIns := [], harness := (true, "a71764054451359d29f9645c0ede7cdcc27b0b94d70d23ca9598454bc7e52aa5"), looks := false }, kinds := [], alts := [], laidByText := true, laidKinds := [.data], laidTests := true, laidLooks := .later }
def LampChecksCardSaid : Prop := Claim7.holds Tryd.pinned (.plain (OpenSpec.ofChange lampChecksSpec)) lampChecksCard

/-- THE TIED CARD OF 'moneyerlaw13.LampBack'. -/
def lampBackCard : Claim7 := { stood := { row := lampBackRow, standIns := [], harness := (true, "a71764054451359d29f9645c0ede7cdcc27b0b94d70d23ca9598454bc7e52aa5"), looks := false }, kinds := [], alts := [], laidByText := true, laidKinds := [.data], laidTests := true, laidLooks := .later }
def LampBackCardSaid : Prop := Claim7.holds Tryd.pinned (.plain (OpenSpec.ofChange lampBackSpec)) lampBackCard

/-- THE TIED CARD OF 'moneyerlaw13.LampSpoilt'. -/
def lampSpoiltCard : Claim7 := { stood := { row := lampSpoiltRow, standIns := [], harness := (true, "a71764054451359d29f9645c0ede7cdcc27b0b94d70d23ca9598454bc7e52aa5"), looks := false }, kinds := [], alts := [], laidByText := true, laidKinds := [.data], laidTests := true, laidLooks := .later }
def LampSpoiltCardSaid : Prop := Claim7.holds Tryd.pinned (.plain (OpenSpec.ofChange lampSpoiltSpec)) lampSpoiltCard

/-- THE TIED CARD OF 'moneyerlaw13.LampOnce'. -/
def lampOnceCard : Claim7 := { stood := { row := lampOnceRow, standIns := [], harness := (true, "a71764054451359d29f9645c0ede7cdcc27b0b94d70d23ca9598454bc7e52aa5"), looks := false }, kinds := [], alts := [], laidByText := true, laidKinds := [.data], laidTests := true, laidLooks := .later }
def LampOnceCardSaid : Prop := Claim7.holds Tryd.pinned (.plain (OpenSpec.ofChange lampOnceSpec)) lampOnceCard

/-- THE SECOND FORM's CARD OF 'moneyerlaw13.LampMakes'. -/
def lampMakesUptoCard : Claim7 := { stood := { row := lampMakesUptoRow, standIns := [], harness := (true, "a71764054451359d29f9645c0ede7cdcc27b0b94d70d23ca9598454bc7e52aa5"), looks := false }, kinds := [], alts := [], laidByText := true, laidKinds := [.data], laidTests := true, laidLooks := .later }
def LampMakesUptoCardSaid : Prop := Claim7.holds Tryd.pinned (.plain (OpenSpec.upto lampMakesSpec)) lampMakesUptoCard

/-- THE SECOND FORM's CARD OF 'moneyerlaw13.LampChecks'. -/
def lampChecksUptoCard : Claim7 := { stood := { row := lampChecksUptoRow, standIns := [], harness := (true, "a71764054451359d29f9645c0ede7cdcc27b0b94d70d23ca9598454bc7e52aa5"), looks := false }, kinds := [], alts := [], laidByText := true, laidKinds := [.data], laidTests := true, laidLooks := .later }
def LampChecksUptoCardSaid : Prop := Claim7.holds Tryd.pinned (.plain (OpenSpec.upto lampChecksSpec)) lampChecksUptoCard

/-- THE SECOND FORM's CARD OF 'moneyerlaw13.LampBack'. -/
def lampBackUptoCard : Claim7 := { stood := { row := lampBackUptoRow, standIns := [], harness := (true, "a71764054451359d29f9645c0ede7cdcc27b0b94d70d23ca9598454bc7e52aa5"), looks := false }, kinds := [], alts := [], laidByText := true, laidKinds := [.data], laidTests := true, laidLooks := .later }
def LampBackUptoCardSaid : Prop := Claim7.holds Tryd.pinned (.plain (OpenSpec.upto lampBackSpec)) lampBackUptoCard

/-- THE SECOND FORM's CARD OF 'moneyerlaw13.LampSpoilt'. -/
def lampSpoiltUptoCard : Claim7 := { stood := { row := lampSpoiltUptoRow, standIns := [], harness := (true, "a71764054451359d29f9645c0ede7cdcc27b0b94d70d23ca9598454bc7e52aa5"), looks := false }, kinds := [], alts := [], laidByText := true, laidKinds := [.data], laidTests := true, laidLooks := .later }
def LampSpoiltUptoCardSaid : Prop := Claim7.holds Tryd.pinned (.plain (OpenSpec.upto lampSpoiltSpec)) lampSpoiltUptoCard

/-- THE SECOND FORM's CARD OF 'moneyerlaw13.LampOnce'. -/
def lampOnceUptoCard : Claim7 := { stood := { row := lampOnceUptoRow, standIns := [], harness := (true, "a71764054451359d29f9645c0ede7cdcc27b0b94d70d23ca9598454bc7e52aa5"), looks := false }, kinds := [], alts := [], laidByText := true, laidKinds := [.data], laidTests := true, laidLooks := .later }
def LampOnceUptoCardSaid : Prop := Claim7.holds Tryd.pinned (.plain (OpenSpec.upto lampOnceSpec)) lampOnceUptoCard
end Rows
end Go.Proofs.YtpkopigiijiiiaaDoor
