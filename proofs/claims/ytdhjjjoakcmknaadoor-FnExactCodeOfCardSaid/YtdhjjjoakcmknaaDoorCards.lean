/-
  DERIVED. GIVEN WITH THE SEED: THE CARDS: each row of YtdhjjjoakcmknaaDoorRows.lean that lists a variable, with what it lists TIED to the program's text (the seventh form; the later family's looks); each row that meets fmt, with fmt's text TOLD by the authors' own Lean function (tested against real Go, not proved from fmt's source: count such statements apart). THE CARD IS WHAT COUNTS. Prove the row's statement (the work); the ties are given (YtdhjjjoakcmknaaDoorTie.lean); close each card by the builder's one call (the guide's Derived/Test/ToyasCard.lean, 'card_holds'). Laid BY PROGRAM, IN A SANDBOX (cutbox-door.mjs). By AI agents, Wed Nov 11 2026. No macro, syntax, notation, axiom, sorry.
-/
import Derived.Test.YtdhjjjoakcmknaaDoorRows
import GoSem.ClaimSeven
namespace Go.Proofs.YtdhjjjoakcmknaaDoor
namespace Rows

/-- THE TIED CARD OF 'laws.FnDecimal'. -/
def fnDecimalCard : Claim7 := { stood := { row := fnDecimalRow, standIns := [], harness := (true, "9f35d2bc01c78f09c03918a0f5babbd0dd9ef3a222e8a29499d8e5012575458c"), looks := false }, kinds := [], alts := [], laidByText := true, laidKinds := [.data, .data, .data], laidTests := true, laidLooks := .later }
def FnDecimalCardSaid : Prop := Claim7.holds Tryd.pinned (.plain (OpenSpec.ofChange fnDecimalSpec)) fnDecimalCard

/-- THE TIED CARD OF 'laws.FnExactCodeWord'. -/
def fnExactCodeWordCard : Claim7 := { stood := { row := fnExactCodeWordRow, standIns := [], harness := (true, "9f35d2bc01c78f09c03918a0f5babbd0dd9ef3a222e8a29499d8e5012575458c"), looks := false }, kinds := [], alts := [], laidByText := true, laidKinds := [.data], laidTests := true, laidLooks := .later }
def FnExactCodeWordCardSaid : Prop := Claim7.holds Tryd.pinned (.plain (OpenSpec.ofChange fnExactCodeWordSpec)) fnExactCodeWordCard

/-- THE TIED CARD OF 'laws.FnExactCodeOf'. -/
def fnExactCodeOfCard : Claim7 := { stood := { row := fnExactCodeOfRow, standIns := [], harness := (true, "9f35d2bc01c78f09c03918a0f5babbd0dd9ef3a222e8a29499d8e5012575458c"), looks := false }, kinds := [], alts := [], laidByText := true, laidKinds := [.data], laidTests := true, laidLooks := .later }
def FnExactCodeOfCardSaid : Prop := Claim7.holds Tryd.pinned (.plain (OpenSpec.ofChange fnExactCodeOfSpec)) fnExactCodeOfCard

/-- THE TIED CARD OF 'laws.FnExactFieldDecimal'. -/
def fnExactFieldDecimalCard : Claim7 := { stood := { row := fnExactFieldDecimalRow, standIns := [], harness := (true, "9f35d2bc01c78f09c03918a0f5babbd0dd9ef3a222e8a29499d8e5012575458c"), looks := false }, kinds := [], alts := [], laidByText := true, laidKinds := [.data, .data, .data], laidTests := true, laidLooks := .later }
def FnExactFieldDecimalCardSaid : Prop := Claim7.holds Tryd.pinned (.plain (OpenSpec.ofChange fnExactFieldDecimalSpec)) fnExactFieldDecimalCard

/-- THE SECOND FORM's CARD OF 'laws.FnDecimal'. -/
def fnDecimalUptoCard : Claim7 := { stood := { row := fnDecimalUptoRow, standIns := [], harness := (true, "9f35d2bc01c78f09c03918a0f5babbd0dd9ef3a222e8a29499d8e5012575458c"), looks := false }, kinds := [], alts := [], laidByText := true, laidKinds := [.data, .data, .data], laidTests := true, laidLooks := .later }
def FnDecimalUptoCardSaid : Prop := Claim7.holds Tryd.pinned (.plain (OpenSpec.upto fnDecimalSpec)) fnDecimalUptoCard

/-- THE SECOND FORM's CARD OF 'laws.FnExactCodeWord'. -/
def fnExactCodeWordUptoCard : Claim7 := { stood := { row := fnExactCodeWordUptoRow, standIns := [], harness := (true, "9f35d2bc01c78f09c03918a0f5babbd0dd9ef3a222e8a29499d8e5012575458c"), looks := false }, kinds := [], alts := [], laidByText := true, laidKinds := [.data], laidTests := true, laidLooks := .later }
def FnExactCodeWordUptoCardSaid : Prop := Claim7.holds Tryd.pinned (.plain (OpenSpec.upto fnExactCodeWordSpec)) fnExactCodeWordUptoCard

/-- THE SECOND FORM's CARD OF 'laws.FnExactCodeOf'. -/
def fnExactCodeOfUptoCard : Claim7 := { stood := { row := fnExactCodeOfUptoRow, standIns := [], harness := (true, "9f35d2bc01c78f09c03918a0f5babbd0dd9ef3a222e8a29499d8e5012575458c"), looks := false }, kinds := [], alts := [], laidByText := true, laidKinds := [.data], laidTests := true, laidLooks := .later }
def FnExactCodeOfUptoCardSaid : Prop := Claim7.holds Tryd.pinned (.plain (OpenSpec.upto fnExactCodeOfSpec)) fnExactCodeOfUptoCard

/-- THE SECOND FORM's CARD OF 'laws.FnExactFieldDecimal'. -/
def fnExactFieldDecimalUptoCard : Claim7 := { stood := { row := fnExactFieldDecimalUptoRow, standIns := [], harness := (true, "9f35d2bc01c78f09c03918a0f5babbd0dd9ef3a222e8a29499d8e5012575458c"), looks := false }, kinds := [], alts := [], laidByText := true, laidKinds := [.data, .data, .data], laidTests := true, laidLooks := .later }
def FnExactFieldDecimalUptoCardSaid : Prop := Claim7.holds Tryd.pinned (.plain (OpenSpec.upto fnExactFieldDecimalSpec)) fnExactFieldDecimalUptoCard
end Rows
end Go.Proofs.YtdhjjjoakcmknaaDoor
