/-
  DERIVED. GIVEN WITH THE SEED: THE CARDS: each row of YtggiijlgdpkkfaaDoorRows.lean that lists a variable, with what it lists TIED to the program's text (the seventh form; the later family's looks); each row that meets fmt, with fmt's text TOLD by the authors' own Lean function (tested against real Go, not proved from fmt's source: count such statements apart). THE CARD IS WHAT COUNTS. Prove the row's statement (the work); the ties are given (YtggiijlgdpkkfaaDoorTie.lean); close each card by the builder's one call (the guide's Derived/Test/ToyasCard.lean, 'card_holds'). Laid BY PROGRAM, IN A SANDBOX (cutbox-door.mjs). By AI agents, Wed Nov 11 2026. No macro, syntax, notation, axiom, sorry.
-/
import Derived.Test.YtggiijlgdpkkfaaDoorRows
import GoSem.ClaimSeven
namespace Go.Proofs.YtggiijlgdpkkfaaDoor
namespace Rows

/-- THE TIED CARD OF 'laws.FnExactRouteBack'. -/
def fnExactRouteBackCard : Claim7 := { stood := { row := fnExactRouteBackRow, standIns := [], harness := (true, "fc562ef4f73f568d379cc4cb00bd80b472842f71e69684a2d085f7637cb5b65d"), looks := false }, kinds := [], alts := [], laidByText := true, laidKinds := [.data], laidTests := true, laidLooks := .later }
def FnExactRouteBackCardSaid : Prop := Claim7.holds Tryd.pinned (.plain (OpenSpec.ofChange fnExactRouteBackSpec)) fnExactRouteBackCard

/-- THE SECOND FORM's CARD OF 'laws.FnExactRouteBack'. -/
def fnExactRouteBackUptoCard : Claim7 := { stood := { row := fnExactRouteBackUptoRow, standIns := [], harness := (true, "fc562ef4f73f568d379cc4cb00bd80b472842f71e69684a2d085f7637cb5b65d"), looks := false }, kinds := [], alts := [], laidByText := true, laidKinds := [.data], laidTests := true, laidLooks := .later }
def FnExactRouteBackUptoCardSaid : Prop := Claim7.holds Tryd.pinned (.plain (OpenSpec.upto fnExactRouteBackSpec)) fnExactRouteBackUptoCard
end Rows
end Go.Proofs.YtggiijlgdpkkfaaDoor
