/-
  DERIVED. GIVEN WITH THE SEED: THE CARDS: each row of YtcikpcehdfnhfaaDoorRows.lean that lists a variable, with what it lists TIED to the program's text (the seventh form; the later family's looks); each row that meets fmt, with fmt's text TOLD by the authors' own Lean function (tested against real Go, not proved from fmt's source: count such statements apart). THE CARD IS WHAT COUNTS. Prove the row's statement (the work); the ties are given (YtcikpcehdfnhfaaDoorTie.lean); close each card by the builder's one call (the guide's Derived/Test/ToyasCard.lean, 'card_holds'). Laid BY PROGRAM, IN A SANDBOX (cutbox-door.mjs). By AI agents, Wed Nov 11 2026. No macro, syntax, notation, axiom, sorry.
-/
import Derived.Test.YtcikpcehdfnhfaaDoorRows
import GoSem.ClaimSeven
namespace Go.Proofs.YtcikpcehdfnhfaaDoor
namespace Rows

/-- THE TIED CARD OF 'laws.FnStream'. -/
def fnStreamCard : Claim7 := { stood := { row := fnStreamRow, standIns := [], harness := (true, "811ffb377deba6cd3954460b0884d1cae59bbdb264f67a5f8817edc5330a533f"), looks := false }, kinds := [], alts := [], laidByText := true, laidKinds := [.data], laidTests := true, laidLooks := .later }
def FnStreamCardSaid : Prop := Claim7.holds Tryd.pinned (.plain (OpenSpec.ofChange fnStreamSpec)) fnStreamCard

/-- THE TIED CARD OF 'laws.FnExactStreamBlock'. -/
def fnExactStreamBlockCard : Claim7 := { stood := { row := fnExactStreamBlockRow, standIns := [], harness := (true, "811ffb377deba6cd3954460b0884d1cae59bbdb264f67a5f8817edc5330a533f"), looks := false }, kinds := [], alts := [], laidByText := true, laidKinds := [.data], laidTests := true, laidLooks := .later }
def FnExactStreamBlockCardSaid : Prop := Claim7.holds Tryd.pinned (.plain (OpenSpec.ofChange fnExactStreamBlockSpec)) fnExactStreamBlockCard

/-- THE TIED CARD OF 'laws.FnExactStreamXor'. -/
def fnExactStreamXorCard : Claim7 := { stood := { row := fnExactStreamXorRow, standIns := [], harness := (true, "811ffb377deba6cd3954460b0884d1cae59bbdb264f67a5f8817edc5330a533f"), looks := false }, kinds := [], alts := [], laidByText := true, laidKinds := [.data], laidTests := true, laidLooks := .later }
def FnExactStreamXorCardSaid : Prop := Claim7.holds Tryd.pinned (.plain (OpenSpec.ofChange fnExactStreamXorSpec)) fnExactStreamXorCard

/-- THE SECOND FORM's CARD OF 'laws.FnStream'. -/
def fnStreamUptoCard : Claim7 := { stood := { row := fnStreamUptoRow, standIns := [], harness := (true, "811ffb377deba6cd3954460b0884d1cae59bbdb264f67a5f8817edc5330a533f"), looks := false }, kinds := [], alts := [], laidByText := true, laidKinds := [.data], laidTests := true, laidLooks := .later }
def FnStreamUptoCardSaid : Prop := Claim7.holds Tryd.pinned (.plain (OpenSpec.upto fnStreamSpec)) fnStreamUptoCard

/-- THE SECOND FORM's CARD OF 'laws.FnExactStreamBlock'. -/
def fnExactStreamBlockUptoCard : Claim7 := { stood := { row := fnExactStreamBlockUptoRow, standIns := [], harness := (true, "811ffb377deba6cd3954460b0884d1cae59bbdb264f67a5f8817edc5330a533f"), looks := false }, kinds := [], alts := [], laidByText := true, laidKinds := [.data], laidTests := true, laidLooks := .later }
def FnExactStreamBlockUptoCardSaid : Prop := Claim7.holds Tryd.pinned (.plain (OpenSpec.upto fnExactStreamBlockSpec)) fnExactStreamBlockUptoCard

/-- THE SECOND FORM's CARD OF 'laws.FnExactStreamXor'. -/
def fnExactStreamXorUptoCard : Claim7 := { stood := { row := fnExactStreamXorUptoRow, standIns := [], harness := (true, "811ffb377deba6cd3954460b0884d1cae59bbdb264f67a5f8817edc5330a533f"), looks := false }, kinds := [], alts := [], laidByText := true, laidKinds := [.data], laidTests := true, laidLooks := .later }
def FnExactStreamXorUptoCardSaid : Prop := Claim7.holds Tryd.pinned (.plain (OpenSpec.upto fnExactStreamXorSpec)) fnExactStreamXorUptoCard
end Rows
end Go.Proofs.YtcikpcehdfnhfaaDoor
