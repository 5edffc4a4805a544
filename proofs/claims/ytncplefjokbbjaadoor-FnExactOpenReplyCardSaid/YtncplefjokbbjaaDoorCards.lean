/-
  DERIVED. GIVEN WITH THE SEED: THE CARDS: each row of YtncplefjokbbjaaDoorRows.lean that lists a variable, with what it lists TIED to the program's text (the seventh form; the later family's looks); each row that meets fmt, with fmt's text TOLD by the authors' own Lean function (tested against real Go, not proved from fmt's source: count such statements apart). THE CARD IS WHAT COUNTS. Prove the row's statement (the work); the ties are given (YtncplefjokbbjaaDoorTie.lean); close each card by the builder's one call (the guide's Derived/Test/ToyasCard.lean, 'card_holds'). Laid BY PROGRAM, IN A SANDBOX (cutbox-door.mjs). By AI agents, Wed Nov 11 2026. No macro, syntax, notation, axiom, sorry.
-/
import Derived.Test.YtncplefjokbbjaaDoorRows
import GoSem.ClaimSeven
namespace Go.Proofs.YtncplefjokbbjaaDoor
namespace Rows

/-- THE TIED CARD OF 'laws.FnExactWrapReply'. -/
def fnExactWrapReplyCard : Claim7 := { stood := { row := fnExactWrapReplyRow, standIns := [], harness := (true, "0c19416c5f5d2b1fed320d9eeb77821922bca8bd790b99f1e7ffc618637e00f2"), looks := false }, kinds := [], alts := [], laidByText := true, laidKinds := [.data], laidTests := true, laidLooks := .later }
def FnExactWrapReplyCardSaid : Prop := Claim7.holds Tryd.pinned (.plain (OpenSpec.ofChange fnExactWrapReplySpec)) fnExactWrapReplyCard

/-- THE TIED CARD OF 'laws.FnExactOpenReply'. -/
def fnExactOpenReplyCard : Claim7 := { stood := { row := fnExactOpenReplyRow, standIns := [], harness := (true, "0c19416c5f5d2b1fed320d9eeb77821922bca8bd790b99f1e7ffc618637e00f2"), looks := false }, kinds := [], alts := [], laidByText := true, laidKinds := [.data], laidTests := true, laidLooks := .later }
def FnExactOpenReplyCardSaid : Prop := Claim7.holds Tryd.pinned (.plain (OpenSpec.ofChange fnExactOpenReplySpec)) fnExactOpenReplyCard

/-- THE SECOND FORM's CARD OF 'laws.FnExactWrapReply'. -/
def fnExactWrapReplyUptoCard : Claim7 := { stood := { row := fnExactWrapReplyUptoRow, standIns := [], harness := (true, "0c19416c5f5d2b1fed320d9eeb77821922bca8bd790b99f1e7ffc618637e00f2"), looks := false }, kinds := [], alts := [], laidByText := true, laidKinds := [.data], laidTests := true, laidLooks := .later }
def FnExactWrapReplyUptoCardSaid : Prop := Claim7.holds Tryd.pinned (.plain (OpenSpec.upto fnExactWrapReplySpec)) fnExactWrapReplyUptoCard

/-- THE SECOND FORM's CARD OF 'laws.FnExactOpenReply'. -/
def fnExactOpenReplyUptoCard : Claim7 := { stood := { row := fnExactOpenReplyUptoRow, standIns := [], harness := (true, "0c19416c5f5d2b1fed320d9eeb77821922bca8bd790b99f1e7ffc618637e00f2"), looks := false }, kinds := [], alts := [], laidByText := true, laidKinds := [.data], laidTests := true, laidLooks := .later }
def FnExactOpenReplyUptoCardSaid : Prop := Claim7.holds Tryd.pinned (.plain (OpenSpec.upto fnExactOpenReplySpec)) fnExactOpenReplyUptoCard
end Rows
end Go.Proofs.YtncplefjokbbjaaDoor
