/-
  DERIVED. GIVEN WITH THE SEED: THE CARDS: each row of YtgdohkemamlnhaaDoorRows.lean that lists a variable, with what it lists TIED to the program's text (the seventh form; the later family's looks); each row that meets fmt, with fmt's text TOLD by the authors' own Lean function (tested against real Go, not proved from fmt's source: count such statements apart). THE CARD IS WHAT COUNTS. Prove the row's statement (the work); the ties are given (YtgdohkemamlnhaaDoorTie.lean); close each card by the builder's one call (the guide's Derived/Test/ToyasCard.lean, 'card_holds'). Laid BY PROGRAM, IN A SANDBOX (cutbox-door.mjs). By AI agents, Wed Nov 11 2026. No macro, syntax, notation, axiom, sorry.
-/
import Derived.Test.YtgdohkemamlnhaaDoorRows
import GoSem.ClaimSeven
namespace Go.Proofs.YtgdohkemamlnhaaDoor
namespace Rows

/-- THE TIED CARD OF 'laws.FnExactReadMessage'. -/
def fnExactReadMessageCard : Claim7 := { stood := { row := fnExactReadMessageRow, standIns := [], harness := (true, "6b15046def9750685e43b59030e45242a240336d0ac62f91707f96494e946d52"), looks := true }, kinds := [], alts := [], laidByText := true, laidKinds := [.handle], laidTests := true, laidLooks := .later }
def FnExactReadMessageCardSaid : Prop := Claim7.holds Tryd.pinned (.plain (OpenSpec.ofChange fnExactReadMessageSpec)) fnExactReadMessageCard

/-- THE TIED CARD OF 'laws.FnExactReadBatch'. -/
def fnExactReadBatchCard : Claim7 := { stood := { row := fnExactReadBatchRow, standIns := [], harness := (true, "6b15046def9750685e43b59030e45242a240336d0ac62f91707f96494e946d52"), looks := true }, kinds := [], alts := [], laidByText := true, laidKinds := [.handle], laidTests := true, laidLooks := .later }
def FnExactReadBatchCardSaid : Prop := Claim7.holds Tryd.pinned (.plain (OpenSpec.ofChange fnExactReadBatchSpec)) fnExactReadBatchCard

/-- THE TIED CARD OF 'laws.FnMessages'. -/
def fnMessagesCard : Claim7 := { stood := { row := fnMessagesRow, standIns := [], harness := (true, "6b15046def9750685e43b59030e45242a240336d0ac62f91707f96494e946d52"), looks := true }, kinds := [], alts := [], laidByText := true, laidKinds := [.handle], laidTests := true, laidLooks := .later }
def FnMessagesCardSaid : Prop := Claim7.holds Tryd.pinned (.plain (OpenSpec.ofChange fnMessagesSpec)) fnMessagesCard

/-- THE TIED CARD OF 'laws.FnBatches'. -/
def fnBatchesCard : Claim7 := { stood := { row := fnBatchesRow, standIns := [], harness := (true, "6b15046def9750685e43b59030e45242a240336d0ac62f91707f96494e946d52"), looks := true }, kinds := [], alts := [], laidByText := true, laidKinds := [.handle], laidTests := true, laidLooks := .later }
def FnBatchesCardSaid : Prop := Claim7.holds Tryd.pinned (.plain (OpenSpec.ofChange fnBatchesSpec)) fnBatchesCard

/-- THE SECOND FORM's CARD OF 'laws.FnExactReadMessage'. -/
def fnExactReadMessageUptoCard : Claim7 := { stood := { row := fnExactReadMessageUptoRow, standIns := [], harness := (true, "6b15046def9750685e43b59030e45242a240336d0ac62f91707f96494e946d52"), looks := true }, kinds := [], alts := [], laidByText := true, laidKinds := [.handle], laidTests := true, laidLooks := .later }
def FnExactReadMessageUptoCardSaid : Prop := Claim7.holds Tryd.pinned (.plain (OpenSpec.upto fnExactReadMessageSpec)) fnExactReadMessageUptoCard

/-- THE SECOND FORM's CARD OF 'laws.FnExactReadBatch'. -/
def fnExactReadBatchUptoCard : Claim7 := { stood := { row := fnExactReadBatchUptoRow, standIns := [], harness := (true, "6b15046def9750685e43b59030e45242a240336d0ac62f91707f96494e946d52"), looks := true }, kinds := [], alts := [], laidByText := true, laidKinds := [.handle], laidTests := true, laidLooks := .later }
def FnExactReadBatchUptoCardSaid : Prop := Claim7.holds Tryd.pinned (.plain (OpenSpec.upto fnExactReadBatchSpec)) fnExactReadBatchUptoCard

/-- THE SECOND FORM's CARD OF 'laws.FnMessages'. -/
def fnMessagesUptoCard : Claim7 := { stood := { row := fnMessagesUptoRow, standIns := [], harness := (true, "6b15046def9750685e43b59030e45242a240336d0ac62f91707f96494e946d52"), looks := true }, kinds := [], alts := [], laidByText := true, laidKinds := [.handle], laidTests := true, laidLooks := .later }
def FnMessagesUptoCardSaid : Prop := Claim7.holds Tryd.pinned (.plain (OpenSpec.upto fnMessagesSpec)) fnMessagesUptoCard

/-- THE SECOND FORM's CARD OF 'laws.FnBatches'. -/
def fnBatchesUptoCard : Claim7 := { stood := { row := fnBatchesUptoRow, standIns := [], harness := (true, "6b15046def9750685e43b59030e45242a240336d0ac62f91707f96494e946d52"), looks := true }, kinds := [], alts := [], laidByText := true, laidKinds := [.handle], laidTests := true, laidLooks := .later }
def FnBatchesUptoCardSaid : Prop := Claim7.holds Tryd.pinned (.plain (OpenSpec.upto fnBatchesSpec)) fnBatchesUptoCard
end Rows
end Go.Proofs.YtgdohkemamlnhaaDoor
