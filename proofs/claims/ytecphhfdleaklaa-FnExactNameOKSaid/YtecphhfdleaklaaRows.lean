/-
  No cell of these rows narrows 'for every input' (looked for: loops, veiled, ifaces, maps, wideKeys, modest, calm, conditions, laid).
  DERIVED. THE GIVEN ROWS OF THIS SEAT. 19 by the template 'for every input the law returns true; each argument reads behind the call as it read before'; 0 by the template 'total and deterministic' (their statements: YtecphhfdleaklaaTotals.lean).
  GIVEN WITH THE SEED: the statements are not yours to turn. If you find one false, say at which input.
  Laid BY PROGRAM, IN A SANDBOX (cutbox-rows.mjs): the forced cells as the released guide's own fill.sh prints them over the translation f9cbbbfa0c3848db… (all of the seat's roots in one cut). By AI agents, Wed Nov 11 2026. No macro, syntax, notation, axiom, sorry.
-/
import Derived.Test.YtecphhfdleaklaaChecked
import GoSem.Claim
import GoSem.ClaimJoined
import GoSem.ClaimMapViews
import Derived.JoinedTies
import Derived.KernelRfl
namespace Go.Proofs.Ytecphhfdleaklaa
/- THE CELL 'sum', in the pinned program and in every row, IS THE sha256 OF THE DUMP (.gsa) THAT YtecphhfdleaklaaProg.lean LOADS. Nothing in Lean hashes anything: it is a label: what it is worth is what the hold of that sum in a sandbox is worth. -/
noncomputable def Try.pinned : Pinned := { name := "ytecphhfdleaklaa", sum := "f9cbbbfa0c3848dbca9f8d231d6b728379bbcb2b5732c199229b7e2a709d99b6", checked := Try.checked }
namespace Rows
def none {H : Type} : Left H := { results := [], args := [] }

/-- 'laws.FnField': WHATEVER THE INPUT: true; the input reads as it did. -/
def fnFieldSpec : ChangeSpec := { name := "fnField", fn := fun _ => fun
  | [d1, d2] => { results := [.lit (.bool true)], args := [d1, d2] }
  | _ => none }
def fnFieldRow : OpenClaim := { program := "ytecphhfdleaklaa", sum := "f9cbbbfa0c3848dbca9f8d231d6b728379bbcb2b5732c199229b7e2a709d99b6", func := "loop.example/g00254/laws.FnField", spec := "fnField", inPlace := ["math/bits.Add64"], apart := false }
def FnFieldSaid : Prop := fnFieldRow.holds Try.pinned (OpenSpec.ofChange fnFieldSpec)

/-- ITS FALSE NEIGHBOUR: 'it returns false'. Refute it at one input. -/
def fnFieldWrong : ChangeSpec := { name := "fnField", fn := fun _ => fun
  | [d1, d2] => { results := [.lit (.bool false)], args := [d1, d2] }
  | _ => none }
def FnFieldWrongFalsely : Prop := fnFieldRow.holds Try.pinned (OpenSpec.ofChange fnFieldWrong)

/-- 'laws.FnFermat': WHATEVER THE INPUT: true; the input reads as it did. -/
def fnFermatSpec : ChangeSpec := { name := "fnFermat", fn := fun _ => fun
  | [d1, d2] => { results := [.lit (.bool true)], args := [d1, d2] }
  | _ => none }
def fnFermatRow : OpenClaim := { program := "ytecphhfdleaklaa", sum := "f9cbbbfa0c3848dbca9f8d231d6b728379bbcb2b5732c199229b7e2a709d99b6", func := "loop.example/g00254/laws.FnFermat", spec := "fnFermat", inPlace := ["math/bits.Add64"], apart := false }
def FnFermatSaid : Prop := fnFermatRow.holds Try.pinned (OpenSpec.ofChange fnFermatSpec)

/-- ITS FALSE NEIGHBOUR: 'it returns false'. Refute it at one input. -/
def fnFermatWrong : ChangeSpec := { name := "fnFermat", fn := fun _ => fun
  | [d1, d2] => { results := [.lit (.bool false)], args := [d1, d2] }
  | _ => none }
def FnFermatWrongFalsely : Prop := fnFermatRow.holds Try.pinned (OpenSpec.ofChange fnFermatWrong)

/-- 'laws.FnShared': WHATEVER THE INPUT: true; the input reads as it did. -/
def fnSharedSpec : ChangeSpec := { name := "fnShared", fn := fun _ => fun
  | [d1, d2] => { results := [.lit (.bool true)], args := [d1, d2] }
  | _ => none }
def fnSharedRow : OpenClaim := { program := "ytecphhfdleaklaa", sum := "f9cbbbfa0c3848dbca9f8d231d6b728379bbcb2b5732c199229b7e2a709d99b6", func := "loop.example/g00254/laws.FnShared", spec := "fnShared", inPlace := ["math/bits.Add64"], apart := false }
def FnSharedSaid : Prop := fnSharedRow.holds Try.pinned (OpenSpec.ofChange fnSharedSpec)

/-- ITS FALSE NEIGHBOUR: 'it returns false'. Refute it at one input. -/
def fnSharedWrong : ChangeSpec := { name := "fnShared", fn := fun _ => fun
  | [d1, d2] => { results := [.lit (.bool false)], args := [d1, d2] }
  | _ => none }
def FnSharedWrongFalsely : Prop := fnSharedRow.holds Try.pinned (OpenSpec.ofChange fnSharedWrong)

/-- 'laws.FnDouble': WHATEVER THE INPUT: true; the input reads as it did. -/
def fnDoubleSpec : ChangeSpec := { name := "fnDouble", fn := fun _ => fun
  | [d1, d2] => { results := [.lit (.bool true)], args := [d1, d2] }
  | _ => none }
def fnDoubleRow : OpenClaim := { program := "ytecphhfdleaklaa", sum := "f9cbbbfa0c3848dbca9f8d231d6b728379bbcb2b5732c199229b7e2a709d99b6", func := "loop.example/g00254/laws.FnDouble", spec := "fnDouble", inPlace := ["math/bits.Add64"], apart := false }
def FnDoubleSaid : Prop := fnDoubleRow.holds Try.pinned (OpenSpec.ofChange fnDoubleSpec)

/-- ITS FALSE NEIGHBOUR: 'it returns false'. Refute it at one input. -/
def fnDoubleWrong : ChangeSpec := { name := "fnDouble", fn := fun _ => fun
  | [d1, d2] => { results := [.lit (.bool false)], args := [d1, d2] }
  | _ => none }
def FnDoubleWrongFalsely : Prop := fnDoubleRow.holds Try.pinned (OpenSpec.ofChange fnDoubleWrong)

/-- 'laws.FnExactNameOK': WHATEVER THE INPUT: true; the input reads as it did. -/
def fnExactNameOKSpec : ChangeSpec := { name := "fnExactNameOK", fn := fun _ => fun
  | [d] => { results := [.lit (.bool true)], args := [d] }
  | _ => none }
def fnExactNameOKRow : OpenClaim := { program := "ytecphhfdleaklaa", sum := "f9cbbbfa0c3848dbca9f8d231d6b728379bbcb2b5732c199229b7e2a709d99b6", func := "loop.example/g00254/laws.FnExactNameOK", spec := "fnExactNameOK", apart := false }
def FnExactNameOKSaid : Prop := fnExactNameOKRow.holds Try.pinned (OpenSpec.ofChange fnExactNameOKSpec)

/-- ITS FALSE NEIGHBOUR: 'it returns false'. Refute it at one input. -/
def fnExactNameOKWrong : ChangeSpec := { name := "fnExactNameOK", fn := fun _ => fun
  | [d] => { results := [.lit (.bool false)], args := [d] }
  | _ => none }
def FnExactNameOKWrongFalsely : Prop := fnExactNameOKRow.holds Try.pinned (OpenSpec.ofChange fnExactNameOKWrong)

/-- 'laws.FnExactFieldOK': WHATEVER THE INPUT: true; the input reads as it did. -/
def fnExactFieldOKSpec : ChangeSpec := { name := "fnExactFieldOK", fn := fun _ => fun
  | [d] => { results := [.lit (.bool true)], args := [d] }
  | _ => none }
def fnExactFieldOKRow : OpenClaim := { program := "ytecphhfdleaklaa", sum := "f9cbbbfa0c3848dbca9f8d231d6b728379bbcb2b5732c199229b7e2a709d99b6", func := "loop.example/g00254/laws.FnExactFieldOK", spec := "fnExactFieldOK", apart := false }
def FnExactFieldOKSaid : Prop := fnExactFieldOKRow.holds Try.pinned (OpenSpec.ofChange fnExactFieldOKSpec)

/-- ITS FALSE NEIGHBOUR: 'it returns false'. Refute it at one input. -/
def fnExactFieldOKWrong : ChangeSpec := { name := "fnExactFieldOK", fn := fun _ => fun
  | [d] => { results := [.lit (.bool false)], args := [d] }
  | _ => none }
def FnExactFieldOKWrongFalsely : Prop := fnExactFieldOKRow.holds Try.pinned (OpenSpec.ofChange fnExactFieldOKWrong)

/-- 'laws.FnExactFieldOf': WHATEVER THE INPUT: true; the input reads as it did. -/
def fnExactFieldOfSpec : ChangeSpec := { name := "fnExactFieldOf", fn := fun _ => fun
  | [d] => { results := [.lit (.bool true)], args := [d] }
  | _ => none }
def fnExactFieldOfRow : OpenClaim := { program := "ytecphhfdleaklaa", sum := "f9cbbbfa0c3848dbca9f8d231d6b728379bbcb2b5732c199229b7e2a709d99b6", func := "loop.example/g00254/laws.FnExactFieldOf", spec := "fnExactFieldOf", apart := false }
def FnExactFieldOfSaid : Prop := fnExactFieldOfRow.holds Try.pinned (OpenSpec.ofChange fnExactFieldOfSpec)

/-- ITS FALSE NEIGHBOUR: 'it returns false'. Refute it at one input. -/
def fnExactFieldOfWrong : ChangeSpec := { name := "fnExactFieldOf", fn := fun _ => fun
  | [d] => { results := [.lit (.bool false)], args := [d] }
  | _ => none }
def FnExactFieldOfWrongFalsely : Prop := fnExactFieldOfRow.holds Try.pinned (OpenSpec.ofChange fnExactFieldOfWrong)

/-- 'laws.FnExactFieldRead': WHATEVER THE INPUT: true; the input reads as it did. -/
def fnExactFieldReadSpec : ChangeSpec := { name := "fnExactFieldRead", fn := fun _ => fun
  | [d] => { results := [.lit (.bool true)], args := [d] }
  | _ => none }
def fnExactFieldReadRow : OpenClaim := { program := "ytecphhfdleaklaa", sum := "f9cbbbfa0c3848dbca9f8d231d6b728379bbcb2b5732c199229b7e2a709d99b6", func := "loop.example/g00254/laws.FnExactFieldRead", spec := "fnExactFieldRead", apart := false }
def FnExactFieldReadSaid : Prop := fnExactFieldReadRow.holds Try.pinned (OpenSpec.ofChange fnExactFieldReadSpec)

/-- ITS FALSE NEIGHBOUR: 'it returns false'. Refute it at one input. -/
def fnExactFieldReadWrong : ChangeSpec := { name := "fnExactFieldRead", fn := fun _ => fun
  | [d] => { results := [.lit (.bool false)], args := [d] }
  | _ => none }
def FnExactFieldReadWrongFalsely : Prop := fnExactFieldReadRow.holds Try.pinned (OpenSpec.ofChange fnExactFieldReadWrong)

/-- 'laws.FnExactFieldAdd': WHATEVER THE INPUT: true; the input reads as it did. -/
def fnExactFieldAddSpec : ChangeSpec := { name := "fnExactFieldAdd", fn := fun _ => fun
  | [d1, d2] => { results := [.lit (.bool true)], args := [d1, d2] }
  | _ => none }
def fnExactFieldAddRow : OpenClaim := { program := "ytecphhfdleaklaa", sum := "f9cbbbfa0c3848dbca9f8d231d6b728379bbcb2b5732c199229b7e2a709d99b6", func := "loop.example/g00254/laws.FnExactFieldAdd", spec := "fnExactFieldAdd", apart := false }
def FnExactFieldAddSaid : Prop := fnExactFieldAddRow.holds Try.pinned (OpenSpec.ofChange fnExactFieldAddSpec)

/-- ITS FALSE NEIGHBOUR: 'it returns false'. Refute it at one input. -/
def fnExactFieldAddWrong : ChangeSpec := { name := "fnExactFieldAdd", fn := fun _ => fun
  | [d1, d2] => { results := [.lit (.bool false)], args := [d1, d2] }
  | _ => none }
def FnExactFieldAddWrongFalsely : Prop := fnExactFieldAddRow.holds Try.pinned (OpenSpec.ofChange fnExactFieldAddWrong)

/-- 'laws.FnExactFieldSub': WHATEVER THE INPUT: true; the input reads as it did. -/
def fnExactFieldSubSpec : ChangeSpec := { name := "fnExactFieldSub", fn := fun _ => fun
  | [d1, d2] => { results := [.lit (.bool true)], args := [d1, d2] }
  | _ => none }
def fnExactFieldSubRow : OpenClaim := { program := "ytecphhfdleaklaa", sum := "f9cbbbfa0c3848dbca9f8d231d6b728379bbcb2b5732c199229b7e2a709d99b6", func := "loop.example/g00254/laws.FnExactFieldSub", spec := "fnExactFieldSub", apart := false }
def FnExactFieldSubSaid : Prop := fnExactFieldSubRow.holds Try.pinned (OpenSpec.ofChange fnExactFieldSubSpec)

/-- ITS FALSE NEIGHBOUR: 'it returns false'. Refute it at one input. -/
def fnExactFieldSubWrong : ChangeSpec := { name := "fnExactFieldSub", fn := fun _ => fun
  | [d1, d2] => { results := [.lit (.bool false)], args := [d1, d2] }
  | _ => none }
def FnExactFieldSubWrongFalsely : Prop := fnExactFieldSubRow.holds Try.pinned (OpenSpec.ofChange fnExactFieldSubWrong)

/-- 'laws.FnExactFieldMul': WHATEVER THE INPUT: true; the input reads as it did. -/
def fnExactFieldMulSpec : ChangeSpec := { name := "fnExactFieldMul", fn := fun _ => fun
  | [d1, d2] => { results := [.lit (.bool true)], args := [d1, d2] }
  | _ => none }
def fnExactFieldMulRow : OpenClaim := { program := "ytecphhfdleaklaa", sum := "f9cbbbfa0c3848dbca9f8d231d6b728379bbcb2b5732c199229b7e2a709d99b6", func := "loop.example/g00254/laws.FnExactFieldMul", spec := "fnExactFieldMul", inPlace := ["math/bits.Add64"], apart := false }
def FnExactFieldMulSaid : Prop := fnExactFieldMulRow.holds Try.pinned (OpenSpec.ofChange fnExactFieldMulSpec)

/-- ITS FALSE NEIGHBOUR: 'it returns false'. Refute it at one input. -/
def fnExactFieldMulWrong : ChangeSpec := { name := "fnExactFieldMul", fn := fun _ => fun
  | [d1, d2] => { results := [.lit (.bool false)], args := [d1, d2] }
  | _ => none }
def FnExactFieldMulWrongFalsely : Prop := fnExactFieldMulRow.holds Try.pinned (OpenSpec.ofChange fnExactFieldMulWrong)

/-- 'laws.FnExactFieldPower': WHATEVER THE INPUT: true; the input reads as it did. -/
def fnExactFieldPowerSpec : ChangeSpec := { name := "fnExactFieldPower", fn := fun _ => fun
  | [d1, d2] => { results := [.lit (.bool true)], args := [d1, d2] }
  | _ => none }
def fnExactFieldPowerRow : OpenClaim := { program := "ytecphhfdleaklaa", sum := "f9cbbbfa0c3848dbca9f8d231d6b728379bbcb2b5732c199229b7e2a709d99b6", func := "loop.example/g00254/laws.FnExactFieldPower", spec := "fnExactFieldPower", inPlace := ["math/bits.Add64"], apart := false }
def FnExactFieldPowerSaid : Prop := fnExactFieldPowerRow.holds Try.pinned (OpenSpec.ofChange fnExactFieldPowerSpec)

/-- ITS FALSE NEIGHBOUR: 'it returns false'. Refute it at one input. -/
def fnExactFieldPowerWrong : ChangeSpec := { name := "fnExactFieldPower", fn := fun _ => fun
  | [d1, d2] => { results := [.lit (.bool false)], args := [d1, d2] }
  | _ => none }
def FnExactFieldPowerWrongFalsely : Prop := fnExactFieldPowerRow.holds Try.pinned (OpenSpec.ofChange fnExactFieldPowerWrong)

/-- 'laws.FnExactFieldInverse': WHATEVER THE INPUT: true; the input reads as it did. -/
def fnExactFieldInverseSpec : ChangeSpec := { name := "fnExactFieldInverse", fn := fun _ => fun
  | [d] => { results := [.lit (.bool true)], args := [d] }
  | _ => none }
def fnExactFieldInverseRow : OpenClaim := { program := "ytecphhfdleaklaa", sum := "f9cbbbfa0c3848dbca9f8d231d6b728379bbcb2b5732c199229b7e2a709d99b6", func := "loop.example/g00254/laws.FnExactFieldInverse", spec := "fnExactFieldInverse", inPlace := ["math/bits.Add64"], apart := false }
def FnExactFieldInverseSaid : Prop := fnExactFieldInverseRow.holds Try.pinned (OpenSpec.ofChange fnExactFieldInverseSpec)

/-- ITS FALSE NEIGHBOUR: 'it returns false'. Refute it at one input. -/
def fnExactFieldInverseWrong : ChangeSpec := { name := "fnExactFieldInverse", fn := fun _ => fun
  | [d] => { results := [.lit (.bool false)], args := [d] }
  | _ => none }
def FnExactFieldInverseWrongFalsely : Prop := fnExactFieldInverseRow.holds Try.pinned (OpenSpec.ofChange fnExactFieldInverseWrong)

/-- 'laws.FnExactClampScalar': WHATEVER THE INPUT: true; the input reads as it did. -/
def fnExactClampScalarSpec : ChangeSpec := { name := "fnExactClampScalar", fn := fun _ => fun
  | [d] => { results := [.lit (.bool true)], args := [d] }
  | _ => none }
def fnExactClampScalarRow : OpenClaim := { program := "ytecphhfdleaklaa", sum := "f9cbbbfa0c3848dbca9f8d231d6b728379bbcb2b5732c199229b7e2a709d99b6", func := "loop.example/g00254/laws.FnExactClampScalar", spec := "fnExactClampScalar", apart := false }
def FnExactClampScalarSaid : Prop := fnExactClampScalarRow.holds Try.pinned (OpenSpec.ofChange fnExactClampScalarSpec)

/-- ITS FALSE NEIGHBOUR: 'it returns false'. Refute it at one input. -/
def fnExactClampScalarWrong : ChangeSpec := { name := "fnExactClampScalar", fn := fun _ => fun
  | [d] => { results := [.lit (.bool false)], args := [d] }
  | _ => none }
def FnExactClampScalarWrongFalsely : Prop := fnExactClampScalarRow.holds Try.pinned (OpenSpec.ofChange fnExactClampScalarWrong)

/-- 'laws.FnExactScalarMult': WHATEVER THE INPUT: true; the input reads as it did. -/
def fnExactScalarMultSpec : ChangeSpec := { name := "fnExactScalarMult", fn := fun _ => fun
  | [d1, d2] => { results := [.lit (.bool true)], args := [d1, d2] }
  | _ => none }
def fnExactScalarMultRow : OpenClaim := { program := "ytecphhfdleaklaa", sum := "f9cbbbfa0c3848dbca9f8d231d6b728379bbcb2b5732c199229b7e2a709d99b6", func := "loop.example/g00254/laws.FnExactScalarMult", spec := "fnExactScalarMult", inPlace := ["math/bits.Add64"], apart := false }
def FnExactScalarMultSaid : Prop := fnExactScalarMultRow.holds Try.pinned (OpenSpec.ofChange fnExactScalarMultSpec)

/-- ITS FALSE NEIGHBOUR: 'it returns false'. Refute it at one input. -/
def fnExactScalarMultWrong : ChangeSpec := { name := "fnExactScalarMult", fn := fun _ => fun
  | [d1, d2] => { results := [.lit (.bool false)], args := [d1, d2] }
  | _ => none }
def FnExactScalarMultWrongFalsely : Prop := fnExactScalarMultRow.holds Try.pinned (OpenSpec.ofChange fnExactScalarMultWrong)

/-- 'laws.FnExactPublicKey': WHATEVER THE INPUT: true; the input reads as it did. -/
def fnExactPublicKeySpec : ChangeSpec := { name := "fnExactPublicKey", fn := fun _ => fun
  | [d] => { results := [.lit (.bool true)], args := [d] }
  | _ => none }
def fnExactPublicKeyRow : OpenClaim := { program := "ytecphhfdleaklaa", sum := "f9cbbbfa0c3848dbca9f8d231d6b728379bbcb2b5732c199229b7e2a709d99b6", func := "loop.example/g00254/laws.FnExactPublicKey", spec := "fnExactPublicKey", inPlace := ["math/bits.Add64"], apart := false }
def FnExactPublicKeySaid : Prop := fnExactPublicKeyRow.holds Try.pinned (OpenSpec.ofChange fnExactPublicKeySpec)

/-- ITS FALSE NEIGHBOUR: 'it returns false'. Refute it at one input. -/
def fnExactPublicKeyWrong : ChangeSpec := { name := "fnExactPublicKey", fn := fun _ => fun
  | [d] => { results := [.lit (.bool false)], args := [d] }
  | _ => none }
def FnExactPublicKeyWrongFalsely : Prop := fnExactPublicKeyRow.holds Try.pinned (OpenSpec.ofChange fnExactPublicKeyWrong)

/-- 'laws.FnExactSharedSecret': WHATEVER THE INPUT: true; the input reads as it did. -/
def fnExactSharedSecretSpec : ChangeSpec := { name := "fnExactSharedSecret", fn := fun _ => fun
  | [d1, d2] => { results := [.lit (.bool true)], args := [d1, d2] }
  | _ => none }
def fnExactSharedSecretRow : OpenClaim := { program := "ytecphhfdleaklaa", sum := "f9cbbbfa0c3848dbca9f8d231d6b728379bbcb2b5732c199229b7e2a709d99b6", func := "loop.example/g00254/laws.FnExactSharedSecret", spec := "fnExactSharedSecret", inPlace := ["math/bits.Add64"], apart := false }
def FnExactSharedSecretSaid : Prop := fnExactSharedSecretRow.holds Try.pinned (OpenSpec.ofChange fnExactSharedSecretSpec)

/-- ITS FALSE NEIGHBOUR: 'it returns false'. Refute it at one input. -/
def fnExactSharedSecretWrong : ChangeSpec := { name := "fnExactSharedSecret", fn := fun _ => fun
  | [d1, d2] => { results := [.lit (.bool false)], args := [d1, d2] }
  | _ => none }
def FnExactSharedSecretWrongFalsely : Prop := fnExactSharedSecretRow.holds Try.pinned (OpenSpec.ofChange fnExactSharedSecretWrong)

/-- 'laws.FnExactDoublePoint': WHATEVER THE INPUT: true; the input reads as it did. -/
def fnExactDoublePointSpec : ChangeSpec := { name := "fnExactDoublePoint", fn := fun _ => fun
  | [d] => { results := [.lit (.bool true)], args := [d] }
  | _ => none }
def fnExactDoublePointRow : OpenClaim := { program := "ytecphhfdleaklaa", sum := "f9cbbbfa0c3848dbca9f8d231d6b728379bbcb2b5732c199229b7e2a709d99b6", func := "loop.example/g00254/laws.FnExactDoublePoint", spec := "fnExactDoublePoint", inPlace := ["math/bits.Add64"], apart := false }
def FnExactDoublePointSaid : Prop := fnExactDoublePointRow.holds Try.pinned (OpenSpec.ofChange fnExactDoublePointSpec)

/-- ITS FALSE NEIGHBOUR: 'it returns false'. Refute it at one input. -/
def fnExactDoublePointWrong : ChangeSpec := { name := "fnExactDoublePoint", fn := fun _ => fun
  | [d] => { results := [.lit (.bool false)], args := [d] }
  | _ => none }
def FnExactDoublePointWrongFalsely : Prop := fnExactDoublePointRow.holds Try.pinned (OpenSpec.ofChange fnExactDoublePointWrong)

/-- 'laws.FnExactHexText': WHATEVER THE INPUT: true; the input reads as it did. -/
def fnExactHexTextSpec : ChangeSpec := { name := "fnExactHexText", fn := fun _ => fun
  | [d] => { results := [.lit (.bool true)], args := [d] }
  | _ => none }
def fnExactHexTextRow : OpenClaim := { program := "ytecphhfdleaklaa", sum := "f9cbbbfa0c3848dbca9f8d231d6b728379bbcb2b5732c199229b7e2a709d99b6", func := "loop.example/g00254/laws.FnExactHexText", spec := "fnExactHexText", apart := false }
def FnExactHexTextSaid : Prop := fnExactHexTextRow.holds Try.pinned (OpenSpec.ofChange fnExactHexTextSpec)

/-- ITS FALSE NEIGHBOUR: 'it returns false'. Refute it at one input. -/
def fnExactHexTextWrong : ChangeSpec := { name := "fnExactHexText", fn := fun _ => fun
  | [d] => { results := [.lit (.bool false)], args := [d] }
  | _ => none }
def FnExactHexTextWrongFalsely : Prop := fnExactHexTextRow.holds Try.pinned (OpenSpec.ofChange fnExactHexTextWrong)

/- THE SECOND FORM. 'bulk': how many values and letters a reading holds, each counted each time it is reached (what is shared counts as often as it is met; a slice's spare places count too). A statement '..UptoSaid' is the law's where the arguments, and the package variables that the reading takes, are together of bulk at most 1048576: NARROWER than '..Said'. Prove '..Said' where nothing that the law and all that it calls make is longer than what came in: it says more and counts as full. Else prove '..UptoSaid'. A law counts once. -/
mutual
def uptoBulk {H : Type} : DataW H → Nat
  | .lit (.string bytes) => bytes.length + 1
  | .lit _ => 1
  | .nil => 1
  | .ptr d => uptoBulk d + 1
  | .slice elems spare => uptoBulkAll elems + uptoBulkAll spare + 1
  | .agg parts => uptoBulkAll parts + 1
  | .iface _ d => uptoBulk d + 1
  | .map entries => uptoBulkEntries entries + 1
  | .held _ => 1
def uptoBulkAll {H : Type} : List (DataW H) → Nat
  | [] => 0
  | d :: r => uptoBulk d + uptoBulkAll r
def uptoBulkEntries {H : Type} : List (Lit × DataW H) → Nat
  | [] => 0
  | x :: r => uptoBulkEntry x + uptoBulkEntries r
def uptoBulkEntry {H : Type} : Lit × DataW H → Nat
  | (.string bytes, d) => bytes.length + uptoBulk d + 1
  | (_, d) => uptoBulk d + 1
 end
def uptoSmall : (H : Type) → List (DataW H) → Bool := fun _ ds => decide (uptoBulkAll ds ≤ 1048576)
def OpenSpec.upto (s : _root_.Go.ChangeSpec) : _root_.Go.OpenSpec := { _root_.Go.OpenSpec.ofChange s with cond := some uptoSmall }

/-- 'laws.FnField', WHERE WHAT IT READS IS OF BULK AT MOST 1048576: true; the input reads as it did. -/
def fnFieldUptoRow : OpenClaim := { program := "ytecphhfdleaklaa", sum := "f9cbbbfa0c3848dbca9f8d231d6b728379bbcb2b5732c199229b7e2a709d99b6", func := "loop.example/g00254/laws.FnField", spec := "fnField", inPlace := ["math/bits.Add64"], apart := false, narrowed := true }
def FnFieldUptoSaid : Prop := fnFieldUptoRow.holds Try.pinned (OpenSpec.upto fnFieldSpec)

/-- 'laws.FnFermat', WHERE WHAT IT READS IS OF BULK AT MOST 1048576: true; the input reads as it did. -/
def fnFermatUptoRow : OpenClaim := { program := "ytecphhfdleaklaa", sum := "f9cbbbfa0c3848dbca9f8d231d6b728379bbcb2b5732c199229b7e2a709d99b6", func := "loop.example/g00254/laws.FnFermat", spec := "fnFermat", inPlace := ["math/bits.Add64"], apart := false, narrowed := true }
def FnFermatUptoSaid : Prop := fnFermatUptoRow.holds Try.pinned (OpenSpec.upto fnFermatSpec)

/-- 'laws.FnShared', WHERE WHAT IT READS IS OF BULK AT MOST 1048576: true; the input reads as it did. -/
def fnSharedUptoRow : OpenClaim := { program := "ytecphhfdleaklaa", sum := "f9cbbbfa0c3848dbca9f8d231d6b728379bbcb2b5732c199229b7e2a709d99b6", func := "loop.example/g00254/laws.FnShared", spec := "fnShared", inPlace := ["math/bits.Add64"], apart := false, narrowed := true }
def FnSharedUptoSaid : Prop := fnSharedUptoRow.holds Try.pinned (OpenSpec.upto fnSharedSpec)

/-- 'laws.FnDouble', WHERE WHAT IT READS IS OF BULK AT MOST 1048576: true; the input reads as it did. -/
def fnDoubleUptoRow : OpenClaim := { program := "ytecphhfdleaklaa", sum := "f9cbbbfa0c3848dbca9f8d231d6b728379bbcb2b5732c199229b7e2a709d99b6", func := "loop.example/g00254/laws.FnDouble", spec := "fnDouble", inPlace := ["math/bits.Add64"], apart := false, narrowed := true }
def FnDoubleUptoSaid : Prop := fnDoubleUptoRow.holds Try.pinned (OpenSpec.upto fnDoubleSpec)

/-- 'laws.FnExactNameOK', WHERE WHAT IT READS IS OF BULK AT MOST 1048576: true; the input reads as it did. -/
def fnExactNameOKUptoRow : OpenClaim := { program := "ytecphhfdleaklaa", sum := "f9cbbbfa0c3848dbca9f8d231d6b728379bbcb2b5732c199229b7e2a709d99b6", func := "loop.example/g00254/laws.FnExactNameOK", spec := "fnExactNameOK", apart := false, narrowed := true }
def FnExactNameOKUptoSaid : Prop := fnExactNameOKUptoRow.holds Try.pinned (OpenSpec.upto fnExactNameOKSpec)

/-- 'laws.FnExactFieldOK', WHERE WHAT IT READS IS OF BULK AT MOST 1048576: true; the input reads as it did. -/
def fnExactFieldOKUptoRow : OpenClaim := { program := "ytecphhfdleaklaa", sum := "f9cbbbfa0c3848dbca9f8d231d6b728379bbcb2b5732c199229b7e2a709d99b6", func := "loop.example/g00254/laws.FnExactFieldOK", spec := "fnExactFieldOK", apart := false, narrowed := true }
def FnExactFieldOKUptoSaid : Prop := fnExactFieldOKUptoRow.holds Try.pinned (OpenSpec.upto fnExactFieldOKSpec)

/-- 'laws.FnExactFieldOf', WHERE WHAT IT READS IS OF BULK AT MOST 1048576: true; the input reads as it did. -/
def fnExactFieldOfUptoRow : OpenClaim := { program := "ytecphhfdleaklaa", sum := "f9cbbbfa0c3848dbca9f8d231d6b728379bbcb2b5732c199229b7e2a709d99b6", func := "loop.example/g00254/laws.FnExactFieldOf", spec := "fnExactFieldOf", apart := false, narrowed := true }
def FnExactFieldOfUptoSaid : Prop := fnExactFieldOfUptoRow.holds Try.pinned (OpenSpec.upto fnExactFieldOfSpec)

/-- 'laws.FnExactFieldRead', WHERE WHAT IT READS IS OF BULK AT MOST 1048576: true; the input reads as it did. -/
def fnExactFieldReadUptoRow : OpenClaim := { program := "ytecphhfdleaklaa", sum := "f9cbbbfa0c3848dbca9f8d231d6b728379bbcb2b5732c199229b7e2a709d99b6", func := "loop.example/g00254/laws.FnExactFieldRead", spec := "fnExactFieldRead", apart := false, narrowed := true }
def FnExactFieldReadUptoSaid : Prop := fnExactFieldReadUptoRow.holds Try.pinned (OpenSpec.upto fnExactFieldReadSpec)

/-- 'laws.FnExactFieldAdd', WHERE WHAT IT READS IS OF BULK AT MOST 1048576: true; the input reads as it did. -/
def fnExactFieldAddUptoRow : OpenClaim := { program := "ytecphhfdleaklaa", sum := "f9cbbbfa0c3848dbca9f8d231d6b728379bbcb2b5732c199229b7e2a709d99b6", func := "loop.example/g00254/laws.FnExactFieldAdd", spec := "fnExactFieldAdd", apart := false, narrowed := true }
def FnExactFieldAddUptoSaid : Prop := fnExactFieldAddUptoRow.holds Try.pinned (OpenSpec.upto fnExactFieldAddSpec)

/-- 'laws.FnExactFieldSub', WHERE WHAT IT READS IS OF BULK AT MOST 1048576: true; the input reads as it did. -/
def fnExactFieldSubUptoRow : OpenClaim := { program := "ytecphhfdleaklaa", sum := "f9cbbbfa0c3848dbca9f8d231d6b728379bbcb2b5732c199229b7e2a709d99b6", func := "loop.example/g00254/laws.FnExactFieldSub", spec := "fnExactFieldSub", apart := false, narrowed := true }
def FnExactFieldSubUptoSaid : Prop := fnExactFieldSubUptoRow.holds Try.pinned (OpenSpec.upto fnExactFieldSubSpec)

/-- 'laws.FnExactFieldMul', WHERE WHAT IT READS IS OF BULK AT MOST 1048576: true; the input reads as it did. -/
def fnExactFieldMulUptoRow : OpenClaim := { program := "ytecphhfdleaklaa", sum := "f9cbbbfa0c3848dbca9f8d231d6b728379bbcb2b5732c199229b7e2a709d99b6", func := "loop.example/g00254/laws.FnExactFieldMul", spec := "fnExactFieldMul", inPlace := ["math/bits.Add64"], apart := false, narrowed := true }
def FnExactFieldMulUptoSaid : Prop := fnExactFieldMulUptoRow.holds Try.pinned (OpenSpec.upto fnExactFieldMulSpec)

/-- 'laws.FnExactFieldPower', WHERE WHAT IT READS IS OF BULK AT MOST 1048576: true; the input reads as it did. -/
def fnExactFieldPowerUptoRow : OpenClaim := { program := "ytecphhfdleaklaa", sum := "f9cbbbfa0c3848dbca9f8d231d6b728379bbcb2b5732c199229b7e2a709d99b6", func := "loop.example/g00254/laws.FnExactFieldPower", spec := "fnExactFieldPower", inPlace := ["math/bits.Add64"], apart := false, narrowed := true }
def FnExactFieldPowerUptoSaid : Prop := fnExactFieldPowerUptoRow.holds Try.pinned (OpenSpec.upto fnExactFieldPowerSpec)

/-- 'laws.FnExactFieldInverse', WHERE WHAT IT READS IS OF BULK AT MOST 1048576: true; the input reads as it did. -/
def fnExactFieldInverseUptoRow : OpenClaim := { program := "ytecphhfdleaklaa", sum := "f9cbbbfa0c3848dbca9f8d231d6b728379bbcb2b5732c199229b7e2a709d99b6", func := "loop.example/g00254/laws.FnExactFieldInverse", spec := "fnExactFieldInverse", inPlace := ["math/bits.Add64"], apart := false, narrowed := true }
def FnExactFieldInverseUptoSaid : Prop := fnExactFieldInverseUptoRow.holds Try.pinned (OpenSpec.upto fnExactFieldInverseSpec)

/-- 'laws.FnExactClampScalar', WHERE WHAT IT READS IS OF BULK AT MOST 1048576: true; the input reads as it did. -/
def fnExactClampScalarUptoRow : OpenClaim := { program := "ytecphhfdleaklaa", sum := "f9cbbbfa0c3848dbca9f8d231d6b728379bbcb2b5732c199229b7e2a709d99b6", func := "loop.example/g00254/laws.FnExactClampScalar", spec := "fnExactClampScalar", apart := false, narrowed := true }
def FnExactClampScalarUptoSaid : Prop := fnExactClampScalarUptoRow.holds Try.pinned (OpenSpec.upto fnExactClampScalarSpec)

/-- 'laws.FnExactScalarMult', WHERE WHAT IT READS IS OF BULK AT MOST 1048576: true; the input reads as it did. -/
def fnExactScalarMultUptoRow : OpenClaim := { program := "ytecphhfdleaklaa", sum := "f9cbbbfa0c3848dbca9f8d231d6b728379bbcb2b5732c199229b7e2a709d99b6", func := "loop.example/g00254/laws.FnExactScalarMult", spec := "fnExactScalarMult", inPlace := ["math/bits.Add64"], apart := false, narrowed := true }
def FnExactScalarMultUptoSaid : Prop := fnExactScalarMultUptoRow.holds Try.pinned (OpenSpec.upto fnExactScalarMultSpec)

/-- 'laws.FnExactPublicKey', WHERE WHAT IT READS IS OF BULK AT MOST 1048576: true; the input reads as it did. -/
def fnExactPublicKeyUptoRow : OpenClaim := { program := "ytecphhfdleaklaa", sum := "f9cbbbfa0c3848dbca9f8d231d6b728379bbcb2b5732c199229b7e2a709d99b6", func := "loop.example/g00254/laws.FnExactPublicKey", spec := "fnExactPublicKey", inPlace := ["math/bits.Add64"], apart := false, narrowed := true }
def FnExactPublicKeyUptoSaid : Prop := fnExactPublicKeyUptoRow.holds Try.pinned (OpenSpec.upto fnExactPublicKeySpec)

/-- 'laws.FnExactSharedSecret', WHERE WHAT IT READS IS OF BULK AT MOST 1048576: true; the input reads as it did. -/
def fnExactSharedSecretUptoRow : OpenClaim := { program := "ytecphhfdleaklaa", sum := "f9cbbbfa0c3848dbca9f8d231d6b728379bbcb2b5732c199229b7e2a709d99b6", func := "loop.example/g00254/laws.FnExactSharedSecret", spec := "fnExactSharedSecret", inPlace := ["math/bits.Add64"], apart := false, narrowed := true }
def FnExactSharedSecretUptoSaid : Prop := fnExactSharedSecretUptoRow.holds Try.pinned (OpenSpec.upto fnExactSharedSecretSpec)

/-- 'laws.FnExactDoublePoint', WHERE WHAT IT READS IS OF BULK AT MOST 1048576: true; the input reads as it did. -/
def fnExactDoublePointUptoRow : OpenClaim := { program := "ytecphhfdleaklaa", sum := "f9cbbbfa0c3848dbca9f8d231d6b728379bbcb2b5732c199229b7e2a709d99b6", func := "loop.example/g00254/laws.FnExactDoublePoint", spec := "fnExactDoublePoint", inPlace := ["math/bits.Add64"], apart := false, narrowed := true }
def FnExactDoublePointUptoSaid : Prop := fnExactDoublePointUptoRow.holds Try.pinned (OpenSpec.upto fnExactDoublePointSpec)

/-- 'laws.FnExactHexText', WHERE WHAT IT READS IS OF BULK AT MOST 1048576: true; the input reads as it did. -/
def fnExactHexTextUptoRow : OpenClaim := { program := "ytecphhfdleaklaa", sum := "f9cbbbfa0c3848dbca9f8d231d6b728379bbcb2b5732c199229b7e2a709d99b6", func := "loop.example/g00254/laws.FnExactHexText", spec := "fnExactHexText", apart := false, narrowed := true }
def FnExactHexTextUptoSaid : Prop := fnExactHexTextUptoRow.holds Try.pinned (OpenSpec.upto fnExactHexTextSpec)

end Rows
end Go.Proofs.Ytecphhfdleaklaa
