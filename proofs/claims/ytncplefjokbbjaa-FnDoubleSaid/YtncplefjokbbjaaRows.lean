/-
  No cell of these rows narrows 'for every input' (looked for: loops, veiled, ifaces, maps, wideKeys, modest, calm, conditions, laid).
  DERIVED. THE GIVEN ROWS OF THIS SEAT. 5 by the template 'for every input the law returns true; each argument reads behind the call as it read before'; 0 by the template 'total and deterministic' (their statements: YtncplefjokbbjaaTotals.lean).
  GIVEN WITH THE SEED: the statements are not yours to turn. If you find one false, say at which input.
  Laid BY PROGRAM, IN A SANDBOX (cutbox-rows.mjs): the forced cells as the released guide's own fill.sh prints them over the translation 4f3ef0437afc25c1… (all of the seat's roots in one cut). By AI agents, Wed Nov 11 2026. No macro, syntax, notation, axiom, sorry.
-/
import Derived.Test.YtncplefjokbbjaaChecked
import GoSem.Claim
import GoSem.ClaimJoined
import GoSem.ClaimMapViews
import Derived.JoinedTies
import Derived.KernelRfl
namespace Go.Proofs.Ytncplefjokbbjaa
/- THE CELL 'sum', in the pinned program and in every row, IS THE sha256 OF THE DUMP (.gsa) THAT YtncplefjokbbjaaProg.lean LOADS. Nothing in Lean hashes anything: it is a label: what it is worth is what the hold of that sum in a sandbox is worth. -/
noncomputable def Try.pinned : Pinned := { name := "ytncplefjokbbjaa", sum := "4f3ef0437afc25c1644f8715e9d7f89d308e9124d42596651bec985ee52bacbe", checked := Try.checked }
namespace Rows
def none {H : Type} : Left H := { results := [], args := [] }

/-- 'laws.FnExactOnionSize': WHATEVER THE INPUT: true; the input reads as it did. -/
def fnExactOnionSizeSpec : ChangeSpec := { name := "fnExactOnionSize", fn := fun _ => fun
  | [d1, d2] => { results := [.lit (.bool true)], args := [d1, d2] }
  | _ => none }
def fnExactOnionSizeRow : OpenClaim := { program := "ytncplefjokbbjaa", sum := "4f3ef0437afc25c1644f8715e9d7f89d308e9124d42596651bec985ee52bacbe", func := "loop.example/g00254/laws.FnExactOnionSize", spec := "fnExactOnionSize", apart := false }
def FnExactOnionSizeSaid : Prop := fnExactOnionSizeRow.holds Try.pinned (OpenSpec.ofChange fnExactOnionSizeSpec)

/-- ITS FALSE NEIGHBOUR: 'it returns false'. Refute it at one input. -/
def fnExactOnionSizeWrong : ChangeSpec := { name := "fnExactOnionSize", fn := fun _ => fun
  | [d1, d2] => { results := [.lit (.bool false)], args := [d1, d2] }
  | _ => none }
def FnExactOnionSizeWrongFalsely : Prop := fnExactOnionSizeRow.holds Try.pinned (OpenSpec.ofChange fnExactOnionSizeWrong)

/-- 'laws.FnExactScalarMult': WHATEVER THE INPUT: true; the input reads as it did. -/
def fnExactScalarMultSpec : ChangeSpec := { name := "fnExactScalarMult", fn := fun _ => fun
  | [d1, d2] => { results := [.lit (.bool true)], args := [d1, d2] }
  | _ => none }
def fnExactScalarMultRow : OpenClaim := { program := "ytncplefjokbbjaa", sum := "4f3ef0437afc25c1644f8715e9d7f89d308e9124d42596651bec985ee52bacbe", func := "loop.example/g00254/laws.FnExactScalarMult", spec := "fnExactScalarMult", inPlace := ["math/bits.Add64"], apart := false }
def FnExactScalarMultSaid : Prop := fnExactScalarMultRow.holds Try.pinned (OpenSpec.ofChange fnExactScalarMultSpec)

/-- ITS FALSE NEIGHBOUR: 'it returns false'. Refute it at one input. -/
def fnExactScalarMultWrong : ChangeSpec := { name := "fnExactScalarMult", fn := fun _ => fun
  | [d1, d2] => { results := [.lit (.bool false)], args := [d1, d2] }
  | _ => none }
def FnExactScalarMultWrongFalsely : Prop := fnExactScalarMultRow.holds Try.pinned (OpenSpec.ofChange fnExactScalarMultWrong)

/-- 'laws.FnExactPublicKey': WHATEVER THE INPUT: true; the input reads as it did. -/
def fnExactPublicKeySpec : ChangeSpec := { name := "fnExactPublicKey", fn := fun _ => fun
  | [d] => { results := [.lit (.bool true)], args := [d] }
  | _ => none }
def fnExactPublicKeyRow : OpenClaim := { program := "ytncplefjokbbjaa", sum := "4f3ef0437afc25c1644f8715e9d7f89d308e9124d42596651bec985ee52bacbe", func := "loop.example/g00254/laws.FnExactPublicKey", spec := "fnExactPublicKey", inPlace := ["math/bits.Add64"], apart := false }
def FnExactPublicKeySaid : Prop := fnExactPublicKeyRow.holds Try.pinned (OpenSpec.ofChange fnExactPublicKeySpec)

/-- ITS FALSE NEIGHBOUR: 'it returns false'. Refute it at one input. -/
def fnExactPublicKeyWrong : ChangeSpec := { name := "fnExactPublicKey", fn := fun _ => fun
  | [d] => { results := [.lit (.bool false)], args := [d] }
  | _ => none }
def FnExactPublicKeyWrongFalsely : Prop := fnExactPublicKeyRow.holds Try.pinned (OpenSpec.ofChange fnExactPublicKeyWrong)

/-- 'laws.FnShared': WHATEVER THE INPUT: true; the input reads as it did. -/
def fnSharedSpec : ChangeSpec := { name := "fnShared", fn := fun _ => fun
  | [d1, d2] => { results := [.lit (.bool true)], args := [d1, d2] }
  | _ => none }
def fnSharedRow : OpenClaim := { program := "ytncplefjokbbjaa", sum := "4f3ef0437afc25c1644f8715e9d7f89d308e9124d42596651bec985ee52bacbe", func := "loop.example/g00254/laws.FnShared", spec := "fnShared", inPlace := ["math/bits.Add64"], apart := false }
def FnSharedSaid : Prop := fnSharedRow.holds Try.pinned (OpenSpec.ofChange fnSharedSpec)

/-- ITS FALSE NEIGHBOUR: 'it returns false'. Refute it at one input. -/
def fnSharedWrong : ChangeSpec := { name := "fnShared", fn := fun _ => fun
  | [d1, d2] => { results := [.lit (.bool false)], args := [d1, d2] }
  | _ => none }
def FnSharedWrongFalsely : Prop := fnSharedRow.holds Try.pinned (OpenSpec.ofChange fnSharedWrong)

/-- 'laws.FnDouble': WHATEVER THE INPUT: true; the input reads as it did. -/
def fnDoubleSpec : ChangeSpec := { name := "fnDouble", fn := fun _ => fun
  | [d1, d2] => { results := [.lit (.bool true)], args := [d1, d2] }
  | _ => none }
def fnDoubleRow : OpenClaim := { program := "ytncplefjokbbjaa", sum := "4f3ef0437afc25c1644f8715e9d7f89d308e9124d42596651bec985ee52bacbe", func := "loop.example/g00254/laws.FnDouble", spec := "fnDouble", inPlace := ["math/bits.Add64"], apart := false }
def FnDoubleSaid : Prop := fnDoubleRow.holds Try.pinned (OpenSpec.ofChange fnDoubleSpec)

/-- ITS FALSE NEIGHBOUR: 'it returns false'. Refute it at one input. -/
def fnDoubleWrong : ChangeSpec := { name := "fnDouble", fn := fun _ => fun
  | [d1, d2] => { results := [.lit (.bool false)], args := [d1, d2] }
  | _ => none }
def FnDoubleWrongFalsely : Prop := fnDoubleRow.holds Try.pinned (OpenSpec.ofChange fnDoubleWrong)

/- THE SECOND FORM. 'bulk': how many values and letters a reading holds, each counted each time it is reached (what is shared counts as often as it is met; a slice's spare places count too). A statement '..UptoSaid' is the law's where the arguments, and the package variables that the reading takes, are together of bulk at most 1048576: NARROWER than '..Said'. Prove '..Said' where nothing that the law and all that it calls make is longer than what came in: it says more and counts as full. Else prove '..UptoSaid'. A law counts once. -/
mutual
def uptoBulk {H : Type} : DataW H → Nat
  | .lit (.string bytes) => bytes.length + 1
  | .lit _ => 1
  | .nil => 1
  | .ptr d => uptoBulk d + 1
  | .slice elems spare => uptoBulkAll elems + uptoBulkAll spare + 1
  | .agg parts => uptoBulkAll parts + 1
  | .iface _ d => uptoBulk d + 1
  | .map entries => uptoBulkEntries entries + 1
  | .held _ => 1
def uptoBulkAll {H : Type} : List (DataW H) → Nat
  | [] => 0
  | d :: r => uptoBulk d + uptoBulkAll r
def uptoBulkEntries {H : Type} : List (Lit × DataW H) → Nat
  | [] => 0
  | x :: r => uptoBulkEntry x + uptoBulkEntries r
def uptoBulkEntry {H : Type} : Lit × DataW H → Nat
  | (.string bytes, d) => bytes.length + uptoBulk d + 1
  | (_, d) => uptoBulk d + 1
 end
def uptoSmall : (H : Type) → List (DataW H) → Bool := fun _ ds => decide (uptoBulkAll ds ≤ 1048576)
def OpenSpec.upto (s : _root_.Go.ChangeSpec) : _root_.Go.OpenSpec := { _root_.Go.OpenSpec.ofChange s with cond := some uptoSmall }

/-- 'laws.FnExactOnionSize', WHERE WHAT IT READS IS OF BULK AT MOST 1048576: true; the input reads as it did. -/
def fnExactOnionSizeUptoRow : OpenClaim := { program := "ytncplefjokbbjaa", sum := "4f3ef0437afc25c1644f8715e9d7f89d308e9124d42596651bec985ee52bacbe", func := "loop.example/g00254/laws.FnExactOnionSize", spec := "fnExactOnionSize", apart := false, narrowed := true }
def FnExactOnionSizeUptoSaid : Prop := fnExactOnionSizeUptoRow.holds Try.pinned (OpenSpec.upto fnExactOnionSizeSpec)

/-- 'laws.FnExactScalarMult', WHERE WHAT IT READS IS OF BULK AT MOST 1048576: true; the input reads as it did. -/
def fnExactScalarMultUptoRow : OpenClaim := { program := "ytncplefjokbbjaa", sum := "4f3ef0437afc25c1644f8715e9d7f89d308e9124d42596651bec985ee52bacbe", func := "loop.example/g00254/laws.FnExactScalarMult", spec := "fnExactScalarMult", inPlace := ["math/bits.Add64"], apart := false, narrowed := true }
def FnExactScalarMultUptoSaid : Prop := fnExactScalarMultUptoRow.holds Try.pinned (OpenSpec.upto fnExactScalarMultSpec)

/-- 'laws.FnExactPublicKey', WHERE WHAT IT READS IS OF BULK AT MOST 1048576: true; the input reads as it did. -/
def fnExactPublicKeyUptoRow : OpenClaim := { program := "ytncplefjokbbjaa", sum := "4f3ef0437afc25c1644f8715e9d7f89d308e9124d42596651bec985ee52bacbe", func := "loop.example/g00254/laws.FnExactPublicKey", spec := "fnExactPublicKey", inPlace := ["math/bits.Add64"], apart := false, narrowed := true }
def FnExactPublicKeyUptoSaid : Prop := fnExactPublicKeyUptoRow.holds Try.pinned (OpenSpec.upto fnExactPublicKeySpec)

/-- 'laws.FnShared', WHERE WHAT IT READS IS OF BULK AT MOST 1048576: true; the input reads as it did. -/
def fnSharedUptoRow : OpenClaim := { program := "ytncplefjokbbjaa", sum := "4f3ef0437afc25c1644f8715e9d7f89d308e9124d42596651bec985ee52bacbe", func := "loop.example/g00254/laws.FnShared", spec := "fnShared", inPlace := ["math/bits.Add64"], apart := false, narrowed := true }
def FnSharedUptoSaid : Prop := fnSharedUptoRow.holds Try.pinned (OpenSpec.upto fnSharedSpec)

/-- 'laws.FnDouble', WHERE WHAT IT READS IS OF BULK AT MOST 1048576: true; the input reads as it did. -/
def fnDoubleUptoRow : OpenClaim := { program := "ytncplefjokbbjaa", sum := "4f3ef0437afc25c1644f8715e9d7f89d308e9124d42596651bec985ee52bacbe", func := "loop.example/g00254/laws.FnDouble", spec := "fnDouble", inPlace := ["math/bits.Add64"], apart := false, narrowed := true }
def FnDoubleUptoSaid : Prop := fnDoubleUptoRow.holds Try.pinned (OpenSpec.upto fnDoubleSpec)

end Rows
end Go.Proofs.Ytncplefjokbbjaa
