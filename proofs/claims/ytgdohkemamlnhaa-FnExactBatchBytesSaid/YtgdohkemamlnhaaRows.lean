/-
  No cell of these rows narrows 'for every input' (looked for: loops, veiled, ifaces, maps, wideKeys, modest, calm, conditions, laid).
  DERIVED. THE GIVEN ROWS OF THIS SEAT. 3 by the template 'for every input the law returns true; each argument reads behind the call as it read before'; 0 by the template 'total and deterministic' (their statements: YtgdohkemamlnhaaTotals.lean).
  GIVEN WITH THE SEED: the statements are not yours to turn. If you find one false, say at which input.
  Laid BY PROGRAM, IN A SANDBOX (cutbox-rows.mjs): the forced cells as the released guide's own fill.sh prints them over the translation d147ebf2f86a64e7… (all of the seat's roots in one cut). By AI agents, Wed Nov 11 2026. No macro, syntax, notation, axiom, sorry.
-/
import Derived.Test.YtgdohkemamlnhaaChecked
import GoSem.Claim
import GoSem.ClaimJoined
import GoSem.ClaimMapViews
import Derived.JoinedTies
import Derived.KernelRfl
namespace Go.Proofs.Ytgdohkemamlnhaa
/- THE CELL 'sum', in the pinned program and in every row, IS THE sha256 OF THE DUMP (.gsa) THAT YtgdohkemamlnhaaProg.lean LOADS. Nothing in Lean hashes anything: it is a label: what it is worth is what the hold of that sum in a sandbox is worth. -/
noncomputable def Try.pinned : Pinned := { name := "ytgdohkemamlnhaa", sum := "d147ebf2f86a64e7771ecbdf106d0e676801ffad38d5d60e164ad2363fcb146e", checked := Try.checked }
namespace Rows
def none {H : Type} : Left H := { results := [], args := [] }

/-- 'laws.FnExactMessageOK': WHATEVER THE INPUT: true; the input reads as it did. -/
def fnExactMessageOKSpec : ChangeSpec := { name := "fnExactMessageOK", fn := fun _ => fun
  | [d] => { results := [.lit (.bool true)], args := [d] }
  | _ => none }
def fnExactMessageOKRow : OpenClaim := { program := "ytgdohkemamlnhaa", sum := "d147ebf2f86a64e7771ecbdf106d0e676801ffad38d5d60e164ad2363fcb146e", func := "loop.example/g00254/laws.FnExactMessageOK", spec := "fnExactMessageOK", apart := false }
def FnExactMessageOKSaid : Prop := fnExactMessageOKRow.holds Try.pinned (OpenSpec.ofChange fnExactMessageOKSpec)

/-- ITS FALSE NEIGHBOUR: 'it returns false'. Refute it at one input. -/
def fnExactMessageOKWrong : ChangeSpec := { name := "fnExactMessageOK", fn := fun _ => fun
  | [d] => { results := [.lit (.bool false)], args := [d] }
  | _ => none }
def FnExactMessageOKWrongFalsely : Prop := fnExactMessageOKRow.holds Try.pinned (OpenSpec.ofChange fnExactMessageOKWrong)

/-- 'laws.FnExactMessageBytes': WHATEVER THE INPUT: true; the input reads as it did. -/
def fnExactMessageBytesSpec : ChangeSpec := { name := "fnExactMessageBytes", fn := fun _ => fun
  | [d] => { results := [.lit (.bool true)], args := [d] }
  | _ => none }
def fnExactMessageBytesRow : OpenClaim := { program := "ytgdohkemamlnhaa", sum := "d147ebf2f86a64e7771ecbdf106d0e676801ffad38d5d60e164ad2363fcb146e", func := "loop.example/g00254/laws.FnExactMessageBytes", spec := "fnExactMessageBytes", apart := false }
def FnExactMessageBytesSaid : Prop := fnExactMessageBytesRow.holds Try.pinned (OpenSpec.ofChange fnExactMessageBytesSpec)

/-- ITS FALSE NEIGHBOUR: 'it returns false'. Refute it at one input. -/
def fnExactMessageBytesWrong : ChangeSpec := { name := "fnExactMessageBytes", fn := fun _ => fun
  | [d] => { results := [.lit (.bool false)], args := [d] }
  | _ => none }
def FnExactMessageBytesWrongFalsely : Prop := fnExactMessageBytesRow.holds Try.pinned (OpenSpec.ofChange fnExactMessageBytesWrong)

/-- 'laws.FnExactBatchBytes': WHATEVER THE INPUT: true; the input reads as it did. -/
def fnExactBatchBytesSpec : ChangeSpec := { name := "fnExactBatchBytes", fn := fun _ => fun
  | [d] => { results := [.lit (.bool true)], args := [d] }
  | _ => none }
def fnExactBatchBytesRow : OpenClaim := { program := "ytgdohkemamlnhaa", sum := "d147ebf2f86a64e7771ecbdf106d0e676801ffad38d5d60e164ad2363fcb146e", func := "loop.example/g00254/laws.FnExactBatchBytes", spec := "fnExactBatchBytes", apart := false }
def FnExactBatchBytesSaid : Prop := fnExactBatchBytesRow.holds Try.pinned (OpenSpec.ofChange fnExactBatchBytesSpec)

/-- ITS FALSE NEIGHBOUR: 'it returns false'. Refute it at one input. -/
def fnExactBatchBytesWrong : ChangeSpec := { name := "fnExactBatchBytes", fn := fun _ => fun
  | [d] => { results := [.lit (.bool false)], args := [d] }
  | _ => none }
def FnExactBatchBytesWrongFalsely : Prop := fnExactBatchBytesRow.holds Try.pinned (OpenSpec.ofChange fnExactBatchBytesWrong)

/- THE SECOND FORM. 'bulk': how many values and letters a reading holds, each counted each time it is reached (what is shared counts as often as it is met; a slice's spare places count too). A statement '..UptoSaid' is the law's where the arguments, and the package variables that the reading takes, are together of bulk at most 1048576: NARROWER than '..Said'. Prove '..Said' where nothing that the law and all that it calls make is longer than what came in: it says more and counts as full. Else prove '..UptoSaid'. A law counts once. -/
mutual
def uptoBulk {H : Type} : DataW H → Nat
  | .lit (.string bytes) => bytes.length + 1
  | .lit _ => 1
  | .nil => 1
  | .ptr d => uptoBulk d + 1
  | .slice elems spare => uptoBulkAll elems + uptoBulkAll spare + 1
  | .agg parts => uptoBulkAll parts + 1
  | .iface _ d => uptoBulk d + 1
  | .map entries => uptoBulkEntries entries + 1
  | .held _ => 1
def uptoBulkAll {H : Type} : List (DataW H) → Nat
  | [] => 0
  | d :: r => uptoBulk d + uptoBulkAll r
def uptoBulkEntries {H : Type} : List (Lit × DataW H) → Nat
  | [] => 0
  | x :: r => uptoBulkEntry x + uptoBulkEntries r
def uptoBulkEntry {H : Type} : Lit × DataW H → Nat
  | (.string bytes, d) => bytes.length + uptoBulk d + 1
  | (_, d) => uptoBulk d + 1
 end
def uptoSmall : (H : Type) → List (DataW H) → Bool := fun _ ds => decide (uptoBulkAll ds ≤ 1048576)
def OpenSpec.upto (s : _root_.Go.ChangeSpec) : _root_.Go.OpenSpec := { _root_.Go.OpenSpec.ofChange s with cond := some uptoSmall }

/-- 'laws.FnExactMessageOK', WHERE WHAT IT READS IS OF BULK AT MOST 1048576: true; the input reads as it did. -/
def fnExactMessageOKUptoRow : OpenClaim := { program := "ytgdohkemamlnhaa", sum := "d147ebf2f86a64e7771ecbdf106d0e676801ffad38d5d60e164ad2363fcb146e", func := "loop.example/g00254/laws.FnExactMessageOK", spec := "fnExactMessageOK", apart := false, narrowed := true }
def FnExactMessageOKUptoSaid : Prop := fnExactMessageOKUptoRow.holds Try.pinned (OpenSpec.upto fnExactMessageOKSpec)

/-- 'laws.FnExactMessageBytes', WHERE WHAT IT READS IS OF BULK AT MOST 1048576: true; the input reads as it did. -/
def fnExactMessageBytesUptoRow : OpenClaim := { program := "ytgdohkemamlnhaa", sum := "d147ebf2f86a64e7771ecbdf106d0e676801ffad38d5d60e164ad2363fcb146e", func := "loop.example/g00254/laws.FnExactMessageBytes", spec := "fnExactMessageBytes", apart := false, narrowed := true }
def FnExactMessageBytesUptoSaid : Prop := fnExactMessageBytesUptoRow.holds Try.pinned (OpenSpec.upto fnExactMessageBytesSpec)

/-- 'laws.FnExactBatchBytes', WHERE WHAT IT READS IS OF BULK AT MOST 1048576: true; the input reads as it did. -/
def fnExactBatchBytesUptoRow : OpenClaim := { program := "ytgdohkemamlnhaa", sum := "d147ebf2f86a64e7771ecbdf106d0e676801ffad38d5d60e164ad2363fcb146e", func := "loop.example/g00254/laws.FnExactBatchBytes", spec := "fnExactBatchBytes", apart := false, narrowed := true }
def FnExactBatchBytesUptoSaid : Prop := fnExactBatchBytesUptoRow.holds Try.pinned (OpenSpec.upto fnExactBatchBytesSpec)

end Rows
end Go.Proofs.Ytgdohkemamlnhaa
