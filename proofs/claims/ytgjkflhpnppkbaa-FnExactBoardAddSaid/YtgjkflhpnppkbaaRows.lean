/-
  No cell of these rows narrows 'for every input' (looked for: loops, veiled, ifaces, maps, wideKeys, modest, calm, conditions, laid).
  DERIVED. THE GIVEN ROWS OF THIS SEAT. 3 by the template 'for every input the law returns true; each argument reads behind the call as it read before'; 0 by the template 'total and deterministic' (their statements: YtgjkflhpnppkbaaTotals.lean).
  GIVEN WITH THE SEED: the statements are not yours to turn. If you find one false, say at which input.
  Laid BY PROGRAM, IN A SANDBOX (cutbox-rows.mjs): the forced cells as the released guide's own fill.sh prints them over the translation eb2ac62daed22565… (all of the seat's roots in one cut). By AI agents, Wed Nov 11 2026. No macro, syntax, notation, axiom, sorry.
-/
import Derived.Test.YtgjkflhpnppkbaaChecked
import GoSem.Claim
import GoSem.ClaimJoined
import GoSem.ClaimMapViews
import Derived.JoinedTies
import Derived.KernelRfl
namespace Go.Proofs.Ytgjkflhpnppkbaa
/- THE CELL 'sum', in the pinned program and in every row, IS THE sha256 OF THE DUMP (.gsa) THAT YtgjkflhpnppkbaaProg.lean LOADS. Nothing in Lean hashes anything: it is a label: what it is worth is what the hold of that sum in a sandbox is worth. -/
noncomputable def Try.pinned : Pinned := { name := "ytgjkflhpnppkbaa", sum := "eb2ac62daed225659122ae44fa78190b4825add07929af512092f838430db256", checked := Try.checked }
namespace Rows
def none {H : Type} : Left H := { results := [], args := [] }

/-- 'laws.FnExactBoardOK': WHATEVER THE INPUT: true; the input reads as it did. -/
def fnExactBoardOKSpec : ChangeSpec := { name := "fnExactBoardOK", fn := fun _ => fun
  | [d] => { results := [.lit (.bool true)], args := [d] }
  | _ => none }
def fnExactBoardOKRow : OpenClaim := { program := "ytgjkflhpnppkbaa", sum := "eb2ac62daed225659122ae44fa78190b4825add07929af512092f838430db256", func := "loop.example/g00254/laws.FnExactBoardOK", spec := "fnExactBoardOK", apart := false }
def FnExactBoardOKSaid : Prop := fnExactBoardOKRow.holds Try.pinned (OpenSpec.ofChange fnExactBoardOKSpec)

/-- ITS FALSE NEIGHBOUR: 'it returns false'. Refute it at one input. -/
def fnExactBoardOKWrong : ChangeSpec := { name := "fnExactBoardOK", fn := fun _ => fun
  | [d] => { results := [.lit (.bool false)], args := [d] }
  | _ => none }
def FnExactBoardOKWrongFalsely : Prop := fnExactBoardOKRow.holds Try.pinned (OpenSpec.ofChange fnExactBoardOKWrong)

/-- 'laws.FnExactBoardAdd': WHATEVER THE INPUT: true; the input reads as it did. -/
def fnExactBoardAddSpec : ChangeSpec := { name := "fnExactBoardAdd", fn := fun _ => fun
  | [d1, d2] => { results := [.lit (.bool true)], args := [d1, d2] }
  | _ => none }
def fnExactBoardAddRow : OpenClaim := { program := "ytgjkflhpnppkbaa", sum := "eb2ac62daed225659122ae44fa78190b4825add07929af512092f838430db256", func := "loop.example/g00254/laws.FnExactBoardAdd", spec := "fnExactBoardAdd", apart := false }
def FnExactBoardAddSaid : Prop := fnExactBoardAddRow.holds Try.pinned (OpenSpec.ofChange fnExactBoardAddSpec)

/-- ITS FALSE NEIGHBOUR: 'it returns false'. Refute it at one input. -/
def fnExactBoardAddWrong : ChangeSpec := { name := "fnExactBoardAdd", fn := fun _ => fun
  | [d1, d2] => { results := [.lit (.bool false)], args := [d1, d2] }
  | _ => none }
def FnExactBoardAddWrongFalsely : Prop := fnExactBoardAddRow.holds Try.pinned (OpenSpec.ofChange fnExactBoardAddWrong)

/-- 'laws.FnExactBoardFind': WHATEVER THE INPUT: true; the input reads as it did. -/
def fnExactBoardFindSpec : ChangeSpec := { name := "fnExactBoardFind", fn := fun _ => fun
  | [d1, d2, d3] => { results := [.lit (.bool true)], args := [d1, d2, d3] }
  | _ => none }
def fnExactBoardFindRow : OpenClaim := { program := "ytgjkflhpnppkbaa", sum := "eb2ac62daed225659122ae44fa78190b4825add07929af512092f838430db256", func := "loop.example/g00254/laws.FnExactBoardFind", spec := "fnExactBoardFind", apart := false }
def FnExactBoardFindSaid : Prop := fnExactBoardFindRow.holds Try.pinned (OpenSpec.ofChange fnExactBoardFindSpec)

/-- ITS FALSE NEIGHBOUR: 'it returns false'. Refute it at one input. -/
def fnExactBoardFindWrong : ChangeSpec := { name := "fnExactBoardFind", fn := fun _ => fun
  | [d1, d2, d3] => { results := [.lit (.bool false)], args := [d1, d2, d3] }
  | _ => none }
def FnExactBoardFindWrongFalsely : Prop := fnExactBoardFindRow.holds Try.pinned (OpenSpec.ofChange fnExactBoardFindWrong)

/- THE SECOND FORM. 'bulk': how many values and letters a reading holds, each counted each time it is reached (what is shared counts as often as it is met; a slice's spare places count too). A statement '..UptoSaid' is the law's where the arguments, and the package variables that the reading takes, are together of bulk at most 1048576: NARROWER than '..Said'. Prove '..Said' where nothing that the law and all that it calls make is longer than what came in: it says more and counts as full. Else prove '..UptoSaid'. A law counts once. -/
mutual
def uptoBulk {H : Type} : DataW H → Nat
  | .lit (.string bytes) => bytes.length + 1
  | .lit _ => 1
  | .nil => 1
  | .ptr d => uptoBulk d + 1
  | .slice elems spare => uptoBulkAll elems + uptoBulkAll spare + 1
  | .agg parts => uptoBulkAll parts + 1
  | .iface _ d => uptoBulk d + 1
  | .map entries => uptoBulkEntries entries + 1
  | .held _ => 1
def uptoBulkAll {H : Type} : List (DataW H) → Nat
  | [] => 0
  | d :: r => uptoBulk d + uptoBulkAll r
def uptoBulkEntries {H : Type} : List (Lit × DataW H) → Nat
  | [] => 0
  | x :: r => uptoBulkEntry x + uptoBulkEntries r
def uptoBulkEntry {H : Type} : Lit × DataW H → Nat
  | (.string bytes, d) => bytes.length + uptoBulk d + 1
  | (_, d) => uptoBulk d + 1
 end
def uptoSmall : (H : Type) → List (DataW H) → Bool := fun _ ds => decide (uptoBulkAll ds ≤ 1048576)
def OpenSpec.upto (s : _root_.Go.ChangeSpec) : _root_.Go.OpenSpec := { _root_.Go.OpenSpec.ofChange s with cond := some uptoSmall }

/-- 'laws.FnExactBoardOK', WHERE WHAT IT READS IS OF BULK AT MOST 1048576: true; the input reads as it did. -/
def fnExactBoardOKUptoRow : OpenClaim := { program := "ytgjkflhpnppkbaa", sum := "eb2ac62daed225659122ae44fa78190b4825add07929af512092f838430db256", func := "loop.example/g00254/laws.FnExactBoardOK", spec := "fnExactBoardOK", apart := false, narrowed := true }
def FnExactBoardOKUptoSaid : Prop := fnExactBoardOKUptoRow.holds Try.pinned (OpenSpec.upto fnExactBoardOKSpec)

/-- 'laws.FnExactBoardAdd', WHERE WHAT IT READS IS OF BULK AT MOST 1048576: true; the input reads as it did. -/
def fnExactBoardAddUptoRow : OpenClaim := { program := "ytgjkflhpnppkbaa", sum := "eb2ac62daed225659122ae44fa78190b4825add07929af512092f838430db256", func := "loop.example/g00254/laws.FnExactBoardAdd", spec := "fnExactBoardAdd", apart := false, narrowed := true }
def FnExactBoardAddUptoSaid : Prop := fnExactBoardAddUptoRow.holds Try.pinned (OpenSpec.upto fnExactBoardAddSpec)

/-- 'laws.FnExactBoardFind', WHERE WHAT IT READS IS OF BULK AT MOST 1048576: true; the input reads as it did. -/
def fnExactBoardFindUptoRow : OpenClaim := { program := "ytgjkflhpnppkbaa", sum := "eb2ac62daed225659122ae44fa78190b4825add07929af512092f838430db256", func := "loop.example/g00254/laws.FnExactBoardFind", spec := "fnExactBoardFind", apart := false, narrowed := true }
def FnExactBoardFindUptoSaid : Prop := fnExactBoardFindUptoRow.holds Try.pinned (OpenSpec.upto fnExactBoardFindSpec)

end Rows
end Go.Proofs.Ytgjkflhpnppkbaa
