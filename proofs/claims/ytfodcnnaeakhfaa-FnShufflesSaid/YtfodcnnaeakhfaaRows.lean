/-
  No cell of these rows narrows 'for every input' (looked for: loops, veiled, ifaces, maps, wideKeys, modest, calm, conditions, laid).
  DERIVED. THE GIVEN ROWS OF THIS SEAT. 6 by the template 'for every input the law returns true; each argument reads behind the call as it read before'; 0 by the template 'total and deterministic' (their statements: YtfodcnnaeakhfaaTotals.lean).
  GIVEN WITH THE SEED: the statements are not yours to turn. If you find one false, say at which input.
  Laid BY PROGRAM, IN A SANDBOX (cutbox-rows.mjs): the forced cells as the released guide's own fill.sh prints them over the translation 2cae3390c750c57d… (all of the seat's roots in one cut). By AI agents, Wed Nov 11 2026. No macro, syntax, notation, axiom, sorry.
-/
import Derived.Test.YtfodcnnaeakhfaaChecked
import GoSem.Claim
import GoSem.ClaimJoined
import GoSem.ClaimMapViews
import Derived.JoinedTies
import Derived.KernelRfl
namespace Go.Proofs.Ytfodcnnaeakhfaa
/- THE CELL 'sum', in the pinned program and in every row, IS THE sha256 OF THE DUMP (.gsa) THAT YtfodcnnaeakhfaaProg.lean LOADS. Nothing in Lean hashes anything: it is a label: what it is worth is what the hold of that sum in a sandbox is worth. -/
noncomputable def Try.pinned : Pinned := { name := "ytfodcnnaeakhfaa", sum := "2cae3390c750c57dfb03d081776d359e2db895741e8458b26252739907ab132c", checked := Try.checked }
namespace Rows
def none {H : Type} : Left H := { results := [], args := [] }

/-- 'laws.FnPerms': WHATEVER THE INPUT: true; the input reads as it did. -/
def fnPermsSpec : ChangeSpec := { name := "fnPerms", fn := fun _ => fun
  | [d] => { results := [.lit (.bool true)], args := [d] }
  | _ => none }
def fnPermsRow : OpenClaim := { program := "ytfodcnnaeakhfaa", sum := "2cae3390c750c57dfb03d081776d359e2db895741e8458b26252739907ab132c", func := "loop.example/g00254/laws.FnPerms", spec := "fnPerms", apart := false }
def FnPermsSaid : Prop := fnPermsRow.holds Try.pinned (OpenSpec.ofChange fnPermsSpec)

/-- ITS FALSE NEIGHBOUR: 'it returns false'. Refute it at one input. -/
def fnPermsWrong : ChangeSpec := { name := "fnPerms", fn := fun _ => fun
  | [d] => { results := [.lit (.bool false)], args := [d] }
  | _ => none }
def FnPermsWrongFalsely : Prop := fnPermsRow.holds Try.pinned (OpenSpec.ofChange fnPermsWrong)

/-- 'laws.FnShuffles': WHATEVER THE INPUT: true; the input reads as it did. -/
def fnShufflesSpec : ChangeSpec := { name := "fnShuffles", fn := fun _ => fun
  | [d1, d2] => { results := [.lit (.bool true)], args := [d1, d2] }
  | _ => none }
def fnShufflesRow : OpenClaim := { program := "ytfodcnnaeakhfaa", sum := "2cae3390c750c57dfb03d081776d359e2db895741e8458b26252739907ab132c", func := "loop.example/g00254/laws.FnShuffles", spec := "fnShuffles", unfollowed := true, recurses := true, apart := false }
def FnShufflesSaid : Prop := fnShufflesRow.holds Try.pinned (OpenSpec.ofChange fnShufflesSpec)

/-- ITS FALSE NEIGHBOUR: 'it returns false'. Refute it at one input. -/
def fnShufflesWrong : ChangeSpec := { name := "fnShuffles", fn := fun _ => fun
  | [d1, d2] => { results := [.lit (.bool false)], args := [d1, d2] }
  | _ => none }
def FnShufflesWrongFalsely : Prop := fnShufflesRow.holds Try.pinned (OpenSpec.ofChange fnShufflesWrong)

/-- 'laws.FnExactPermOf': WHATEVER THE INPUT: true; the input reads as it did. -/
def fnExactPermOfSpec : ChangeSpec := { name := "fnExactPermOf", fn := fun _ => fun
  | [d] => { results := [.lit (.bool true)], args := [d] }
  | _ => none }
def fnExactPermOfRow : OpenClaim := { program := "ytfodcnnaeakhfaa", sum := "2cae3390c750c57dfb03d081776d359e2db895741e8458b26252739907ab132c", func := "loop.example/g00254/laws.FnExactPermOf", spec := "fnExactPermOf", apart := false }
def FnExactPermOfSaid : Prop := fnExactPermOfRow.holds Try.pinned (OpenSpec.ofChange fnExactPermOfSpec)

/-- ITS FALSE NEIGHBOUR: 'it returns false'. Refute it at one input. -/
def fnExactPermOfWrong : ChangeSpec := { name := "fnExactPermOf", fn := fun _ => fun
  | [d] => { results := [.lit (.bool false)], args := [d] }
  | _ => none }
def FnExactPermOfWrongFalsely : Prop := fnExactPermOfRow.holds Try.pinned (OpenSpec.ofChange fnExactPermOfWrong)

/-- 'laws.FnExactChoicesOf': WHATEVER THE INPUT: true; the input reads as it did. -/
def fnExactChoicesOfSpec : ChangeSpec := { name := "fnExactChoicesOf", fn := fun _ => fun
  | [d] => { results := [.lit (.bool true)], args := [d] }
  | _ => none }
def fnExactChoicesOfRow : OpenClaim := { program := "ytfodcnnaeakhfaa", sum := "2cae3390c750c57dfb03d081776d359e2db895741e8458b26252739907ab132c", func := "loop.example/g00254/laws.FnExactChoicesOf", spec := "fnExactChoicesOf", apart := false }
def FnExactChoicesOfSaid : Prop := fnExactChoicesOfRow.holds Try.pinned (OpenSpec.ofChange fnExactChoicesOfSpec)

/-- ITS FALSE NEIGHBOUR: 'it returns false'. Refute it at one input. -/
def fnExactChoicesOfWrong : ChangeSpec := { name := "fnExactChoicesOf", fn := fun _ => fun
  | [d] => { results := [.lit (.bool false)], args := [d] }
  | _ => none }
def FnExactChoicesOfWrongFalsely : Prop := fnExactChoicesOfRow.holds Try.pinned (OpenSpec.ofChange fnExactChoicesOfWrong)

/-- 'laws.FnExactInvertPerm': WHATEVER THE INPUT: true; the input reads as it did. -/
def fnExactInvertPermSpec : ChangeSpec := { name := "fnExactInvertPerm", fn := fun _ => fun
  | [d] => { results := [.lit (.bool true)], args := [d] }
  | _ => none }
def fnExactInvertPermRow : OpenClaim := { program := "ytfodcnnaeakhfaa", sum := "2cae3390c750c57dfb03d081776d359e2db895741e8458b26252739907ab132c", func := "loop.example/g00254/laws.FnExactInvertPerm", spec := "fnExactInvertPerm", apart := false }
def FnExactInvertPermSaid : Prop := fnExactInvertPermRow.holds Try.pinned (OpenSpec.ofChange fnExactInvertPermSpec)

/-- ITS FALSE NEIGHBOUR: 'it returns false'. Refute it at one input. -/
def fnExactInvertPermWrong : ChangeSpec := { name := "fnExactInvertPerm", fn := fun _ => fun
  | [d] => { results := [.lit (.bool false)], args := [d] }
  | _ => none }
def FnExactInvertPermWrongFalsely : Prop := fnExactInvertPermRow.holds Try.pinned (OpenSpec.ofChange fnExactInvertPermWrong)

/-- 'laws.FnExactShuffleOf': WHATEVER THE INPUT: true; the input reads as it did. -/
def fnExactShuffleOfSpec : ChangeSpec := { name := "fnExactShuffleOf", fn := fun _ => fun
  | [d1, d2] => { results := [.lit (.bool true)], args := [d1, d2] }
  | _ => none }
def fnExactShuffleOfRow : OpenClaim := { program := "ytfodcnnaeakhfaa", sum := "2cae3390c750c57dfb03d081776d359e2db895741e8458b26252739907ab132c", func := "loop.example/g00254/laws.FnExactShuffleOf", spec := "fnExactShuffleOf", unfollowed := true, recurses := true, apart := false }
def FnExactShuffleOfSaid : Prop := fnExactShuffleOfRow.holds Try.pinned (OpenSpec.ofChange fnExactShuffleOfSpec)

/-- ITS FALSE NEIGHBOUR: 'it returns false'. Refute it at one input. -/
def fnExactShuffleOfWrong : ChangeSpec := { name := "fnExactShuffleOf", fn := fun _ => fun
  | [d1, d2] => { results := [.lit (.bool false)], args := [d1, d2] }
  | _ => none }
def FnExactShuffleOfWrongFalsely : Prop := fnExactShuffleOfRow.holds Try.pinned (OpenSpec.ofChange fnExactShuffleOfWrong)

/- THE SECOND FORM. 'bulk': how many values and letters a reading holds, each counted each time it is reached (what is shared counts as often as it is met; a slice's spare places count too). A statement '..UptoSaid' is the law's where the arguments, and the package variables that the reading takes, are together of bulk at most 1048576: NARROWER than '..Said'. Prove '..Said' where nothing that the law and all that it calls make is longer than what came in: it says more and counts as full. Else prove '..UptoSaid'. A law counts once. -/
mutual
def uptoBulk {H : Type} : DataW H → Nat
  | .lit (.string bytes) => bytes.length + 1
  | .lit _ => 1
  | .nil => 1
  | .ptr d => uptoBulk d + 1
  | .slice elems spare => uptoBulkAll elems + uptoBulkAll spare + 1
  | .agg parts => uptoBulkAll parts + 1
  | .iface _ d => uptoBulk d + 1
  | .map entries => uptoBulkEntries entries + 1
  | .held _ => 1
def uptoBulkAll {H : Type} : List (DataW H) → Nat
  | [] => 0
  | d :: r => uptoBulk d + uptoBulkAll r
def uptoBulkEntries {H : Type} : List (Lit × DataW H) → Nat
  | [] => 0
  | x :: r => uptoBulkEntry x + uptoBulkEntries r
def uptoBulkEntry {H : Type} : Lit × DataW H → Nat
  | (.string bytes, d) => bytes.length + uptoBulk d + 1
  | (_, d) => uptoBulk d + 1
 end
def uptoSmall : (H : Type) → List (DataW H) → Bool := fun _ ds => decide (uptoBulkAll ds ≤ 1048576)
def OpenSpec.upto (s : _root_.Go.ChangeSpec) : _root_.Go.OpenSpec := { _root_.Go.OpenSpec.ofChange s with cond := some uptoSmall }

/-- 'laws.FnPerms', WHERE WHAT IT READS IS OF BULK AT MOST 1048576: true; the input reads as it did. -/
def fnPermsUptoRow : OpenClaim := { program := "ytfodcnnaeakhfaa", sum := "2cae3390c750c57dfb03d081776d359e2db895741e8458b26252739907ab132c", func := "loop.example/g00254/laws.FnPerms", spec := "fnPerms", apart := false, narrowed := true }
def FnPermsUptoSaid : Prop := fnPermsUptoRow.holds Try.pinned (OpenSpec.upto fnPermsSpec)

/-- 'laws.FnShuffles', WHERE WHAT IT READS IS OF BULK AT MOST 1048576: true; the input reads as it did. -/
def fnShufflesUptoRow : OpenClaim := { program := "ytfodcnnaeakhfaa", sum := "2cae3390c750c57dfb03d081776d359e2db895741e8458b26252739907ab132c", func := "loop.example/g00254/laws.FnShuffles", spec := "fnShuffles", unfollowed := true, recurses := true, apart := false, narrowed := true }
def FnShufflesUptoSaid : Prop := fnShufflesUptoRow.holds Try.pinned (OpenSpec.upto fnShufflesSpec)

/-- 'laws.FnExactPermOf', WHERE WHAT IT READS IS OF BULK AT MOST 1048576: true; the input reads as it did. -/
def fnExactPermOfUptoRow : OpenClaim := { program := "ytfodcnnaeakhfaa", sum := "2cae3390c750c57dfb03d081776d359e2db895741e8458b26252739907ab132c", func := "loop.example/g00254/laws.FnExactPermOf", spec := "fnExactPermOf", apart := false, narrowed := true }
def FnExactPermOfUptoSaid : Prop := fnExactPermOfUptoRow.holds Try.pinned (OpenSpec.upto fnExactPermOfSpec)

/-- 'laws.FnExactChoicesOf', WHERE WHAT IT READS IS OF BULK AT MOST 1048576: true; the input reads as it did. -/
def fnExactChoicesOfUptoRow : OpenClaim := { program := "ytfodcnnaeakhfaa", sum := "2cae3390c750c57dfb03d081776d359e2db895741e8458b26252739907ab132c", func := "loop.example/g00254/laws.FnExactChoicesOf", spec := "fnExactChoicesOf", apart := false, narrowed := true }
def FnExactChoicesOfUptoSaid : Prop := fnExactChoicesOfUptoRow.holds Try.pinned (OpenSpec.upto fnExactChoicesOfSpec)

/-- 'laws.FnExactInvertPerm', WHERE WHAT IT READS IS OF BULK AT MOST 1048576: true; the input reads as it did. -/
def fnExactInvertPermUptoRow : OpenClaim := { program := "ytfodcnnaeakhfaa", sum := "2cae3390c750c57dfb03d081776d359e2db895741e8458b26252739907ab132c", func := "loop.example/g00254/laws.FnExactInvertPerm", spec := "fnExactInvertPerm", apart := false, narrowed := true }
def FnExactInvertPermUptoSaid : Prop := fnExactInvertPermUptoRow.holds Try.pinned (OpenSpec.upto fnExactInvertPermSpec)

/-- 'laws.FnExactShuffleOf', WHERE WHAT IT READS IS OF BULK AT MOST 1048576: true; the input reads as it did. -/
def fnExactShuffleOfUptoRow : OpenClaim := { program := "ytfodcnnaeakhfaa", sum := "2cae3390c750c57dfb03d081776d359e2db895741e8458b26252739907ab132c", func := "loop.example/g00254/laws.FnExactShuffleOf", spec := "fnExactShuffleOf", unfollowed := true, recurses := true, apart := false, narrowed := true }
def FnExactShuffleOfUptoSaid : Prop := fnExactShuffleOfUptoRow.holds Try.pinned (OpenSpec.upto fnExactShuffleOfSpec)

end Rows
end Go.Proofs.Ytfodcnnaeakhfaa
