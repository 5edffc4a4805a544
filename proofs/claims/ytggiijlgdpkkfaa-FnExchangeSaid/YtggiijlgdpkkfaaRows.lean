/-
  No cell of these rows narrows 'for every input' (looked for: loops, veiled, ifaces, maps, wideKeys, modest, calm, conditions, laid).
  DERIVED. THE GIVEN ROWS OF THIS SEAT. 6 by the template 'for every input the law returns true; each argument reads behind the call as it read before'; 0 by the template 'total and deterministic' (their statements: YtggiijlgdpkkfaaTotals.lean).
  GIVEN WITH THE SEED: the statements are not yours to turn. If you find one false, say at which input.
  Laid BY PROGRAM, IN A SANDBOX (cutbox-rows.mjs): the forced cells as the released guide's own fill.sh prints them over the translation b9c38ccc4a7c4959… (all of the seat's roots in one cut). By AI agents, Wed Nov 11 2026. No macro, syntax, notation, axiom, sorry.
-/
import Derived.Test.YtggiijlgdpkkfaaChecked
import GoSem.Claim
import GoSem.ClaimJoined
import GoSem.ClaimMapViews
import Derived.JoinedTies
import Derived.KernelRfl
namespace Go.Proofs.Ytggiijlgdpkkfaa
/- THE CELL 'sum', in the pinned program and in every row, IS THE sha256 OF THE DUMP (.gsa) THAT YtggiijlgdpkkfaaProg.lean LOADS. Nothing in Lean hashes anything: it is a label: what it is worth is what the hold of that sum in a sandbox is worth. -/
noncomputable def Try.pinned : Pinned := { name := "ytggiijlgdpkkfaa", sum := "b9c38ccc4a7c495911ab6aa783534bc8d4c24b7eeb9b2f78dd5b2ae7b575948b", checked := Try.checked }
namespace Rows
def none {H : Type} : Left H := { results := [], args := [] }

/-- 'laws.FnHistogram': WHATEVER THE INPUT: true; the input reads as it did. -/
def fnHistogramSpec : ChangeSpec := { name := "fnHistogram", fn := fun _ => fun
  | [d1, d2] => { results := [.lit (.bool true)], args := [d1, d2] }
  | _ => none }
def fnHistogramRow : OpenClaim := { program := "ytggiijlgdpkkfaa", sum := "b9c38ccc4a7c495911ab6aa783534bc8d4c24b7eeb9b2f78dd5b2ae7b575948b", func := "loop.example/g00254/laws.FnHistogram", spec := "fnHistogram", unfollowed := true, recurses := true, apart := false }
def FnHistogramSaid : Prop := fnHistogramRow.holds Try.pinned (OpenSpec.ofChange fnHistogramSpec)

/-- ITS FALSE NEIGHBOUR: 'it returns false'. Refute it at one input. -/
def fnHistogramWrong : ChangeSpec := { name := "fnHistogram", fn := fun _ => fun
  | [d1, d2] => { results := [.lit (.bool false)], args := [d1, d2] }
  | _ => none }
def FnHistogramWrongFalsely : Prop := fnHistogramRow.holds Try.pinned (OpenSpec.ofChange fnHistogramWrong)

/-- 'laws.FnExchange': WHATEVER THE INPUT: true; the input reads as it did. -/
def fnExchangeSpec : ChangeSpec := { name := "fnExchange", fn := fun _ => fun
  | [d] => { results := [.lit (.bool true)], args := [d] }
  | _ => none }
def fnExchangeRow : OpenClaim := { program := "ytggiijlgdpkkfaa", sum := "b9c38ccc4a7c495911ab6aa783534bc8d4c24b7eeb9b2f78dd5b2ae7b575948b", func := "loop.example/g00254/laws.FnExchange", spec := "fnExchange", unfollowed := true, recurses := true, apart := false }
def FnExchangeSaid : Prop := fnExchangeRow.holds Try.pinned (OpenSpec.ofChange fnExchangeSpec)

/-- ITS FALSE NEIGHBOUR: 'it returns false'. Refute it at one input. -/
def fnExchangeWrong : ChangeSpec := { name := "fnExchange", fn := fun _ => fun
  | [d] => { results := [.lit (.bool false)], args := [d] }
  | _ => none }
def FnExchangeWrongFalsely : Prop := fnExchangeRow.holds Try.pinned (OpenSpec.ofChange fnExchangeWrong)

/-- 'laws.FnExactAccessHistogram': WHATEVER THE INPUT: true; the input reads as it did. -/
def fnExactAccessHistogramSpec : ChangeSpec := { name := "fnExactAccessHistogram", fn := fun _ => fun
  | [d] => { results := [.lit (.bool true)], args := [d] }
  | _ => none }
def fnExactAccessHistogramRow : OpenClaim := { program := "ytggiijlgdpkkfaa", sum := "b9c38ccc4a7c495911ab6aa783534bc8d4c24b7eeb9b2f78dd5b2ae7b575948b", func := "loop.example/g00254/laws.FnExactAccessHistogram", spec := "fnExactAccessHistogram", unfollowed := true, recurses := true, apart := false }
def FnExactAccessHistogramSaid : Prop := fnExactAccessHistogramRow.holds Try.pinned (OpenSpec.ofChange fnExactAccessHistogramSpec)

/-- ITS FALSE NEIGHBOUR: 'it returns false'. Refute it at one input. -/
def fnExactAccessHistogramWrong : ChangeSpec := { name := "fnExactAccessHistogram", fn := fun _ => fun
  | [d] => { results := [.lit (.bool false)], args := [d] }
  | _ => none }
def FnExactAccessHistogramWrongFalsely : Prop := fnExactAccessHistogramRow.holds Try.pinned (OpenSpec.ofChange fnExactAccessHistogramWrong)

/-- 'laws.FnExactExchangeDrops': WHATEVER THE INPUT: true; the input reads as it did. -/
def fnExactExchangeDropsSpec : ChangeSpec := { name := "fnExactExchangeDrops", fn := fun _ => fun
  | [d] => { results := [.lit (.bool true)], args := [d] }
  | _ => none }
def fnExactExchangeDropsRow : OpenClaim := { program := "ytggiijlgdpkkfaa", sum := "b9c38ccc4a7c495911ab6aa783534bc8d4c24b7eeb9b2f78dd5b2ae7b575948b", func := "loop.example/g00254/laws.FnExactExchangeDrops", spec := "fnExactExchangeDrops", unfollowed := true, recurses := true, apart := false }
def FnExactExchangeDropsSaid : Prop := fnExactExchangeDropsRow.holds Try.pinned (OpenSpec.ofChange fnExactExchangeDropsSpec)

/-- ITS FALSE NEIGHBOUR: 'it returns false'. Refute it at one input. -/
def fnExactExchangeDropsWrong : ChangeSpec := { name := "fnExactExchangeDrops", fn := fun _ => fun
  | [d] => { results := [.lit (.bool false)], args := [d] }
  | _ => none }
def FnExactExchangeDropsWrongFalsely : Prop := fnExactExchangeDropsRow.holds Try.pinned (OpenSpec.ofChange fnExactExchangeDropsWrong)

/-- 'laws.FnExactJoinKey': WHATEVER THE INPUT: true; the input reads as it did. -/
def fnExactJoinKeySpec : ChangeSpec := { name := "fnExactJoinKey", fn := fun _ => fun
  | [d] => { results := [.lit (.bool true)], args := [d] }
  | _ => none }
def fnExactJoinKeyRow : OpenClaim := { program := "ytggiijlgdpkkfaa", sum := "b9c38ccc4a7c495911ab6aa783534bc8d4c24b7eeb9b2f78dd5b2ae7b575948b", func := "loop.example/g00254/laws.FnExactJoinKey", spec := "fnExactJoinKey", unfollowed := true, recurses := true, apart := false }
def FnExactJoinKeySaid : Prop := fnExactJoinKeyRow.holds Try.pinned (OpenSpec.ofChange fnExactJoinKeySpec)

/-- ITS FALSE NEIGHBOUR: 'it returns false'. Refute it at one input. -/
def fnExactJoinKeyWrong : ChangeSpec := { name := "fnExactJoinKey", fn := fun _ => fun
  | [d] => { results := [.lit (.bool false)], args := [d] }
  | _ => none }
def FnExactJoinKeyWrongFalsely : Prop := fnExactJoinKeyRow.holds Try.pinned (OpenSpec.ofChange fnExactJoinKeyWrong)

/-- 'laws.FnExactMatchingOK': WHATEVER THE INPUT: true; the input reads as it did. -/
def fnExactMatchingOKSpec : ChangeSpec := { name := "fnExactMatchingOK", fn := fun _ => fun
  | [d] => { results := [.lit (.bool true)], args := [d] }
  | _ => none }
def fnExactMatchingOKRow : OpenClaim := { program := "ytggiijlgdpkkfaa", sum := "b9c38ccc4a7c495911ab6aa783534bc8d4c24b7eeb9b2f78dd5b2ae7b575948b", func := "loop.example/g00254/laws.FnExactMatchingOK", spec := "fnExactMatchingOK", apart := false }
def FnExactMatchingOKSaid : Prop := fnExactMatchingOKRow.holds Try.pinned (OpenSpec.ofChange fnExactMatchingOKSpec)

/-- ITS FALSE NEIGHBOUR: 'it returns false'. Refute it at one input. -/
def fnExactMatchingOKWrong : ChangeSpec := { name := "fnExactMatchingOK", fn := fun _ => fun
  | [d] => { results := [.lit (.bool false)], args := [d] }
  | _ => none }
def FnExactMatchingOKWrongFalsely : Prop := fnExactMatchingOKRow.holds Try.pinned (OpenSpec.ofChange fnExactMatchingOKWrong)

/- THE SECOND FORM. 'bulk': how many values and letters a reading holds, each counted each time it is reached (what is shared counts as often as it is met; a slice's spare places count too). A statement '..UptoSaid' is the law's where the arguments, and the package variables that the reading takes, are together of bulk at most 1048576: NARROWER than '..Said'. Prove '..Said' where nothing that the law and all that it calls make is longer than what came in: it says more and counts as full. Else prove '..UptoSaid'. A law counts once. -/
mutual
def uptoBulk {H : Type} : DataW H → Nat
  | .lit (.string bytes) => bytes.length + 1
  | .lit _ => 1
  | .nil => 1
  | .ptr d => uptoBulk d + 1
  | .slice elems spare => uptoBulkAll elems + uptoBulkAll spare + 1
  | .agg parts => uptoBulkAll parts + 1
  | .iface _ d => uptoBulk d + 1
  | .map entries => uptoBulkEntries entries + 1
  | .held _ => 1
def uptoBulkAll {H : Type} : List (DataW H) → Nat
  | [] => 0
  | d :: r => uptoBulk d + uptoBulkAll r
def uptoBulkEntries {H : Type} : List (Lit × DataW H) → Nat
  | [] => 0
  | x :: r => uptoBulkEntry x + uptoBulkEntries r
def uptoBulkEntry {H : Type} : Lit × DataW H → Nat
  | (.string bytes, d) => bytes.length + uptoBulk d + 1
  | (_, d) => uptoBulk d + 1
 end
def uptoSmall : (H : Type) → List (DataW H) → Bool := fun _ ds => decide (uptoBulkAll ds ≤ 1048576)
def OpenSpec.upto (s : _root_.Go.ChangeSpec) : _root_.Go.OpenSpec := { _root_.Go.OpenSpec.ofChange s with cond := some uptoSmall }

/-- 'laws.FnHistogram', WHERE WHAT IT READS IS OF BULK AT MOST 1048576: true; the input reads as it did. -/
def fnHistogramUptoRow : OpenClaim := { program := "ytggiijlgdpkkfaa", sum := "b9c38ccc4a7c495911ab6aa783534bc8d4c24b7eeb9b2f78dd5b2ae7b575948b", func := "loop.example/g00254/laws.FnHistogram", spec := "fnHistogram", unfollowed := true, recurses := true, apart := false, narrowed := true }
def FnHistogramUptoSaid : Prop := fnHistogramUptoRow.holds Try.pinned (OpenSpec.upto fnHistogramSpec)

/-- 'laws.FnExchange', WHERE WHAT IT READS IS OF BULK AT MOST 1048576: true; the input reads as it did. -/
def fnExchangeUptoRow : OpenClaim := { program := "ytggiijlgdpkkfaa", sum := "b9c38ccc4a7c495911ab6aa783534bc8d4c24b7eeb9b2f78dd5b2ae7b575948b", func := "loop.example/g00254/laws.FnExchange", spec := "fnExchange", unfollowed := true, recurses := true, apart := false, narrowed := true }
def FnExchangeUptoSaid : Prop := fnExchangeUptoRow.holds Try.pinned (OpenSpec.upto fnExchangeSpec)

/-- 'laws.FnExactAccessHistogram', WHERE WHAT IT READS IS OF BULK AT MOST 1048576: true; the input reads as it did. -/
def fnExactAccessHistogramUptoRow : OpenClaim := { program := "ytggiijlgdpkkfaa", sum := "b9c38ccc4a7c495911ab6aa783534bc8d4c24b7eeb9b2f78dd5b2ae7b575948b", func := "loop.example/g00254/laws.FnExactAccessHistogram", spec := "fnExactAccessHistogram", unfollowed := true, recurses := true, apart := false, narrowed := true }
def FnExactAccessHistogramUptoSaid : Prop := fnExactAccessHistogramUptoRow.holds Try.pinned (OpenSpec.upto fnExactAccessHistogramSpec)

/-- 'laws.FnExactExchangeDrops', WHERE WHAT IT READS IS OF BULK AT MOST 1048576: true; the input reads as it did. -/
def fnExactExchangeDropsUptoRow : OpenClaim := { program := "ytggiijlgdpkkfaa", sum := "b9c38ccc4a7c495911ab6aa783534bc8d4c24b7eeb9b2f78dd5b2ae7b575948b", func := "loop.example/g00254/laws.FnExactExchangeDrops", spec := "fnExactExchangeDrops", unfollowed := true, recurses := true, apart := false, narrowed := true }
def FnExactExchangeDropsUptoSaid : Prop := fnExactExchangeDropsUptoRow.holds Try.pinned (OpenSpec.upto fnExactExchangeDropsSpec)

/-- 'laws.FnExactJoinKey', WHERE WHAT IT READS IS OF BULK AT MOST 1048576: true; the input reads as it did. -/
def fnExactJoinKeyUptoRow : OpenClaim := { program := "ytggiijlgdpkkfaa", sum := "b9c38ccc4a7c495911ab6aa783534bc8d4c24b7eeb9b2f78dd5b2ae7b575948b", func := "loop.example/g00254/laws.FnExactJoinKey", spec := "fnExactJoinKey", unfollowed := true, recurses := true, apart := false, narrowed := true }
def FnExactJoinKeyUptoSaid : Prop := fnExactJoinKeyUptoRow.holds Try.pinned (OpenSpec.upto fnExactJoinKeySpec)

/-- 'laws.FnExactMatchingOK', WHERE WHAT IT READS IS OF BULK AT MOST 1048576: true; the input reads as it did. -/
def fnExactMatchingOKUptoRow : OpenClaim := { program := "ytggiijlgdpkkfaa", sum := "b9c38ccc4a7c495911ab6aa783534bc8d4c24b7eeb9b2f78dd5b2ae7b575948b", func := "loop.example/g00254/laws.FnExactMatchingOK", spec := "fnExactMatchingOK", apart := false, narrowed := true }
def FnExactMatchingOKUptoSaid : Prop := fnExactMatchingOKUptoRow.holds Try.pinned (OpenSpec.upto fnExactMatchingOKSpec)

end Rows
end Go.Proofs.Ytggiijlgdpkkfaa
