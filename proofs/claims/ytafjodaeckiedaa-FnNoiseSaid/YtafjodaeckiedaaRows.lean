/-
  No cell of these rows narrows 'for every input' (looked for: loops, veiled, ifaces, maps, wideKeys, modest, calm, conditions, laid).
  DERIVED. THE GIVEN ROWS OF THIS SEAT. 9 by the template 'for every input the law returns true; each argument reads behind the call as it read before'; 0 by the template 'total and deterministic' (their statements: YtafjodaeckiedaaTotals.lean).
  GIVEN WITH THE SEED: the statements are not yours to turn. If you find one false, say at which input.
  Laid BY PROGRAM, IN A SANDBOX (cutbox-rows.mjs): the forced cells as the released guide's own fill.sh prints them over the translation 0853e2f550301768… (all of the seat's roots in one cut). By AI agents, Wed Nov 11 2026. No macro, syntax, notation, axiom, sorry.
-/
import Derived.Test.YtafjodaeckiedaaChecked
import GoSem.Claim
import GoSem.ClaimJoined
import GoSem.ClaimMapViews
import Derived.JoinedTies
import Derived.KernelRfl
namespace Go.Proofs.Ytafjodaeckiedaa
/- THE CELL 'sum', in the pinned program and in every row, IS THE sha256 OF THE DUMP (.gsa) THAT YtafjodaeckiedaaProg.lean LOADS. Nothing in Lean hashes anything: it is a label: what it is worth is what the hold of that sum in a sandbox is worth. -/
noncomputable def Try.pinned : Pinned := { name := "ytafjodaeckiedaa", sum := "0853e2f550301768cacfe14db2c5c4be98d4242139dde4cc2b29fe324ae6b716", checked := Try.checked }
namespace Rows
def none {H : Type} : Left H := { results := [], args := [] }

/-- 'laws.FnNoise': WHATEVER THE INPUT: true; the input reads as it did. -/
def fnNoiseSpec : ChangeSpec := { name := "fnNoise", fn := fun _ => fun
  | [d1, d2] => { results := [.lit (.bool true)], args := [d1, d2] }
  | _ => none }
def fnNoiseRow : OpenClaim := { program := "ytafjodaeckiedaa", sum := "0853e2f550301768cacfe14db2c5c4be98d4242139dde4cc2b29fe324ae6b716", func := "loop.example/g00254/laws.FnNoise", spec := "fnNoise", unfollowed := true, recurses := true, apart := false }
def FnNoiseSaid : Prop := fnNoiseRow.holds Try.pinned (OpenSpec.ofChange fnNoiseSpec)

/-- ITS FALSE NEIGHBOUR: 'it returns false'. Refute it at one input. -/
def fnNoiseWrong : ChangeSpec := { name := "fnNoise", fn := fun _ => fun
  | [d1, d2] => { results := [.lit (.bool false)], args := [d1, d2] }
  | _ => none }
def FnNoiseWrongFalsely : Prop := fnNoiseRow.holds Try.pinned (OpenSpec.ofChange fnNoiseWrong)

/-- 'laws.FnPrivacy': WHATEVER THE INPUT: true; the input reads as it did. -/
def fnPrivacySpec : ChangeSpec := { name := "fnPrivacy", fn := fun _ => fun
  | [d1, d2] => { results := [.lit (.bool true)], args := [d1, d2] }
  | _ => none }
def fnPrivacyRow : OpenClaim := { program := "ytafjodaeckiedaa", sum := "0853e2f550301768cacfe14db2c5c4be98d4242139dde4cc2b29fe324ae6b716", func := "loop.example/g00254/laws.FnPrivacy", spec := "fnPrivacy", apart := false }
def FnPrivacySaid : Prop := fnPrivacyRow.holds Try.pinned (OpenSpec.ofChange fnPrivacySpec)

/-- ITS FALSE NEIGHBOUR: 'it returns false'. Refute it at one input. -/
def fnPrivacyWrong : ChangeSpec := { name := "fnPrivacy", fn := fun _ => fun
  | [d1, d2] => { results := [.lit (.bool false)], args := [d1, d2] }
  | _ => none }
def FnPrivacyWrongFalsely : Prop := fnPrivacyRow.holds Try.pinned (OpenSpec.ofChange fnPrivacyWrong)

/-- 'laws.FnGeometric': WHATEVER THE INPUT: true; the input reads as it did. -/
def fnGeometricSpec : ChangeSpec := { name := "fnGeometric", fn := fun _ => fun
  | [d1, d2] => { results := [.lit (.bool true)], args := [d1, d2] }
  | _ => none }
def fnGeometricRow : OpenClaim := { program := "ytafjodaeckiedaa", sum := "0853e2f550301768cacfe14db2c5c4be98d4242139dde4cc2b29fe324ae6b716", func := "loop.example/g00254/laws.FnGeometric", spec := "fnGeometric", unfollowed := true, recurses := true, apart := false }
def FnGeometricSaid : Prop := fnGeometricRow.holds Try.pinned (OpenSpec.ofChange fnGeometricSpec)

/-- ITS FALSE NEIGHBOUR: 'it returns false'. Refute it at one input. -/
def fnGeometricWrong : ChangeSpec := { name := "fnGeometric", fn := fun _ => fun
  | [d1, d2] => { results := [.lit (.bool false)], args := [d1, d2] }
  | _ => none }
def FnGeometricWrongFalsely : Prop := fnGeometricRow.holds Try.pinned (OpenSpec.ofChange fnGeometricWrong)

/-- 'laws.FnExactGeometricOf': WHATEVER THE INPUT: true; the input reads as it did. -/
def fnExactGeometricOfSpec : ChangeSpec := { name := "fnExactGeometricOf", fn := fun _ => fun
  | [d1, d2, d3] => { results := [.lit (.bool true)], args := [d1, d2, d3] }
  | _ => none }
def fnExactGeometricOfRow : OpenClaim := { program := "ytafjodaeckiedaa", sum := "0853e2f550301768cacfe14db2c5c4be98d4242139dde4cc2b29fe324ae6b716", func := "loop.example/g00254/laws.FnExactGeometricOf", spec := "fnExactGeometricOf", unfollowed := true, recurses := true, apart := false }
def FnExactGeometricOfSaid : Prop := fnExactGeometricOfRow.holds Try.pinned (OpenSpec.ofChange fnExactGeometricOfSpec)

/-- ITS FALSE NEIGHBOUR: 'it returns false'. Refute it at one input. -/
def fnExactGeometricOfWrong : ChangeSpec := { name := "fnExactGeometricOf", fn := fun _ => fun
  | [d1, d2, d3] => { results := [.lit (.bool false)], args := [d1, d2, d3] }
  | _ => none }
def FnExactGeometricOfWrongFalsely : Prop := fnExactGeometricOfRow.holds Try.pinned (OpenSpec.ofChange fnExactGeometricOfWrong)

/-- 'laws.FnExactNoiseOf': WHATEVER THE INPUT: true; the input reads as it did. -/
def fnExactNoiseOfSpec : ChangeSpec := { name := "fnExactNoiseOf", fn := fun _ => fun
  | [d1, d2, d3, d4] => { results := [.lit (.bool true)], args := [d1, d2, d3, d4] }
  | _ => none }
def fnExactNoiseOfRow : OpenClaim := { program := "ytafjodaeckiedaa", sum := "0853e2f550301768cacfe14db2c5c4be98d4242139dde4cc2b29fe324ae6b716", func := "loop.example/g00254/laws.FnExactNoiseOf", spec := "fnExactNoiseOf", unfollowed := true, recurses := true, apart := false }
def FnExactNoiseOfSaid : Prop := fnExactNoiseOfRow.holds Try.pinned (OpenSpec.ofChange fnExactNoiseOfSpec)

/-- ITS FALSE NEIGHBOUR: 'it returns false'. Refute it at one input. -/
def fnExactNoiseOfWrong : ChangeSpec := { name := "fnExactNoiseOf", fn := fun _ => fun
  | [d1, d2, d3, d4] => { results := [.lit (.bool false)], args := [d1, d2, d3, d4] }
  | _ => none }
def FnExactNoiseOfWrongFalsely : Prop := fnExactNoiseOfRow.holds Try.pinned (OpenSpec.ofChange fnExactNoiseOfWrong)

/-- 'laws.FnExactNoiseWeight': WHATEVER THE INPUT: true; the input reads as it did. -/
def fnExactNoiseWeightSpec : ChangeSpec := { name := "fnExactNoiseWeight", fn := fun _ => fun
  | [d1, d2, d3, d4] => { results := [.lit (.bool true)], args := [d1, d2, d3, d4] }
  | _ => none }
def fnExactNoiseWeightRow : OpenClaim := { program := "ytafjodaeckiedaa", sum := "0853e2f550301768cacfe14db2c5c4be98d4242139dde4cc2b29fe324ae6b716", func := "loop.example/g00254/laws.FnExactNoiseWeight", spec := "fnExactNoiseWeight", apart := false }
def FnExactNoiseWeightSaid : Prop := fnExactNoiseWeightRow.holds Try.pinned (OpenSpec.ofChange fnExactNoiseWeightSpec)

/-- ITS FALSE NEIGHBOUR: 'it returns false'. Refute it at one input. -/
def fnExactNoiseWeightWrong : ChangeSpec := { name := "fnExactNoiseWeight", fn := fun _ => fun
  | [d1, d2, d3, d4] => { results := [.lit (.bool false)], args := [d1, d2, d3, d4] }
  | _ => none }
def FnExactNoiseWeightWrongFalsely : Prop := fnExactNoiseWeightRow.holds Try.pinned (OpenSpec.ofChange fnExactNoiseWeightWrong)

/-- 'laws.FnExactNoiseTotal': WHATEVER THE INPUT: true; the input reads as it did. -/
def fnExactNoiseTotalSpec : ChangeSpec := { name := "fnExactNoiseTotal", fn := fun _ => fun
  | [d1, d2, d3] => { results := [.lit (.bool true)], args := [d1, d2, d3] }
  | _ => none }
def fnExactNoiseTotalRow : OpenClaim := { program := "ytafjodaeckiedaa", sum := "0853e2f550301768cacfe14db2c5c4be98d4242139dde4cc2b29fe324ae6b716", func := "loop.example/g00254/laws.FnExactNoiseTotal", spec := "fnExactNoiseTotal", apart := false }
def FnExactNoiseTotalSaid : Prop := fnExactNoiseTotalRow.holds Try.pinned (OpenSpec.ofChange fnExactNoiseTotalSpec)

/-- ITS FALSE NEIGHBOUR: 'it returns false'. Refute it at one input. -/
def fnExactNoiseTotalWrong : ChangeSpec := { name := "fnExactNoiseTotal", fn := fun _ => fun
  | [d1, d2, d3] => { results := [.lit (.bool false)], args := [d1, d2, d3] }
  | _ => none }
def FnExactNoiseTotalWrongFalsely : Prop := fnExactNoiseTotalRow.holds Try.pinned (OpenSpec.ofChange fnExactNoiseTotalWrong)

/-- 'laws.FnExactNoisePair': WHATEVER THE INPUT: true; the input reads as it did. -/
def fnExactNoisePairSpec : ChangeSpec := { name := "fnExactNoisePair", fn := fun _ => fun
  | [d1, d2, d3, d4] => { results := [.lit (.bool true)], args := [d1, d2, d3, d4] }
  | _ => none }
def fnExactNoisePairRow : OpenClaim := { program := "ytafjodaeckiedaa", sum := "0853e2f550301768cacfe14db2c5c4be98d4242139dde4cc2b29fe324ae6b716", func := "loop.example/g00254/laws.FnExactNoisePair", spec := "fnExactNoisePair", unfollowed := true, recurses := true, apart := false }
def FnExactNoisePairSaid : Prop := fnExactNoisePairRow.holds Try.pinned (OpenSpec.ofChange fnExactNoisePairSpec)

/-- ITS FALSE NEIGHBOUR: 'it returns false'. Refute it at one input. -/
def fnExactNoisePairWrong : ChangeSpec := { name := "fnExactNoisePair", fn := fun _ => fun
  | [d1, d2, d3, d4] => { results := [.lit (.bool false)], args := [d1, d2, d3, d4] }
  | _ => none }
def FnExactNoisePairWrongFalsely : Prop := fnExactNoisePairRow.holds Try.pinned (OpenSpec.ofChange fnExactNoisePairWrong)

/-- 'laws.FnExactShiftNoise': WHATEVER THE INPUT: true; the input reads as it did. -/
def fnExactShiftNoiseSpec : ChangeSpec := { name := "fnExactShiftNoise", fn := fun _ => fun
  | [d1, d2, d3] => { results := [.lit (.bool true)], args := [d1, d2, d3] }
  | _ => none }
def fnExactShiftNoiseRow : OpenClaim := { program := "ytafjodaeckiedaa", sum := "0853e2f550301768cacfe14db2c5c4be98d4242139dde4cc2b29fe324ae6b716", func := "loop.example/g00254/laws.FnExactShiftNoise", spec := "fnExactShiftNoise", apart := false }
def FnExactShiftNoiseSaid : Prop := fnExactShiftNoiseRow.holds Try.pinned (OpenSpec.ofChange fnExactShiftNoiseSpec)

/-- ITS FALSE NEIGHBOUR: 'it returns false'. Refute it at one input. -/
def fnExactShiftNoiseWrong : ChangeSpec := { name := "fnExactShiftNoise", fn := fun _ => fun
  | [d1, d2, d3] => { results := [.lit (.bool false)], args := [d1, d2, d3] }
  | _ => none }
def FnExactShiftNoiseWrongFalsely : Prop := fnExactShiftNoiseRow.holds Try.pinned (OpenSpec.ofChange fnExactShiftNoiseWrong)

/- THE SECOND FORM. 'bulk': how many values and letters a reading holds, each counted each time it is reached (what is shared counts as often as it is met; a slice's spare places count too). A statement '..UptoSaid' is the law's where the arguments, and the package variables that the reading takes, are together of bulk at most 1048576: NARROWER than '..Said'. Prove '..Said' where nothing that the law and all that it calls make is longer than what came in: it says more and counts as full. Else prove '..UptoSaid'. A law counts once. -/
mutual
def uptoBulk {H : Type} : DataW H → Nat
  | .lit (.string bytes) => bytes.length + 1
  | .lit _ => 1
  | .nil => 1
  | .ptr d => uptoBulk d + 1
  | .slice elems spare => uptoBulkAll elems + uptoBulkAll spare + 1
  | .agg parts => uptoBulkAll parts + 1
  | .iface _ d => uptoBulk d + 1
  | .map entries => uptoBulkEntries entries + 1
  | .held _ => 1
def uptoBulkAll {H : Type} : List (DataW H) → Nat
  | [] => 0
  | d :: r => uptoBulk d + uptoBulkAll r
def uptoBulkEntries {H : Type} : List (Lit × DataW H) → Nat
  | [] => 0
  | x :: r => uptoBulkEntry x + uptoBulkEntries r
def uptoBulkEntry {H : Type} : Lit × DataW H → Nat
  | (.string bytes, d) => bytes.length + uptoBulk d + 1
  | (_, d) => uptoBulk d + 1
 end
def uptoSmall : (H : Type) → List (DataW H) → Bool := fun _ ds => decide (uptoBulkAll ds ≤ 1048576)
def OpenSpec.upto (s : _root_.Go.ChangeSpec) : _root_.Go.OpenSpec := { _root_.Go.OpenSpec.ofChange s with cond := some uptoSmall }

/-- 'laws.FnNoise', WHERE WHAT IT READS IS OF BULK AT MOST 1048576: true; the input reads as it did. -/
def fnNoiseUptoRow : OpenClaim := { program := "ytafjodaeckiedaa", sum := "0853e2f550301768cacfe14db2c5c4be98d4242139dde4cc2b29fe324ae6b716", func := "loop.example/g00254/laws.FnNoise", spec := "fnNoise", unfollowed := true, recurses := true, apart := false, narrowed := true }
def FnNoiseUptoSaid : Prop := fnNoiseUptoRow.holds Try.pinned (OpenSpec.upto fnNoiseSpec)

/-- 'laws.FnPrivacy', WHERE WHAT IT READS IS OF BULK AT MOST 1048576: true; the input reads as it did. -/
def fnPrivacyUptoRow : OpenClaim := { program := "ytafjodaeckiedaa", sum := "0853e2f550301768cacfe14db2c5c4be98d4242139dde4cc2b29fe324ae6b716", func := "loop.example/g00254/laws.FnPrivacy", spec := "fnPrivacy", apart := false, narrowed := true }
def FnPrivacyUptoSaid : Prop := fnPrivacyUptoRow.holds Try.pinned (OpenSpec.upto fnPrivacySpec)

/-- 'laws.FnGeometric', WHERE WHAT IT READS IS OF BULK AT MOST 1048576: true; the input reads as it did. -/
def fnGeometricUptoRow : OpenClaim := { program := "ytafjodaeckiedaa", sum := "0853e2f550301768cacfe14db2c5c4be98d4242139dde4cc2b29fe324ae6b716", func := "loop.example/g00254/laws.FnGeometric", spec := "fnGeometric", unfollowed := true, recurses := true, apart := false, narrowed := true }
def FnGeometricUptoSaid : Prop := fnGeometricUptoRow.holds Try.pinned (OpenSpec.upto fnGeometricSpec)

/-- 'laws.FnExactGeometricOf', WHERE WHAT IT READS IS OF BULK AT MOST 1048576: true; the input reads as it did. -/
def fnExactGeometricOfUptoRow : OpenClaim := { program := "ytafjodaeckiedaa", sum := "0853e2f550301768cacfe14db2c5c4be98d4242139dde4cc2b29fe324ae6b716", func := "loop.example/g00254/laws.FnExactGeometricOf", spec := "fnExactGeometricOf", unfollowed := true, recurses := true, apart := false, narrowed := true }
def FnExactGeometricOfUptoSaid : Prop := fnExactGeometricOfUptoRow.holds Try.pinned (OpenSpec.upto fnExactGeometricOfSpec)

/-- 'laws.FnExactNoiseOf', WHERE WHAT IT READS IS OF BULK AT MOST 1048576: true; the input reads as it did. -/
def fnExactNoiseOfUptoRow : OpenClaim := { program := "ytafjodaeckiedaa", sum := "0853e2f550301768cacfe14db2c5c4be98d4242139dde4cc2b29fe324ae6b716", func := "loop.example/g00254/laws.FnExactNoiseOf", spec := "fnExactNoiseOf", unfollowed := true, recurses := true, apart := false, narrowed := true }
def FnExactNoiseOfUptoSaid : Prop := fnExactNoiseOfUptoRow.holds Try.pinned (OpenSpec.upto fnExactNoiseOfSpec)

/-- 'laws.FnExactNoiseWeight', WHERE WHAT IT READS IS OF BULK AT MOST 1048576: true; the input reads as it did. -/
def fnExactNoiseWeightUptoRow : OpenClaim := { program := "ytafjodaeckiedaa", sum := "0853e2f550301768cacfe14db2c5c4be98d4242139dde4cc2b29fe324ae6b716", func := "loop.example/g00254/laws.FnExactNoiseWeight", spec := "fnExactNoiseWeight", apart := false, narrowed := true }
def FnExactNoiseWeightUptoSaid : Prop := fnExactNoiseWeightUptoRow.holds Try.pinned (OpenSpec.upto fnExactNoiseWeightSpec)

/-- 'laws.FnExactNoiseTotal', WHERE WHAT IT READS IS OF BULK AT MOST 1048576: true; the input reads as it did. -/
def fnExactNoiseTotalUptoRow : OpenClaim := { program := "ytafjodaeckiedaa", sum := "0853e2f550301768cacfe14db2c5c4be98d4242139dde4cc2b29fe324ae6b716", func := "loop.example/g00254/laws.FnExactNoiseTotal", spec := "fnExactNoiseTotal", apart := false, narrowed := true }
def FnExactNoiseTotalUptoSaid : Prop := fnExactNoiseTotalUptoRow.holds Try.pinned (OpenSpec.upto fnExactNoiseTotalSpec)

/-- 'laws.FnExactNoisePair', WHERE WHAT IT READS IS OF BULK AT MOST 1048576: true; the input reads as it did. -/
def fnExactNoisePairUptoRow : OpenClaim := { program := "ytafjodaeckiedaa", sum := "0853e2f550301768cacfe14db2c5c4be98d4242139dde4cc2b29fe324ae6b716", func := "loop.example/g00254/laws.FnExactNoisePair", spec := "fnExactNoisePair", unfollowed := true, recurses := true, apart := false, narrowed := true }
def FnExactNoisePairUptoSaid : Prop := fnExactNoisePairUptoRow.holds Try.pinned (OpenSpec.upto fnExactNoisePairSpec)

/-- 'laws.FnExactShiftNoise', WHERE WHAT IT READS IS OF BULK AT MOST 1048576: true; the input reads as it did. -/
def fnExactShiftNoiseUptoRow : OpenClaim := { program := "ytafjodaeckiedaa", sum := "0853e2f550301768cacfe14db2c5c4be98d4242139dde4cc2b29fe324ae6b716", func := "loop.example/g00254/laws.FnExactShiftNoise", spec := "fnExactShiftNoise", apart := false, narrowed := true }
def FnExactShiftNoiseUptoSaid : Prop := fnExactShiftNoiseUptoRow.holds Try.pinned (OpenSpec.upto fnExactShiftNoiseSpec)

end Rows
end Go.Proofs.Ytafjodaeckiedaa
