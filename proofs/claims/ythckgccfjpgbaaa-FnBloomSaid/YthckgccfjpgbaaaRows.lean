/-
  No cell of these rows narrows 'for every input' (looked for: loops, veiled, ifaces, maps, wideKeys, modest, calm, conditions, laid).
  DERIVED. THE GIVEN ROWS OF THIS SEAT. 10 by the template 'for every input the law returns true; each argument reads behind the call as it read before'; 0 by the template 'total and deterministic' (their statements: YthckgccfjpgbaaaTotals.lean).
  GIVEN WITH THE SEED: the statements are not yours to turn. If you find one false, say at which input.
  Laid BY PROGRAM, IN A SANDBOX (cutbox-rows.mjs): the forced cells as the released guide's own fill.sh prints them over the translation 3579655af3e65b09… (all of the seat's roots in one cut). By AI agents, Wed Nov 11 2026. No macro, syntax, notation, axiom, sorry.
-/
import Derived.Test.YthckgccfjpgbaaaChecked
import GoSem.Claim
import GoSem.ClaimJoined
import GoSem.ClaimMapViews
import Derived.JoinedTies
import Derived.KernelRfl
namespace Go.Proofs.Ythckgccfjpgbaaa
/- THE CELL 'sum', in the pinned program and in every row, IS THE sha256 OF THE DUMP (.gsa) THAT YthckgccfjpgbaaaProg.lean LOADS. Nothing in Lean hashes anything: it is a label: what it is worth is what the hold of that sum in a sandbox is worth. -/
noncomputable def Try.pinned : Pinned := { name := "ythckgccfjpgbaaa", sum := "3579655af3e65b09763a832734aea77dc0237276f32ef0c6083672b18aee5d96", checked := Try.checked }
namespace Rows
def none {H : Type} : Left H := { results := [], args := [] }

/-- 'laws.FnBloom': WHATEVER THE INPUT: true; the input reads as it did. -/
def fnBloomSpec : ChangeSpec := { name := "fnBloom", fn := fun _ => fun
  | [d1, d2] => { results := [.lit (.bool true)], args := [d1, d2] }
  | _ => none }
def fnBloomRow : OpenClaim := { program := "ythckgccfjpgbaaa", sum := "3579655af3e65b09763a832734aea77dc0237276f32ef0c6083672b18aee5d96", func := "loop.example/g00254/laws.FnBloom", spec := "fnBloom", unfollowed := true, recurses := true, apart := false }
def FnBloomSaid : Prop := fnBloomRow.holds Try.pinned (OpenSpec.ofChange fnBloomSpec)

/-- ITS FALSE NEIGHBOUR: 'it returns false'. Refute it at one input. -/
def fnBloomWrong : ChangeSpec := { name := "fnBloom", fn := fun _ => fun
  | [d1, d2] => { results := [.lit (.bool false)], args := [d1, d2] }
  | _ => none }
def FnBloomWrongFalsely : Prop := fnBloomRow.holds Try.pinned (OpenSpec.ofChange fnBloomWrong)

/-- 'laws.FnFalse': WHATEVER THE INPUT: true; the input reads as it did. -/
def fnFalseSpec : ChangeSpec := { name := "fnFalse", fn := fun _ => fun
  | [d1, d2] => { results := [.lit (.bool true)], args := [d1, d2] }
  | _ => none }
def fnFalseRow : OpenClaim := { program := "ythckgccfjpgbaaa", sum := "3579655af3e65b09763a832734aea77dc0237276f32ef0c6083672b18aee5d96", func := "loop.example/g00254/laws.FnFalse", spec := "fnFalse", apart := false }
def FnFalseSaid : Prop := fnFalseRow.holds Try.pinned (OpenSpec.ofChange fnFalseSpec)

/-- ITS FALSE NEIGHBOUR: 'it returns false'. Refute it at one input. -/
def fnFalseWrong : ChangeSpec := { name := "fnFalse", fn := fun _ => fun
  | [d1, d2] => { results := [.lit (.bool false)], args := [d1, d2] }
  | _ => none }
def FnFalseWrongFalsely : Prop := fnFalseRow.holds Try.pinned (OpenSpec.ofChange fnFalseWrong)

/-- 'laws.FnExactPrimeOK': WHATEVER THE INPUT: true; the input reads as it did. -/
def fnExactPrimeOKSpec : ChangeSpec := { name := "fnExactPrimeOK", fn := fun _ => fun
  | [d] => { results := [.lit (.bool true)], args := [d] }
  | _ => none }
def fnExactPrimeOKRow : OpenClaim := { program := "ythckgccfjpgbaaa", sum := "3579655af3e65b09763a832734aea77dc0237276f32ef0c6083672b18aee5d96", func := "loop.example/g00254/laws.FnExactPrimeOK", spec := "fnExactPrimeOK", apart := false }
def FnExactPrimeOKSaid : Prop := fnExactPrimeOKRow.holds Try.pinned (OpenSpec.ofChange fnExactPrimeOKSpec)

/-- ITS FALSE NEIGHBOUR: 'it returns false'. Refute it at one input. -/
def fnExactPrimeOKWrong : ChangeSpec := { name := "fnExactPrimeOK", fn := fun _ => fun
  | [d] => { results := [.lit (.bool false)], args := [d] }
  | _ => none }
def FnExactPrimeOKWrongFalsely : Prop := fnExactPrimeOKRow.holds Try.pinned (OpenSpec.ofChange fnExactPrimeOKWrong)

/-- 'laws.FnExactNewBloom': WHATEVER THE INPUT: true; the input reads as it did. -/
def fnExactNewBloomSpec : ChangeSpec := { name := "fnExactNewBloom", fn := fun _ => fun
  | [d1, d2, d3] => { results := [.lit (.bool true)], args := [d1, d2, d3] }
  | _ => none }
def fnExactNewBloomRow : OpenClaim := { program := "ythckgccfjpgbaaa", sum := "3579655af3e65b09763a832734aea77dc0237276f32ef0c6083672b18aee5d96", func := "loop.example/g00254/laws.FnExactNewBloom", spec := "fnExactNewBloom", unfollowed := true, recurses := true, apart := false }
def FnExactNewBloomSaid : Prop := fnExactNewBloomRow.holds Try.pinned (OpenSpec.ofChange fnExactNewBloomSpec)

/-- ITS FALSE NEIGHBOUR: 'it returns false'. Refute it at one input. -/
def fnExactNewBloomWrong : ChangeSpec := { name := "fnExactNewBloom", fn := fun _ => fun
  | [d1, d2, d3] => { results := [.lit (.bool false)], args := [d1, d2, d3] }
  | _ => none }
def FnExactNewBloomWrongFalsely : Prop := fnExactNewBloomRow.holds Try.pinned (OpenSpec.ofChange fnExactNewBloomWrong)

/-- 'laws.FnExactBloomOK': WHATEVER THE INPUT: true; the input reads as it did. -/
def fnExactBloomOKSpec : ChangeSpec := { name := "fnExactBloomOK", fn := fun _ => fun
  | [d] => { results := [.lit (.bool true)], args := [d] }
  | _ => none }
def fnExactBloomOKRow : OpenClaim := { program := "ythckgccfjpgbaaa", sum := "3579655af3e65b09763a832734aea77dc0237276f32ef0c6083672b18aee5d96", func := "loop.example/g00254/laws.FnExactBloomOK", spec := "fnExactBloomOK", unfollowed := true, recurses := true, apart := false }
def FnExactBloomOKSaid : Prop := fnExactBloomOKRow.holds Try.pinned (OpenSpec.ofChange fnExactBloomOKSpec)

/-- ITS FALSE NEIGHBOUR: 'it returns false'. Refute it at one input. -/
def fnExactBloomOKWrong : ChangeSpec := { name := "fnExactBloomOK", fn := fun _ => fun
  | [d] => { results := [.lit (.bool false)], args := [d] }
  | _ => none }
def FnExactBloomOKWrongFalsely : Prop := fnExactBloomOKRow.holds Try.pinned (OpenSpec.ofChange fnExactBloomOKWrong)

/-- 'laws.FnExactBloomPlace': WHATEVER THE INPUT: true; the input reads as it did. -/
def fnExactBloomPlaceSpec : ChangeSpec := { name := "fnExactBloomPlace", fn := fun _ => fun
  | [d1, d2, d3] => { results := [.lit (.bool true)], args := [d1, d2, d3] }
  | _ => none }
def fnExactBloomPlaceRow : OpenClaim := { program := "ythckgccfjpgbaaa", sum := "3579655af3e65b09763a832734aea77dc0237276f32ef0c6083672b18aee5d96", func := "loop.example/g00254/laws.FnExactBloomPlace", spec := "fnExactBloomPlace", unfollowed := true, recurses := true, apart := false }
def FnExactBloomPlaceSaid : Prop := fnExactBloomPlaceRow.holds Try.pinned (OpenSpec.ofChange fnExactBloomPlaceSpec)

/-- ITS FALSE NEIGHBOUR: 'it returns false'. Refute it at one input. -/
def fnExactBloomPlaceWrong : ChangeSpec := { name := "fnExactBloomPlace", fn := fun _ => fun
  | [d1, d2, d3] => { results := [.lit (.bool false)], args := [d1, d2, d3] }
  | _ => none }
def FnExactBloomPlaceWrongFalsely : Prop := fnExactBloomPlaceRow.holds Try.pinned (OpenSpec.ofChange fnExactBloomPlaceWrong)

/-- 'laws.FnExactBloomAdd': WHATEVER THE INPUT: true; the input reads as it did. -/
def fnExactBloomAddSpec : ChangeSpec := { name := "fnExactBloomAdd", fn := fun _ => fun
  | [d1, d2] => { results := [.lit (.bool true)], args := [d1, d2] }
  | _ => none }
def fnExactBloomAddRow : OpenClaim := { program := "ythckgccfjpgbaaa", sum := "3579655af3e65b09763a832734aea77dc0237276f32ef0c6083672b18aee5d96", func := "loop.example/g00254/laws.FnExactBloomAdd", spec := "fnExactBloomAdd", unfollowed := true, recurses := true, apart := false }
def FnExactBloomAddSaid : Prop := fnExactBloomAddRow.holds Try.pinned (OpenSpec.ofChange fnExactBloomAddSpec)

/-- ITS FALSE NEIGHBOUR: 'it returns false'. Refute it at one input. -/
def fnExactBloomAddWrong : ChangeSpec := { name := "fnExactBloomAdd", fn := fun _ => fun
  | [d1, d2] => { results := [.lit (.bool false)], args := [d1, d2] }
  | _ => none }
def FnExactBloomAddWrongFalsely : Prop := fnExactBloomAddRow.holds Try.pinned (OpenSpec.ofChange fnExactBloomAddWrong)

/-- 'laws.FnExactBloomHas': WHATEVER THE INPUT: true; the input reads as it did. -/
def fnExactBloomHasSpec : ChangeSpec := { name := "fnExactBloomHas", fn := fun _ => fun
  | [d1, d2] => { results := [.lit (.bool true)], args := [d1, d2] }
  | _ => none }
def fnExactBloomHasRow : OpenClaim := { program := "ythckgccfjpgbaaa", sum := "3579655af3e65b09763a832734aea77dc0237276f32ef0c6083672b18aee5d96", func := "loop.example/g00254/laws.FnExactBloomHas", spec := "fnExactBloomHas", unfollowed := true, recurses := true, apart := false }
def FnExactBloomHasSaid : Prop := fnExactBloomHasRow.holds Try.pinned (OpenSpec.ofChange fnExactBloomHasSpec)

/-- ITS FALSE NEIGHBOUR: 'it returns false'. Refute it at one input. -/
def fnExactBloomHasWrong : ChangeSpec := { name := "fnExactBloomHas", fn := fun _ => fun
  | [d1, d2] => { results := [.lit (.bool false)], args := [d1, d2] }
  | _ => none }
def FnExactBloomHasWrongFalsely : Prop := fnExactBloomHasRow.holds Try.pinned (OpenSpec.ofChange fnExactBloomHasWrong)

/-- 'laws.FnExactBloomMerge': WHATEVER THE INPUT: true; the input reads as it did. -/
def fnExactBloomMergeSpec : ChangeSpec := { name := "fnExactBloomMerge", fn := fun _ => fun
  | [d1, d2] => { results := [.lit (.bool true)], args := [d1, d2] }
  | _ => none }
def fnExactBloomMergeRow : OpenClaim := { program := "ythckgccfjpgbaaa", sum := "3579655af3e65b09763a832734aea77dc0237276f32ef0c6083672b18aee5d96", func := "loop.example/g00254/laws.FnExactBloomMerge", spec := "fnExactBloomMerge", unfollowed := true, recurses := true, apart := false }
def FnExactBloomMergeSaid : Prop := fnExactBloomMergeRow.holds Try.pinned (OpenSpec.ofChange fnExactBloomMergeSpec)

/-- ITS FALSE NEIGHBOUR: 'it returns false'. Refute it at one input. -/
def fnExactBloomMergeWrong : ChangeSpec := { name := "fnExactBloomMerge", fn := fun _ => fun
  | [d1, d2] => { results := [.lit (.bool false)], args := [d1, d2] }
  | _ => none }
def FnExactBloomMergeWrongFalsely : Prop := fnExactBloomMergeRow.holds Try.pinned (OpenSpec.ofChange fnExactBloomMergeWrong)

/-- 'laws.FnExactFalseSalts': WHATEVER THE INPUT: true; the input reads as it did. -/
def fnExactFalseSaltsSpec : ChangeSpec := { name := "fnExactFalseSalts", fn := fun _ => fun
  | [d1, d2, d3, d4] => { results := [.lit (.bool true)], args := [d1, d2, d3, d4] }
  | _ => none }
def fnExactFalseSaltsRow : OpenClaim := { program := "ythckgccfjpgbaaa", sum := "3579655af3e65b09763a832734aea77dc0237276f32ef0c6083672b18aee5d96", func := "loop.example/g00254/laws.FnExactFalseSalts", spec := "fnExactFalseSalts", apart := false }
def FnExactFalseSaltsSaid : Prop := fnExactFalseSaltsRow.holds Try.pinned (OpenSpec.ofChange fnExactFalseSaltsSpec)

/-- ITS FALSE NEIGHBOUR: 'it returns false'. Refute it at one input. -/
def fnExactFalseSaltsWrong : ChangeSpec := { name := "fnExactFalseSalts", fn := fun _ => fun
  | [d1, d2, d3, d4] => { results := [.lit (.bool false)], args := [d1, d2, d3, d4] }
  | _ => none }
def FnExactFalseSaltsWrongFalsely : Prop := fnExactFalseSaltsRow.holds Try.pinned (OpenSpec.ofChange fnExactFalseSaltsWrong)

/- THE SECOND FORM. 'bulk': how many values and letters a reading holds, each counted each time it is reached (what is shared counts as often as it is met; a slice's spare places count too). A statement '..UptoSaid' is the law's where the arguments, and the package variables that the reading takes, are together of bulk at most 1048576: NARROWER than '..Said'. Prove '..Said' where nothing that the law and all that it calls make is longer than what came in: it says more and counts as full. Else prove '..UptoSaid'. A law counts once. -/
mutual
def uptoBulk {H : Type} : DataW H → Nat
  | .lit (.string bytes) => bytes.length + 1
  | .lit _ => 1
  | .nil => 1
  | .ptr d => uptoBulk d + 1
  | .slice elems spare => uptoBulkAll elems + uptoBulkAll spare + 1
  | .agg parts => uptoBulkAll parts + 1
  | .iface _ d => uptoBulk d + 1
  | .map entries => uptoBulkEntries entries + 1
  | .held _ => 1
def uptoBulkAll {H : Type} : List (DataW H) → Nat
  | [] => 0
  | d :: r => uptoBulk d + uptoBulkAll r
def uptoBulkEntries {H : Type} : List (Lit × DataW H) → Nat
  | [] => 0
  | x :: r => uptoBulkEntry x + uptoBulkEntries r
def uptoBulkEntry {H : Type} : Lit × DataW H → Nat
  | (.string bytes, d) => bytes.length + uptoBulk d + 1
  | (_, d) => uptoBulk d + 1
 end
def uptoSmall : (H : Type) → List (DataW H) → Bool := fun _ ds => decide (uptoBulkAll ds ≤ 1048576)
def OpenSpec.upto (s : _root_.Go.ChangeSpec) : _root_.Go.OpenSpec := { _root_.Go.OpenSpec.ofChange s with cond := some uptoSmall }

/-- 'laws.FnBloom', WHERE WHAT IT READS IS OF BULK AT MOST 1048576: true; the input reads as it did. -/
def fnBloomUptoRow : OpenClaim := { program := "ythckgccfjpgbaaa", sum := "3579655af3e65b09763a832734aea77dc0237276f32ef0c6083672b18aee5d96", func := "loop.example/g00254/laws.FnBloom", spec := "fnBloom", unfollowed := true, recurses := true, apart := false, narrowed := true }
def FnBloomUptoSaid : Prop := fnBloomUptoRow.holds Try.pinned (OpenSpec.upto fnBloomSpec)

/-- 'laws.FnFalse', WHERE WHAT IT READS IS OF BULK AT MOST 1048576: true; the input reads as it did. -/
def fnFalseUptoRow : OpenClaim := { program := "ythckgccfjpgbaaa", sum := "3579655af3e65b09763a832734aea77dc0237276f32ef0c6083672b18aee5d96", func := "loop.example/g00254/laws.FnFalse", spec := "fnFalse", apart := false, narrowed := true }
def FnFalseUptoSaid : Prop := fnFalseUptoRow.holds Try.pinned (OpenSpec.upto fnFalseSpec)

/-- 'laws.FnExactPrimeOK', WHERE WHAT IT READS IS OF BULK AT MOST 1048576: true; the input reads as it did. -/
def fnExactPrimeOKUptoRow : OpenClaim := { program := "ythckgccfjpgbaaa", sum := "3579655af3e65b09763a832734aea77dc0237276f32ef0c6083672b18aee5d96", func := "loop.example/g00254/laws.FnExactPrimeOK", spec := "fnExactPrimeOK", apart := false, narrowed := true }
def FnExactPrimeOKUptoSaid : Prop := fnExactPrimeOKUptoRow.holds Try.pinned (OpenSpec.upto fnExactPrimeOKSpec)

/-- 'laws.FnExactNewBloom', WHERE WHAT IT READS IS OF BULK AT MOST 1048576: true; the input reads as it did. -/
def fnExactNewBloomUptoRow : OpenClaim := { program := "ythckgccfjpgbaaa", sum := "3579655af3e65b09763a832734aea77dc0237276f32ef0c6083672b18aee5d96", func := "loop.example/g00254/laws.FnExactNewBloom", spec := "fnExactNewBloom", unfollowed := true, recurses := true, apart := false, narrowed := true }
def FnExactNewBloomUptoSaid : Prop := fnExactNewBloomUptoRow.holds Try.pinned (OpenSpec.upto fnExactNewBloomSpec)

/-- 'laws.FnExactBloomOK', WHERE WHAT IT READS IS OF BULK AT MOST 1048576: true; the input reads as it did. -/
def fnExactBloomOKUptoRow : OpenClaim := { program := "ythckgccfjpgbaaa", sum := "3579655af3e65b09763a832734aea77dc0237276f32ef0c6083672b18aee5d96", func := "loop.example/g00254/laws.FnExactBloomOK", spec := "fnExactBloomOK", unfollowed := true, recurses := true, apart := false, narrowed := true }
def FnExactBloomOKUptoSaid : Prop := fnExactBloomOKUptoRow.holds Try.pinned (OpenSpec.upto fnExactBloomOKSpec)

/-- 'laws.FnExactBloomPlace', WHERE WHAT IT READS IS OF BULK AT MOST 1048576: true; the input reads as it did. -/
def fnExactBloomPlaceUptoRow : OpenClaim := { program := "ythckgccfjpgbaaa", sum := "3579655af3e65b09763a832734aea77dc0237276f32ef0c6083672b18aee5d96", func := "loop.example/g00254/laws.FnExactBloomPlace", spec := "fnExactBloomPlace", unfollowed := true, recurses := true, apart := false, narrowed := true }
def FnExactBloomPlaceUptoSaid : Prop := fnExactBloomPlaceUptoRow.holds Try.pinned (OpenSpec.upto fnExactBloomPlaceSpec)

/-- 'laws.FnExactBloomAdd', WHERE WHAT IT READS IS OF BULK AT MOST 1048576: true; the input reads as it did. -/
def fnExactBloomAddUptoRow : OpenClaim := { program := "ythckgccfjpgbaaa", sum := "3579655af3e65b09763a832734aea77dc0237276f32ef0c6083672b18aee5d96", func := "loop.example/g00254/laws.FnExactBloomAdd", spec := "fnExactBloomAdd", unfollowed := true, recurses := true, apart := false, narrowed := true }
def FnExactBloomAddUptoSaid : Prop := fnExactBloomAddUptoRow.holds Try.pinned (OpenSpec.upto fnExactBloomAddSpec)

/-- 'laws.FnExactBloomHas', WHERE WHAT IT READS IS OF BULK AT MOST 1048576: true; the input reads as it did. -/
def fnExactBloomHasUptoRow : OpenClaim := { program := "ythckgccfjpgbaaa", sum := "3579655af3e65b09763a832734aea77dc0237276f32ef0c6083672b18aee5d96", func := "loop.example/g00254/laws.FnExactBloomHas", spec := "fnExactBloomHas", unfollowed := true, recurses := true, apart := false, narrowed := true }
def FnExactBloomHasUptoSaid : Prop := fnExactBloomHasUptoRow.holds Try.pinned (OpenSpec.upto fnExactBloomHasSpec)

/-- 'laws.FnExactBloomMerge', WHERE WHAT IT READS IS OF BULK AT MOST 1048576: true; the input reads as it did. -/
def fnExactBloomMergeUptoRow : OpenClaim := { program := "ythckgccfjpgbaaa", sum := "3579655af3e65b09763a832734aea77dc0237276f32ef0c6083672b18aee5d96", func := "loop.example/g00254/laws.FnExactBloomMerge", spec := "fnExactBloomMerge", unfollowed := true, recurses := true, apart := false, narrowed := true }
def FnExactBloomMergeUptoSaid : Prop := fnExactBloomMergeUptoRow.holds Try.pinned (OpenSpec.upto fnExactBloomMergeSpec)

/-- 'laws.FnExactFalseSalts', WHERE WHAT IT READS IS OF BULK AT MOST 1048576: true; the input reads as it did. -/
def fnExactFalseSaltsUptoRow : OpenClaim := { program := "ythckgccfjpgbaaa", sum := "3579655af3e65b09763a832734aea77dc0237276f32ef0c6083672b18aee5d96", func := "loop.example/g00254/laws.FnExactFalseSalts", spec := "fnExactFalseSalts", apart := false, narrowed := true }
def FnExactFalseSaltsUptoSaid : Prop := fnExactFalseSaltsUptoRow.holds Try.pinned (OpenSpec.upto fnExactFalseSaltsSpec)

end Rows
end Go.Proofs.Ythckgccfjpgbaaa
