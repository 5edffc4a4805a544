/-
  No cell of these rows narrows 'for every input' (looked for: loops, veiled, ifaces, maps, wideKeys, modest, calm, conditions, laid).
  DERIVED. THE GIVEN ROWS OF THIS SEAT. 3 by the template 'for every input the law returns true; each argument reads behind the call as it read before'; 0 by the template 'total and deterministic' (their statements: YtecgfkfifocbaaaTotals.lean).
  GIVEN WITH THE SEED: the statements are not yours to turn. If you find one false, say at which input.
  Laid BY PROGRAM, IN A SANDBOX (cutbox-rows.mjs): the forced cells as the released guide's own fill.sh prints them over the translation 20e125f4f9025b1d… (all of the seat's roots in one cut). By AI agents, Wed Nov 11 2026. No macro, syntax, notation, axiom, sorry.
-/
import Derived.Test.YtecgfkfifocbaaaChecked
import GoSem.Claim
import GoSem.ClaimJoined
import GoSem.ClaimMapViews
import Derived.JoinedTies
import Derived.KernelRfl
namespace Go.Proofs.Ytecgfkfifocbaaa
/- THE CELL 'sum', in the pinned program and in every row, IS THE sha256 OF THE DUMP (.gsa) THAT YtecgfkfifocbaaaProg.lean LOADS. Nothing in Lean hashes anything: it is a label: what it is worth is what the hold of that sum in a sandbox is worth. -/
noncomputable def Try.pinned : Pinned := { name := "ytecgfkfifocbaaa", sum := "20e125f4f9025b1d7e8898a8ca35b6da9002e7703bcdaf69d889f72b9733799d", checked := Try.checked }
namespace Rows
def none {H : Type} : Left H := { results := [], args := [] }

/-- 'laws.FnExactFindForm': WHATEVER THE INPUT: true; the input reads as it did. -/
def fnExactFindFormSpec : ChangeSpec := { name := "fnExactFindForm", fn := fun _ => fun
  | [d1, d2] => { results := [.lit (.bool true)], args := [d1, d2] }
  | _ => none }
def fnExactFindFormRow : OpenClaim := { program := "ytecgfkfifocbaaa", sum := "20e125f4f9025b1d7e8898a8ca35b6da9002e7703bcdaf69d889f72b9733799d", func := "loop.example/g00254/laws.FnExactFindForm", spec := "fnExactFindForm", unfollowed := true, recurses := true, apart := false }
def FnExactFindFormSaid : Prop := fnExactFindFormRow.holds Try.pinned (OpenSpec.ofChange fnExactFindFormSpec)

/-- ITS FALSE NEIGHBOUR: 'it returns false'. Refute it at one input. -/
def fnExactFindFormWrong : ChangeSpec := { name := "fnExactFindForm", fn := fun _ => fun
  | [d1, d2] => { results := [.lit (.bool false)], args := [d1, d2] }
  | _ => none }
def FnExactFindFormWrongFalsely : Prop := fnExactFindFormRow.holds Try.pinned (OpenSpec.ofChange fnExactFindFormWrong)

/-- 'laws.FnExactBlameHop': WHATEVER THE INPUT: true; the input reads as it did. -/
def fnExactBlameHopSpec : ChangeSpec := { name := "fnExactBlameHop", fn := fun _ => fun
  | [d1, d2] => { results := [.lit (.bool true)], args := [d1, d2] }
  | _ => none }
def fnExactBlameHopRow : OpenClaim := { program := "ytecgfkfifocbaaa", sum := "20e125f4f9025b1d7e8898a8ca35b6da9002e7703bcdaf69d889f72b9733799d", func := "loop.example/g00254/laws.FnExactBlameHop", spec := "fnExactBlameHop", unfollowed := true, recurses := true, apart := false }
def FnExactBlameHopSaid : Prop := fnExactBlameHopRow.holds Try.pinned (OpenSpec.ofChange fnExactBlameHopSpec)

/-- ITS FALSE NEIGHBOUR: 'it returns false'. Refute it at one input. -/
def fnExactBlameHopWrong : ChangeSpec := { name := "fnExactBlameHop", fn := fun _ => fun
  | [d1, d2] => { results := [.lit (.bool false)], args := [d1, d2] }
  | _ => none }
def FnExactBlameHopWrongFalsely : Prop := fnExactBlameHopRow.holds Try.pinned (OpenSpec.ofChange fnExactBlameHopWrong)

/-- 'laws.FnBlame': WHATEVER THE INPUT: true; the input reads as it did. -/
def fnBlameSpec : ChangeSpec := { name := "fnBlame", fn := fun _ => fun
  | [d1, d2] => { results := [.lit (.bool true)], args := [d1, d2] }
  | _ => none }
def fnBlameRow : OpenClaim := { program := "ytecgfkfifocbaaa", sum := "20e125f4f9025b1d7e8898a8ca35b6da9002e7703bcdaf69d889f72b9733799d", func := "loop.example/g00254/laws.FnBlame", spec := "fnBlame", unfollowed := true, recurses := true, apart := false }
def FnBlameSaid : Prop := fnBlameRow.holds Try.pinned (OpenSpec.ofChange fnBlameSpec)

/-- ITS FALSE NEIGHBOUR: 'it returns false'. Refute it at one input. -/
def fnBlameWrong : ChangeSpec := { name := "fnBlame", fn := fun _ => fun
  | [d1, d2] => { results := [.lit (.bool false)], args := [d1, d2] }
  | _ => none }
def FnBlameWrongFalsely : Prop := fnBlameRow.holds Try.pinned (OpenSpec.ofChange fnBlameWrong)

/- THE SECOND FORM. 'bulk': how many values and letters a reading holds, each counted each time it is reached (what is shared counts as often as it is met; a slice's spare places count too). A statement '..UptoSaid' is the law's where the arguments, and the package variables that the reading takes, are together of bulk at most 1048576: NARROWER than '..Said'. Prove '..Said' where nothing that the law and all that it calls make is longer than what came in: it says more and counts as full. Else prove '..UptoSaid'. A law counts once. -/
mutual
def uptoBulk {H : Type} : DataW H → Nat
  | .lit (.string bytes) => bytes.length + 1
  | .lit _ => 1
  | .nil => 1
  | .ptr d => uptoBulk d + 1
  | .slice elems spare => uptoBulkAll elems + uptoBulkAll spare + 1
  | .agg parts => uptoBulkAll parts + 1
  | .iface _ d => uptoBulk d + 1
  | .map entries => uptoBulkEntries entries + 1
  | .held _ => 1
def uptoBulkAll {H : Type} : List (DataW H) → Nat
  | [] => 0
  | d :: r => uptoBulk d + uptoBulkAll r
def uptoBulkEntries {H : Type} : List (Lit × DataW H) → Nat
  | [] => 0
  | x :: r => uptoBulkEntry x + uptoBulkEntries r
def uptoBulkEntry {H : Type} : Lit × DataW H → Nat
  | (.string bytes, d) => bytes.length + uptoBulk d + 1
  | (_, d) => uptoBulk d + 1
 end
def uptoSmall : (H : Type) → List (DataW H) → Bool := fun _ ds => decide (uptoBulkAll ds ≤ 1048576)
def OpenSpec.upto (s : _root_.Go.ChangeSpec) : _root_.Go.OpenSpec := { _root_.Go.OpenSpec.ofChange s with cond := some uptoSmall }

/-- 'laws.FnExactFindForm', WHERE WHAT IT READS IS OF BULK AT MOST 1048576: true; the input reads as it did. -/
def fnExactFindFormUptoRow : OpenClaim := { program := "ytecgfkfifocbaaa", sum := "20e125f4f9025b1d7e8898a8ca35b6da9002e7703bcdaf69d889f72b9733799d", func := "loop.example/g00254/laws.FnExactFindForm", spec := "fnExactFindForm", unfollowed := true, recurses := true, apart := false, narrowed := true }
def FnExactFindFormUptoSaid : Prop := fnExactFindFormUptoRow.holds Try.pinned (OpenSpec.upto fnExactFindFormSpec)

/-- 'laws.FnExactBlameHop', WHERE WHAT IT READS IS OF BULK AT MOST 1048576: true; the input reads as it did. -/
def fnExactBlameHopUptoRow : OpenClaim := { program := "ytecgfkfifocbaaa", sum := "20e125f4f9025b1d7e8898a8ca35b6da9002e7703bcdaf69d889f72b9733799d", func := "loop.example/g00254/laws.FnExactBlameHop", spec := "fnExactBlameHop", unfollowed := true, recurses := true, apart := false, narrowed := true }
def FnExactBlameHopUptoSaid : Prop := fnExactBlameHopUptoRow.holds Try.pinned (OpenSpec.upto fnExactBlameHopSpec)

/-- 'laws.FnBlame', WHERE WHAT IT READS IS OF BULK AT MOST 1048576: true; the input reads as it did. -/
def fnBlameUptoRow : OpenClaim := { program := "ytecgfkfifocbaaa", sum := "20e125f4f9025b1d7e8898a8ca35b6da9002e7703bcdaf69d889f72b9733799d", func := "loop.example/g00254/laws.FnBlame", spec := "fnBlame", unfollowed := true, recurses := true, apart := false, narrowed := true }
def FnBlameUptoSaid : Prop := fnBlameUptoRow.holds Try.pinned (OpenSpec.upto fnBlameSpec)

end Rows
end Go.Proofs.Ytecgfkfifocbaaa
