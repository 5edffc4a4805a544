/-
  No cell of these rows narrows 'for every input' (looked for: loops, veiled, ifaces, maps, wideKeys, modest, calm, conditions, laid).
  DERIVED. THE GIVEN ROWS OF THIS SEAT. 8 by the template 'for every input the law returns true; each argument reads behind the call as it read before'; 0 by the template 'total and deterministic' (their statements: YthonnlifgdnacaaTotals.lean).
  GIVEN WITH THE SEED: the statements are not yours to turn. If you find one false, say at which input.
  Laid BY PROGRAM, IN A SANDBOX (cutbox-rows.mjs): the forced cells as the released guide's own fill.sh prints them over the translation f9dded8259f5e217… (all of the seat's roots in one cut). By AI agents, Wed Nov 11 2026. No macro, syntax, notation, axiom, sorry.
-/
import Derived.Test.YthonnlifgdnacaaChecked
import GoSem.Claim
import GoSem.ClaimJoined
import GoSem.ClaimMapViews
import Derived.JoinedTies
import Derived.KernelRfl
namespace Go.Proofs.Ythonnlifgdnacaa
/- THE CELL 'sum', in the pinned program and in every row, IS THE sha256 OF THE DUMP (.gsa) THAT YthonnlifgdnacaaProg.lean LOADS. Nothing in Lean hashes anything: it is a label: what it is worth is what the hold of that sum in a sandbox is worth. -/
noncomputable def Try.pinned : Pinned := { name := "ythonnlifgdnacaa", sum := "f9dded8259f5e217cd248c2ca1b2df1aaefa53be8e41a6dc25b55d6b55db1d03", checked := Try.checked }
namespace Rows
def none {H : Type} : Left H := { results := [], args := [] }

/-- 'laws.FnTalk': WHATEVER THE INPUT: true; the input reads as it did. -/
def fnTalkSpec : ChangeSpec := { name := "fnTalk", fn := fun _ => fun
  | [d] => { results := [.lit (.bool true)], args := [d] }
  | _ => none }
def fnTalkRow : OpenClaim := { program := "ythonnlifgdnacaa", sum := "f9dded8259f5e217cd248c2ca1b2df1aaefa53be8e41a6dc25b55d6b55db1d03", func := "loop.example/g00254/laws.FnTalk", spec := "fnTalk", unfollowed := true, recurses := true, plainKeys := false, apart := false }
def FnTalkSaid : Prop := fnTalkRow.holds Try.pinned (OpenSpec.ofChange fnTalkSpec)

/-- ITS FALSE NEIGHBOUR: 'it returns false'. Refute it at one input. -/
def fnTalkWrong : ChangeSpec := { name := "fnTalk", fn := fun _ => fun
  | [d] => { results := [.lit (.bool false)], args := [d] }
  | _ => none }
def FnTalkWrongFalsely : Prop := fnTalkRow.holds Try.pinned (OpenSpec.ofChange fnTalkWrong)

/-- 'laws.FnDelivers': WHATEVER THE INPUT: true; the input reads as it did. -/
def fnDeliversSpec : ChangeSpec := { name := "fnDelivers", fn := fun _ => fun
  | [d1, d2] => { results := [.lit (.bool true)], args := [d1, d2] }
  | _ => none }
def fnDeliversRow : OpenClaim := { program := "ythonnlifgdnacaa", sum := "f9dded8259f5e217cd248c2ca1b2df1aaefa53be8e41a6dc25b55d6b55db1d03", func := "loop.example/g00254/laws.FnDelivers", spec := "fnDelivers", unfollowed := true, recurses := true, plainKeys := false, apart := false }
def FnDeliversSaid : Prop := fnDeliversRow.holds Try.pinned (OpenSpec.ofChange fnDeliversSpec)

/-- ITS FALSE NEIGHBOUR: 'it returns false'. Refute it at one input. -/
def fnDeliversWrong : ChangeSpec := { name := "fnDelivers", fn := fun _ => fun
  | [d1, d2] => { results := [.lit (.bool false)], args := [d1, d2] }
  | _ => none }
def FnDeliversWrongFalsely : Prop := fnDeliversRow.holds Try.pinned (OpenSpec.ofChange fnDeliversWrong)

/-- 'laws.FnPeers': WHATEVER THE INPUT: true; the input reads as it did. -/
def fnPeersSpec : ChangeSpec := { name := "fnPeers", fn := fun _ => fun
  | [d1, d2] => { results := [.lit (.bool true)], args := [d1, d2] }
  | _ => none }
def fnPeersRow : OpenClaim := { program := "ythonnlifgdnacaa", sum := "f9dded8259f5e217cd248c2ca1b2df1aaefa53be8e41a6dc25b55d6b55db1d03", func := "loop.example/g00254/laws.FnPeers", spec := "fnPeers", unfollowed := true, recurses := true, plainKeys := false, apart := false }
def FnPeersSaid : Prop := fnPeersRow.holds Try.pinned (OpenSpec.ofChange fnPeersSpec)

/-- ITS FALSE NEIGHBOUR: 'it returns false'. Refute it at one input. -/
def fnPeersWrong : ChangeSpec := { name := "fnPeers", fn := fun _ => fun
  | [d1, d2] => { results := [.lit (.bool false)], args := [d1, d2] }
  | _ => none }
def FnPeersWrongFalsely : Prop := fnPeersRow.holds Try.pinned (OpenSpec.ofChange fnPeersWrong)

/-- 'laws.FnExactPeerOK': WHATEVER THE INPUT: true; the input reads as it did. -/
def fnExactPeerOKSpec : ChangeSpec := { name := "fnExactPeerOK", fn := fun _ => fun
  | [d] => { results := [.lit (.bool true)], args := [d] }
  | _ => none }
def fnExactPeerOKRow : OpenClaim := { program := "ythonnlifgdnacaa", sum := "f9dded8259f5e217cd248c2ca1b2df1aaefa53be8e41a6dc25b55d6b55db1d03", func := "loop.example/g00254/laws.FnExactPeerOK", spec := "fnExactPeerOK", unfollowed := true, recurses := true, plainKeys := false, apart := false }
def FnExactPeerOKSaid : Prop := fnExactPeerOKRow.holds Try.pinned (OpenSpec.ofChange fnExactPeerOKSpec)

/-- ITS FALSE NEIGHBOUR: 'it returns false'. Refute it at one input. -/
def fnExactPeerOKWrong : ChangeSpec := { name := "fnExactPeerOK", fn := fun _ => fun
  | [d] => { results := [.lit (.bool false)], args := [d] }
  | _ => none }
def FnExactPeerOKWrongFalsely : Prop := fnExactPeerOKRow.holds Try.pinned (OpenSpec.ofChange fnExactPeerOKWrong)

/-- 'laws.FnExactPeerSay': WHATEVER THE INPUT: true; the input reads as it did. -/
def fnExactPeerSaySpec : ChangeSpec := { name := "fnExactPeerSay", fn := fun _ => fun
  | [d1, d2] => { results := [.lit (.bool true)], args := [d1, d2] }
  | _ => none }
def fnExactPeerSayRow : OpenClaim := { program := "ythonnlifgdnacaa", sum := "f9dded8259f5e217cd248c2ca1b2df1aaefa53be8e41a6dc25b55d6b55db1d03", func := "loop.example/g00254/laws.FnExactPeerSay", spec := "fnExactPeerSay", unfollowed := true, recurses := true, plainKeys := false, apart := false }
def FnExactPeerSaySaid : Prop := fnExactPeerSayRow.holds Try.pinned (OpenSpec.ofChange fnExactPeerSaySpec)

/-- ITS FALSE NEIGHBOUR: 'it returns false'. Refute it at one input. -/
def fnExactPeerSayWrong : ChangeSpec := { name := "fnExactPeerSay", fn := fun _ => fun
  | [d1, d2] => { results := [.lit (.bool false)], args := [d1, d2] }
  | _ => none }
def FnExactPeerSayWrongFalsely : Prop := fnExactPeerSayRow.holds Try.pinned (OpenSpec.ofChange fnExactPeerSayWrong)

/-- 'laws.FnExactPeerOut': WHATEVER THE INPUT: true; the input reads as it did. -/
def fnExactPeerOutSpec : ChangeSpec := { name := "fnExactPeerOut", fn := fun _ => fun
  | [d] => { results := [.lit (.bool true)], args := [d] }
  | _ => none }
def fnExactPeerOutRow : OpenClaim := { program := "ythonnlifgdnacaa", sum := "f9dded8259f5e217cd248c2ca1b2df1aaefa53be8e41a6dc25b55d6b55db1d03", func := "loop.example/g00254/laws.FnExactPeerOut", spec := "fnExactPeerOut", unfollowed := true, recurses := true, plainKeys := false, apart := false }
def FnExactPeerOutSaid : Prop := fnExactPeerOutRow.holds Try.pinned (OpenSpec.ofChange fnExactPeerOutSpec)

/-- ITS FALSE NEIGHBOUR: 'it returns false'. Refute it at one input. -/
def fnExactPeerOutWrong : ChangeSpec := { name := "fnExactPeerOut", fn := fun _ => fun
  | [d] => { results := [.lit (.bool false)], args := [d] }
  | _ => none }
def FnExactPeerOutWrongFalsely : Prop := fnExactPeerOutRow.holds Try.pinned (OpenSpec.ofChange fnExactPeerOutWrong)

/-- 'laws.FnExactPeerIn': WHATEVER THE INPUT: true; the input reads as it did. -/
def fnExactPeerInSpec : ChangeSpec := { name := "fnExactPeerIn", fn := fun _ => fun
  | [d1, d2] => { results := [.lit (.bool true)], args := [d1, d2] }
  | _ => none }
def fnExactPeerInRow : OpenClaim := { program := "ythonnlifgdnacaa", sum := "f9dded8259f5e217cd248c2ca1b2df1aaefa53be8e41a6dc25b55d6b55db1d03", func := "loop.example/g00254/laws.FnExactPeerIn", spec := "fnExactPeerIn", unfollowed := true, recurses := true, plainKeys := false, apart := false }
def FnExactPeerInSaid : Prop := fnExactPeerInRow.holds Try.pinned (OpenSpec.ofChange fnExactPeerInSpec)

/-- ITS FALSE NEIGHBOUR: 'it returns false'. Refute it at one input. -/
def fnExactPeerInWrong : ChangeSpec := { name := "fnExactPeerIn", fn := fun _ => fun
  | [d1, d2] => { results := [.lit (.bool false)], args := [d1, d2] }
  | _ => none }
def FnExactPeerInWrongFalsely : Prop := fnExactPeerInRow.holds Try.pinned (OpenSpec.ofChange fnExactPeerInWrong)

/-- 'laws.FnExactTalkRun': WHATEVER THE INPUT: true; the input reads as it did. -/
def fnExactTalkRunSpec : ChangeSpec := { name := "fnExactTalkRun", fn := fun _ => fun
  | [d] => { results := [.lit (.bool true)], args := [d] }
  | _ => none }
def fnExactTalkRunRow : OpenClaim := { program := "ythonnlifgdnacaa", sum := "f9dded8259f5e217cd248c2ca1b2df1aaefa53be8e41a6dc25b55d6b55db1d03", func := "loop.example/g00254/laws.FnExactTalkRun", spec := "fnExactTalkRun", unfollowed := true, recurses := true, plainKeys := false, apart := false }
def FnExactTalkRunSaid : Prop := fnExactTalkRunRow.holds Try.pinned (OpenSpec.ofChange fnExactTalkRunSpec)

/-- ITS FALSE NEIGHBOUR: 'it returns false'. Refute it at one input. -/
def fnExactTalkRunWrong : ChangeSpec := { name := "fnExactTalkRun", fn := fun _ => fun
  | [d] => { results := [.lit (.bool false)], args := [d] }
  | _ => none }
def FnExactTalkRunWrongFalsely : Prop := fnExactTalkRunRow.holds Try.pinned (OpenSpec.ofChange fnExactTalkRunWrong)

/- THE SECOND FORM. 'bulk': how many values and letters a reading holds, each counted each time it is reached (what is shared counts as often as it is met; a slice's spare places count too). A statement '..UptoSaid' is the law's where the arguments, and the package variables that the reading takes, are together of bulk at most 1048576: NARROWER than '..Said'. Prove '..Said' where nothing that the law and all that it calls make is longer than what came in: it says more and counts as full. Else prove '..UptoSaid'. A law counts once. -/
mutual
def uptoBulk {H : Type} : DataW H → Nat
  | .lit (.string bytes) => bytes.length + 1
  | .lit _ => 1
  | .nil => 1
  | .ptr d => uptoBulk d + 1
  | .slice elems spare => uptoBulkAll elems + uptoBulkAll spare + 1
  | .agg parts => uptoBulkAll parts + 1
  | .iface _ d => uptoBulk d + 1
  | .map entries => uptoBulkEntries entries + 1
  | .held _ => 1
def uptoBulkAll {H : Type} : List (DataW H) → Nat
  | [] => 0
  | d :: r => uptoBulk d + uptoBulkAll r
def uptoBulkEntries {H : Type} : List (Lit × DataW H) → Nat
  | [] => 0
  | x :: r => uptoBulkEntry x + uptoBulkEntries r
def uptoBulkEntry {H : Type} : Lit × DataW H → Nat
  | (.string bytes, d) => bytes.length + uptoBulk d + 1
  | (_, d) => uptoBulk d + 1
 end
def uptoSmall : (H : Type) → List (DataW H) → Bool := fun _ ds => decide (uptoBulkAll ds ≤ 1048576)
def OpenSpec.upto (s : _root_.Go.ChangeSpec) : _root_.Go.OpenSpec := { _root_.Go.OpenSpec.ofChange s with cond := some uptoSmall }

/-- 'laws.FnTalk', WHERE WHAT IT READS IS OF BULK AT MOST 1048576: true; the input reads as it did. -/
def fnTalkUptoRow : OpenClaim := { program := "ythonnlifgdnacaa", sum := "f9dded8259f5e217cd248c2ca1b2df1aaefa53be8e41a6dc25b55d6b55db1d03", func := "loop.example/g00254/laws.FnTalk", spec := "fnTalk", unfollowed := true, recurses := true, plainKeys := false, apart := false, narrowed := true }
def FnTalkUptoSaid : Prop := fnTalkUptoRow.holds Try.pinned (OpenSpec.upto fnTalkSpec)

/-- 'laws.FnDelivers', WHERE WHAT IT READS IS OF BULK AT MOST 1048576: true; the input reads as it did. -/
def fnDeliversUptoRow : OpenClaim := { program := "ythonnlifgdnacaa", sum := "f9dded8259f5e217cd248c2ca1b2df1aaefa53be8e41a6dc25b55d6b55db1d03", func := "loop.example/g00254/laws.FnDelivers", spec := "fnDelivers", unfollowed := true, recurses := true, plainKeys := false, apart := false, narrowed := true }
def FnDeliversUptoSaid : Prop := fnDeliversUptoRow.holds Try.pinned (OpenSpec.upto fnDeliversSpec)

/-- 'laws.FnPeers', WHERE WHAT IT READS IS OF BULK AT MOST 1048576: true; the input reads as it did. -/
def fnPeersUptoRow : OpenClaim := { program := "ythonnlifgdnacaa", sum := "f9dded8259f5e217cd248c2ca1b2df1aaefa53be8e41a6dc25b55d6b55db1d03", func := "loop.example/g00254/laws.FnPeers", spec := "fnPeers", unfollowed := true, recurses := true, plainKeys := false, apart := false, narrowed := true }
def FnPeersUptoSaid : Prop := fnPeersUptoRow.holds Try.pinned (OpenSpec.upto fnPeersSpec)

/-- 'laws.FnExactPeerOK', WHERE WHAT IT READS IS OF BULK AT MOST 1048576: true; the input reads as it did. -/
def fnExactPeerOKUptoRow : OpenClaim := { program := "ythonnlifgdnacaa", sum := "f9dded8259f5e217cd248c2ca1b2df1aaefa53be8e41a6dc25b55d6b55db1d03", func := "loop.example/g00254/laws.FnExactPeerOK", spec := "fnExactPeerOK", unfollowed := true, recurses := true, plainKeys := false, apart := false, narrowed := true }
def FnExactPeerOKUptoSaid : Prop := fnExactPeerOKUptoRow.holds Try.pinned (OpenSpec.upto fnExactPeerOKSpec)

/-- 'laws.FnExactPeerSay', WHERE WHAT IT READS IS OF BULK AT MOST 1048576: true; the input reads as it did. -/
def fnExactPeerSayUptoRow : OpenClaim := { program := "ythonnlifgdnacaa", sum := "f9dded8259f5e217cd248c2ca1b2df1aaefa53be8e41a6dc25b55d6b55db1d03", func := "loop.example/g00254/laws.FnExactPeerSay", spec := "fnExactPeerSay", unfollowed := true, recurses := true, plainKeys := false, apart := false, narrowed := true }
def FnExactPeerSayUptoSaid : Prop := fnExactPeerSayUptoRow.holds Try.pinned (OpenSpec.upto fnExactPeerSaySpec)

/-- 'laws.FnExactPeerOut', WHERE WHAT IT READS IS OF BULK AT MOST 1048576: true; the input reads as it did. -/
def fnExactPeerOutUptoRow : OpenClaim := { program := "ythonnlifgdnacaa", sum := "f9dded8259f5e217cd248c2ca1b2df1aaefa53be8e41a6dc25b55d6b55db1d03", func := "loop.example/g00254/laws.FnExactPeerOut", spec := "fnExactPeerOut", unfollowed := true, recurses := true, plainKeys := false, apart := false, narrowed := true }
def FnExactPeerOutUptoSaid : Prop := fnExactPeerOutUptoRow.holds Try.pinned (OpenSpec.upto fnExactPeerOutSpec)

/-- 'laws.FnExactPeerIn', WHERE WHAT IT READS IS OF BULK AT MOST 1048576: true; the input reads as it did. -/
def fnExactPeerInUptoRow : OpenClaim := { program := "ythonnlifgdnacaa", sum := "f9dded8259f5e217cd248c2ca1b2df1aaefa53be8e41a6dc25b55d6b55db1d03", func := "loop.example/g00254/laws.FnExactPeerIn", spec := "fnExactPeerIn", unfollowed := true, recurses := true, plainKeys := false, apart := false, narrowed := true }
def FnExactPeerInUptoSaid : Prop := fnExactPeerInUptoRow.holds Try.pinned (OpenSpec.upto fnExactPeerInSpec)

/-- 'laws.FnExactTalkRun', WHERE WHAT IT READS IS OF BULK AT MOST 1048576: true; the input reads as it did. -/
def fnExactTalkRunUptoRow : OpenClaim := { program := "ythonnlifgdnacaa", sum := "f9dded8259f5e217cd248c2ca1b2df1aaefa53be8e41a6dc25b55d6b55db1d03", func := "loop.example/g00254/laws.FnExactTalkRun", spec := "fnExactTalkRun", unfollowed := true, recurses := true, plainKeys := false, apart := false, narrowed := true }
def FnExactTalkRunUptoSaid : Prop := fnExactTalkRunUptoRow.holds Try.pinned (OpenSpec.upto fnExactTalkRunSpec)

end Rows
end Go.Proofs.Ythonnlifgdnacaa
