/- The law FnTalk, as its text asks for it. -/
import Derived.Test.YthonnlifgdnacaaLtk
namespace Go.Proofs.Ythonnlifgdnacaa
open Go.RowKit
theorem talk_any (w : World) (A : Option Addr) (n cap : Nat) (hn : n ≤ maxLen) (hA : codeAt w A n) :
    Calls Try.prog 3 #[.slice A n cap] w fun e w' => e = .returned (.bool true) ∧ Below w.heap.size w w' :=
  law_talk A n cap w hn hA
end Go.Proofs.Ythonnlifgdnacaa
