/- The law FnDelivers, as its text asks for it. -/
import Derived.Test.YthonnlifgdnacaaLdl
namespace Go.Proofs.Ythonnlifgdnacaa
open Go.RowKit
theorem delivers_any (w : World) (A : Option Addr) (n cap : Nat) (hn : n ≤ maxLen) (hA : codeAt w A n) (B : Option Addr) (m cbp : Nat) (hm : m ≤ maxLen) (hB : codeAt w B m) :
    Calls Try.prog 4 #[.slice A n cap, .slice B m cbp] w fun e w' => e = .returned (.bool true) ∧ Below w.heap.size w w' :=
  law_delivers A B n cap m cbp w hn hm hA hB
end Go.Proofs.Ythonnlifgdnacaa
