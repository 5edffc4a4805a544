/- The law of StreamXor over an argument of bytes as it came in. -/
import Derived.Test.YtcikpcehdfnhfaaDoorArg
import Derived.Test.YtcikpcehdfnhfaaDoorSxLaw
namespace Go.Proofs.YtcikpcehdfnhfaaDoor
open Go.RowKit
theorem sx_law_at (key nonce : ByteArray) (c : Int) (A : Option Addr) (n cap : Nat) (w : World) (hc : codeAt w A n) (t : TypeId) (fr : Nat × Nat) (hq : w.heap[0]? = some (.cells qArr t fr)) :
    Calls Tryd.prog 5 #[.string key, .string nonce, .int .i64 c, .slice A n cap] w fun e w' => e = .returned (.bool true) ∧ Below w.heap.size w w' := by
  obtain ⟨xs, _, hb⟩ := bytes_of_code cap hc
  exact sx_law key nonce c xs _ w hb t fr hq
end Go.Proofs.YtcikpcehdfnhfaaDoor
