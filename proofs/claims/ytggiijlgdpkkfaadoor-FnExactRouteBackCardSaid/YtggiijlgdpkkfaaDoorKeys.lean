/- The looks at the sizes of keys, nonces and texts, on both sides. -/
import Derived.Test.YtggiijlgdpkkfaaDoorWords
namespace Go.Proofs.YtggiijlgdpkkfaaDoor
open Go.RowKit
set_option maxHeartbeats 4000000
set_option maxRecDepth 20000
def longB (s : ByteArray) : Bool := decide (65536 < s.size)
theorem long_t {s : ByteArray} (h : 65536 < s.size) : longB s = true := by simp [longB, h]
theorem long_f {s : ByteArray} (h : ¬ 65536 < s.size) : longB s = false := by simp [longB]; omega
def scode (key nonce : ByteArray) (lb : Bool) : Int := if 65536 < key.size ∨ 65536 < nonce.size ∨ lb = true then 2 else if key.size ≠ 32 ∨ nonce.size ≠ 12 then 1 else 0
theorem ret_i {a b : Int} (h : a = b) : Ending.returned (.int .i64 a) = .returned (.int .i64 b) := by rw [h]
theorem ret_bool {a b : Bool} (h : a = b) : Ending.returned (.bool a) = .returned (.bool b) := by rw [h]
end Go.Proofs.YtggiijlgdpkkfaaDoor
