/- The law of QuarterRound, walked. -/
import Derived.Test.YtcikpcehdfnhfaaTurn
namespace Go.Proofs.Ytcikpcehdfnhfaa
open Go.RowKit
set_option maxHeartbeats 4000000
theorem qr_law (a b c d : Int) (w : World) : Calls Try.prog 3 #[.int .i64 a, .int .i64 b, .int .i64 c, .int .i64 d] w fun e w' => e = .returned (.bool true) ∧ Below w.heap.size w w' := by
  have s := spec_QR a b c d w
  have i := impl_QR a b c d
  unfold QRV at s i
  generalize wi (gW (qr4 a b c d) 0) = x0 at *
  generalize wi (gW (qr4 a b c d) 1) = x1 at *
  generalize wi (gW (qr4 a b c d) 2) = x2 at *
  generalize wi (gW (qr4 a b c d) 3) = x3 at *
  have S := hide s
  have I := hide i
  clear s i
  go_enter Try.func3, Try.ntmps3
  go_wp2_with fail
  refine (unhide S).mono ?_
  rintro e w1 ⟨rfl, hb⟩
  go_wp2_with fail
  refine (unhide I w1).mono ?_
  rintro e w2 ⟨rfl, rfl⟩
  go_wp2
  go_ret
  exact ⟨rfl, hb⟩
end Go.Proofs.Ytcikpcehdfnhfaa
