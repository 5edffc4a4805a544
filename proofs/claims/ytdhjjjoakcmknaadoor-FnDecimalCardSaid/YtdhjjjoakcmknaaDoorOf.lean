/- Contracts of FieldOf on both sides. -/
import Derived.Test.YtdhjjjoakcmknaaDoorSpecC
import Derived.Test.YtdhjjjoakcmknaaDoorImplC
namespace Go.Proofs.YtdhjjjoakcmknaaDoor
open Go.RowKit
set_option maxHeartbeats 800000
theorem impl_of_in (n : Int) (h0 : 0 ≤ n) (h1 : n ≤ 1099511627776) (w : World) :
    Calls Tryd.prog 8 #[.int .i64 n] w fun e w' => e = .returned (.tuple #[.string (enc (n % pInt)), .int .i64 0]) ∧ Below w.heap.size w w' := by
  go_enter Tryd.func8, Tryd.ntmps8
  go_wp2_with fail
  refine (text_any n 0 0 0 0 _ (by unfold Car; omega)).mono ?_
  rintro e w2 ⟨rfl, hb⟩
  rw [show V5 n 0 0 0 0 = n from by unfold V5; omega]
  go_wp2
  go_ret2
  exact ⟨rfl, hb⟩
theorem impl_of_out (n : Int) (h : n < 0 ∨ 1099511627776 < n) (w : World) :
    Calls Tryd.prog 8 #[.int .i64 n] w fun e w' => e = .returned (.tuple #[.string ⟨#[]⟩, .int .i64 4]) ∧ w' = w := by
  rcases h with h | h <;> go_enter Tryd.func8, Tryd.ntmps8 <;> go_wp2 <;> go_ret2 <;> exact ⟨rfl, rfl⟩
end Go.Proofs.YtdhjjjoakcmknaaDoor
