/- The contract of fieldCode at one text. -/
import Derived.Test.YtdhjjjoakcmknaaDoorRead
namespace Go.Proofs.YtdhjjjoakcmknaaDoor
open Go.RowKit
set_option maxHeartbeats 3200000
def code1 (a : ByteArray) : Int := if longB a then 2 else if okB a then 0 else 1
theorem code_one (a : ByteArray) (w : World) (k : Nat) (hc : w.cell? ⟨k, 0, none⟩ = some (.string a)) :
    Calls Tryd.prog 20 #[.slice (some ⟨k, 0, none⟩) 1 1] w fun e w' => e = .returned (.int .i64 (code1 a)) ∧ Below w.heap.size w w' := by
  cases hl : longB a with
  | true =>
    rw [show code1 a = 2 by simp [code1, hl]]
    go_enter Tryd.func20, Tryd.ntmps20
    go_wp2_with fail
    refine (long_one a _ _ hc).mono ?_
    rintro e w1 ⟨rfl, rfl⟩
    rw [hl]
    go_wp2
    go_ret
    exact ⟨rfl, Below.refl _ _⟩
  | false =>
    cases ha : okB a with
    | false =>
      rw [show code1 a = 1 by simp [code1, hl, ha]]
      go_enter Tryd.func20, Tryd.ntmps20
      go_wp2_with fail
      refine (long_one a _ _ hc).mono ?_
      rintro e w1 ⟨rfl, rfl⟩
      rw [hl]
      go_wp2
      refine wp_loop_rounds 2 ?_
      rw [rounds_succ]
      go_wp2_with fail
      refine (impl_ok a _).mono ?_
      rintro e w1 ⟨rfl, hb⟩
      rw [ha]
      go_wp2
      go_ret
      exact ⟨rfl, hb⟩
    | true =>
      rw [show code1 a = 0 by simp [code1, hl, ha]]
      go_enter Tryd.func20, Tryd.ntmps20
      go_wp2_with fail
      refine (long_one a _ _ hc).mono ?_
      rintro e w1 ⟨rfl, rfl⟩
      rw [hl]
      go_wp2
      refine wp_loop_rounds 2 ?_
      rw [rounds_succ]
      go_wp2_with fail
      refine (impl_ok a _).mono ?_
      rintro e w1 ⟨rfl, hb⟩
      rw [ha]
      go_wp2
      rw [rounds_succ]
      go_wp2
      go_ret
      exact ⟨rfl, hb⟩
end Go.Proofs.YtdhjjjoakcmknaaDoor
