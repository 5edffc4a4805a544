/- Contracts of FieldOf on both sides. -/
import Derived.Test.YtecphhfdleaklaaSpecC
import Derived.Test.YtecphhfdleaklaaImplC
namespace Go.Proofs.Ytecphhfdleaklaa
open Go.RowKit
set_option maxHeartbeats 800000
theorem l01In_any (n lo hi : Int) (w : World) : Calls Try.prog 84 #[.int .i64 n, .int .i64 lo, .int .i64 hi] w fun e w' => e = .returned (.bool (decide (lo ≤ n) && decide (n ≤ hi))) ∧ w' = w := by
  go_enter Try.func84, Try.ntmps84
  go_wp2
  all_goals
    go_ret
    exact ⟨ret_bool (by rw [Bool.eq_iff_iff]; simp; try omega), rfl⟩
theorem spec_of_in (n : Int) (h0 : 0 ≤ n) (h1 : n ≤ 1099511627776) (w : World) :
    Calls Try.prog 45 #[.int .i64 n] w fun e w' => e = .returned (.tuple #[.string (enc (n % pInt)), .int .i64 0]) ∧ Below w.heap.size w w' := by
  have hm := make10
  have d1 : decide (0 ≤ n) = true := by simpa using h0
  have d2 : decide (n ≤ 1099511627776) = true := by simpa using h1
  go_enter Try.func45, Try.ntmps45
  go_wp2_with fail
  refine (l01In_any _ _ _ _).mono ?_
  rintro e w1 ⟨rfl, rfl⟩
  go_wp2_with fail
  refine (store_any _ _ _ [] n 0 0 0 0 0 0 0 0 0 (by rw [heap_alloc_new]; rfl) (by unfold Near; omega)).mono ?_
  rintro e w2 ⟨rfl, hb⟩
  rw [show V10 n 0 0 0 0 0 0 0 0 0 = n from by unfold V10; omega]
  go_wp2
  go_ret2
  exact ⟨rfl, ((Below.refl _ _).alloc (Nat.le_refl _) _).trans (hb.mono (by simp))⟩
theorem spec_of_out (n : Int) (h : n < 0 ∨ 1099511627776 < n) (w : World) :
    Calls Try.prog 45 #[.int .i64 n] w fun e w' => e = .returned (.tuple #[.string ⟨#[]⟩, .int .i64 4]) ∧ Below w.heap.size w w' := by
  have hd : (decide (0 ≤ n) && decide (n ≤ 1099511627776)) = false := by
    rw [Bool.eq_false_iff]; simp; omega
  go_enter Try.func45, Try.ntmps45
  go_wp2_with fail
  refine (l01In_any _ _ _ _).mono ?_
  rintro e w1 ⟨rfl, rfl⟩
  rw [hd]
  go_wp2
  go_ret2
  exact ⟨rfl, Below.refl _ _⟩
theorem impl_of_in (n : Int) (h0 : 0 ≤ n) (h1 : n ≤ 1099511627776) (w : World) :
    Calls Try.prog 29 #[.int .i64 n] w fun e w' => e = .returned (.tuple #[.string (enc (n % pInt)), .int .i64 0]) ∧ Below w.heap.size w w' := by
  go_enter Try.func29, Try.ntmps29
  go_wp2_with fail
  refine (text_any n 0 0 0 0 _ (by unfold Car; omega)).mono ?_
  rintro e w2 ⟨rfl, hb⟩
  rw [show V5 n 0 0 0 0 = n from by unfold V5; omega]
  go_wp2
  go_ret2
  exact ⟨rfl, hb⟩
theorem impl_of_out (n : Int) (h : n < 0 ∨ 1099511627776 < n) (w : World) :
    Calls Try.prog 29 #[.int .i64 n] w fun e w' => e = .returned (.tuple #[.string ⟨#[]⟩, .int .i64 4]) ∧ w' = w := by
  rcases h with h | h <;> go_enter Try.func29, Try.ntmps29 <;> go_wp2 <;> go_ret2 <;> exact ⟨rfl, rfl⟩
theorem of_law (n : Int) (w : World) : Calls Try.prog 9 #[.int .i64 n] w fun e w' => e = .returned (.bool true) ∧ Below w.heap.size w w' := by
  by_cases h : 0 ≤ n ∧ n ≤ 1099511627776
  · go_enter Try.func9, Try.ntmps9
    go_wp2_with fail
    refine (spec_of_in n h.1 h.2 _).mono ?_
    rintro e w1 ⟨rfl, hb1⟩
    go_wp2_with fail
    refine (impl_of_in n h.1 h.2 _).mono ?_
    rintro e w2 ⟨rfl, hb2⟩
    go_wp2
    go_ret
    exact ⟨rfl, hb1.trans (hb2.mono hb1.size)⟩
  · have h' : n < 0 ∨ 1099511627776 < n := by omega
    clear h
    go_enter Try.func9, Try.ntmps9
    go_wp2_with fail
    refine (spec_of_out n h' _).mono ?_
    rintro e w1 ⟨rfl, hb1⟩
    go_wp2_with fail
    refine (impl_of_out n h' _).mono ?_
    rintro e w2 ⟨rfl, rfl⟩
    go_wp2
    go_ret
    exact ⟨rfl, hb1⟩
end Go.Proofs.Ytecphhfdleaklaa
