/- AcceptedWords, both sides, and the law of it, walked. -/
import Derived.Test.YtaijjddannlieaaGen
namespace Go.Proofs.Ytaijjddannlieaa
open Go.RowKit
set_option maxHeartbeats 4000000
set_option maxRecDepth 20000
theorem bound15 (n : Int) (w : World) : Calls Try.prog 15 #[.int .i64 n] w fun e w' => e = .returned (.bool (decide (1 ≤ n) && decide (n ≤ 65536))) ∧ w' = w := by
  go_enter Try.func15, Try.ntmps15
  go_wp2
  all_goals
    go_ret
    exact ⟨ret_bool (by rw [Bool.eq_iff_iff]; simp; try omega), rfl⟩
def accR (n : Int) : Value := if 1 ≤ n ∧ n ≤ 65536 then .tuple #[.int .i64 (65536 / n), .int .i64 0] else .tuple #[.int .i64 0, .int .i64 4]
theorem acc9 (n : Int) (w : World) : Calls Try.prog 9 #[.int .i64 n] w fun e w' => e = .returned (accR n) ∧ w' = w := by
  have K := hide (fun W => in19 n 1 65536 W)
  unfold accR
  by_cases h : 1 ≤ n ∧ n ≤ 65536
  · rw [if_pos h]
    obtain ⟨h1, h2⟩ := h
    rw [show (decide (1 ≤ n) && decide (n ≤ 65536)) = true by simp [h1, h2]] at K
    have t : Int.tdiv 65536 n = 65536 / n := by rw [Int.tdiv_eq_ediv_of_nonneg (by omega)]
    have q0 : 0 ≤ 65536 / n := Int.ediv_nonneg (by omega) (by omega)
    have q1 : 65536 / n ≤ 65536 := Int.ediv_le_self _ (by omega)
    generalize 65536 / n = k at *
    go_enter Try.func9, Try.ntmps9
    go_wp2_with fail
    refine (unhide K _).mono ?_
    rintro e w' ⟨rfl, rfl⟩
    clear K
    go_wp2
    go_ret2
    exact ⟨rfl, rfl⟩
  · rw [if_neg h]
    rw [show (decide (1 ≤ n) && decide (n ≤ 65536)) = false by simp; omega] at K
    clear h
    go_enter Try.func9, Try.ntmps9
    go_wp2_with fail
    refine (unhide K _).mono ?_
    rintro e w' ⟨rfl, rfl⟩
    clear K
    go_wp2
    go_ret2
    exact ⟨rfl, rfl⟩
theorem acc10 (n : Int) (w : World) : Calls Try.prog 10 #[.int .i64 n] w fun e w' => e = .returned (accR n) ∧ w' = w := by
  have K := hide (fun W => bound15 n W)
  unfold accR
  by_cases h : 1 ≤ n ∧ n ≤ 65536
  · rw [if_pos h]
    obtain ⟨h1, h2⟩ := h
    rw [show (decide (1 ≤ n) && decide (n ≤ 65536)) = true by simp [h1, h2]] at K
    have t : Int.tdiv 65536 n = 65536 / n := by rw [Int.tdiv_eq_ediv_of_nonneg (by omega)]
    have q0 : 0 ≤ 65536 / n := Int.ediv_nonneg (by omega) (by omega)
    have q1 : 65536 / n ≤ 65536 := Int.ediv_le_self _ (by omega)
    generalize 65536 / n = k at *
    go_enter Try.func10, Try.ntmps10
    go_wp2_with fail
    refine (unhide K _).mono ?_
    rintro e w' ⟨rfl, rfl⟩
    clear K
    go_wp2
    go_ret2
    exact ⟨rfl, rfl⟩
  · rw [if_neg h]
    rw [show (decide (1 ≤ n) && decide (n ≤ 65536)) = false by simp; omega] at K
    clear h
    go_enter Try.func10, Try.ntmps10
    go_wp2_with fail
    refine (unhide K _).mono ?_
    rintro e w' ⟨rfl, rfl⟩
    clear K
    go_wp2
    go_ret2
    exact ⟨rfl, rfl⟩
theorem acc_two (n : Int) : ∃ a b : Int, accR n = .tuple #[.int .i64 a, .int .i64 b] := by
  unfold accR
  split <;> exact ⟨_, _, rfl⟩
theorem law_acc (n : Int) (w : World) : Calls Try.prog 4 #[.int .i64 n] w fun e w' => e = .returned (.bool true) ∧ Below w.heap.size w w' := by
  have HS := hide (fun W => acc9 n W)
  have HI := hide (fun W => acc10 n W)
  obtain ⟨a, b, e⟩ := acc_two n
  rw [e] at HS HI
  clear e
  go_enter Try.func4, Try.ntmps4
  go_wp2_with fail
  refine (unhide HS _).mono ?_
  rintro e w' ⟨rfl, rfl⟩
  go_wp2_with fail
  refine (unhide HI _).mono ?_
  rintro e w' ⟨rfl, rfl⟩
  clear HS HI
  go_wp2
  go_ret
  exact ⟨rfl, Below.refl _ _⟩
end Go.Proofs.Ytaijjddannlieaa
