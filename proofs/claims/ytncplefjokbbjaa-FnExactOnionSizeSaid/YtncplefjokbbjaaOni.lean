/- OnionSize, both sides, and the law of it, walked. -/
import Derived.Test.YtncplefjokbbjaaProg
import Derived.Test.YtncplefjokbbjaaPlain
import Derived.Handy
namespace Go.Proofs.Ytncplefjokbbjaa
open Go.RowKit
set_option maxHeartbeats 4000000
set_option maxRecDepth 20000
theorem oni_ret {a b : Bool} (h : a = b) : Ending.returned (.bool a) = .returned (.bool b) := by rw [h]
theorem oni_in (n lo hi : Int) (w : World) : Calls Try.prog 19 #[.int .i64 n, .int .i64 lo, .int .i64 hi] w fun e w' => e = .returned (.bool (decide (lo ≤ n) && decide (n ≤ hi))) ∧ w' = w := by
  go_enter Try.func19, Try.ntmps19
  go_wp2
  all_goals
    go_ret
    exact ⟨oni_ret (by rw [Bool.eq_iff_iff]; simp; try omega), rfl⟩
def oniR (l n : Int) : Value := if (0 ≤ l ∧ l ≤ 4) ∧ 0 ≤ n ∧ n ≤ 400 then .tuple #[.int .i64 (n + l * 48), .int .i64 0] else .tuple #[.int .i64 0, .int .i64 4]
theorem oni_spec (l n : Int) (w : World) : Calls Try.prog 8 #[.int .i64 l, .int .i64 n] w fun e w' => e = .returned (oniR l n) ∧ w' = w := by
  unfold oniR
  by_cases h : 0 ≤ l ∧ l ≤ 4
  · have b1 : (decide (0 ≤ l) && decide (l ≤ 4)) = true := by simp [h]
    by_cases h' : 0 ≤ n ∧ n ≤ 400
    · have b2 : (decide (0 ≤ n) && decide (n ≤ 400)) = true := by simp [h']
      rw [if_pos ⟨h, h'⟩]
      obtain ⟨p1, p2⟩ := h
      obtain ⟨p3, p4⟩ := h'
      go_enter Try.func8, Try.ntmps8
      go_wp2_with fail
      refine (oni_in l 0 4 _).mono ?_
      rintro e w' ⟨rfl, rfl⟩
      rw [b1]
      go_wp2_with fail
      refine (oni_in n 0 400 _).mono ?_
      rintro e w' ⟨rfl, rfl⟩
      rw [b2]
      go_wp2
      go_ret2
      exact ⟨rfl, rfl⟩
    · have b2 : (decide (0 ≤ n) && decide (n ≤ 400)) = false := by simp; omega
      rw [if_neg (fun q => h' q.2)]
      clear h' h
      go_enter Try.func8, Try.ntmps8
      go_wp2_with fail
      refine (oni_in l 0 4 _).mono ?_
      rintro e w' ⟨rfl, rfl⟩
      rw [b1]
      go_wp2_with fail
      refine (oni_in n 0 400 _).mono ?_
      rintro e w' ⟨rfl, rfl⟩
      rw [b2]
      go_wp2
      go_ret2
      exact ⟨rfl, rfl⟩
  · have b1 : (decide (0 ≤ l) && decide (l ≤ 4)) = false := by simp; omega
    rw [if_neg (fun q => h q.1)]
    clear h
    go_enter Try.func8, Try.ntmps8
    go_wp2_with fail
    refine (oni_in l 0 4 _).mono ?_
    rintro e w' ⟨rfl, rfl⟩
    rw [b1]
    go_wp2
    go_ret2
    exact ⟨rfl, rfl⟩
theorem oni_impl (l n : Int) (w : World) : Calls Try.prog 9 #[.int .i64 l, .int .i64 n] w fun e w' => e = .returned (oniR l n) ∧ w' = w := by
  unfold oniR
  by_cases h : (0 ≤ l ∧ l ≤ 4) ∧ 0 ≤ n ∧ n ≤ 400
  · rw [if_pos h]
    obtain ⟨⟨p1, p2⟩, p3, p4⟩ := h
    go_enter Try.func9, Try.ntmps9
    go_wp2
    go_ret2
    exact ⟨rfl, rfl⟩
  · rw [if_neg h]
    by_cases h1 : l < 0
    · clear h
      go_enter Try.func9, Try.ntmps9
      go_wp2
      go_ret2
      exact ⟨rfl, rfl⟩
    · by_cases h2 : 4 < l
      · have h1' : 0 ≤ l := by omega
        clear h h1
        go_enter Try.func9, Try.ntmps9
        go_wp2
        go_ret2
        exact ⟨rfl, rfl⟩
      · have h1' : 0 ≤ l := by omega
        have h2' : l ≤ 4 := by omega
        by_cases h3 : n < 0
        · clear h h1 h2
          go_enter Try.func9, Try.ntmps9
          go_wp2
          go_ret2
          exact ⟨rfl, rfl⟩
        · have h3' : 0 ≤ n := by omega
          have h4 : 400 < n := by omega
          clear h h1 h2 h3
          go_enter Try.func9, Try.ntmps9
          go_wp2
          go_ret2
          exact ⟨rfl, rfl⟩
theorem oni_two (l n : Int) : ∃ a b : Int, oniR l n = .tuple #[.int .i64 a, .int .i64 b] := by
  unfold oniR
  split <;> exact ⟨_, _, rfl⟩
theorem law_oni (l n : Int) (w : World) : Calls Try.prog 3 #[.int .i64 l, .int .i64 n] w fun e w' => e = .returned (.bool true) ∧ Below w.heap.size w w' := by
  have HS := hide (fun W => oni_spec l n W)
  have HI := hide (fun W => oni_impl l n W)
  obtain ⟨a, b, e⟩ := oni_two l n
  rw [e] at HS HI
  clear e
  go_enter Try.func3, Try.ntmps3
  go_wp2_with fail
  refine (unhide HS _).mono ?_
  rintro e w' ⟨rfl, rfl⟩
  go_wp2_with fail
  refine (unhide HI _).mono ?_
  rintro e w' ⟨rfl, rfl⟩
  clear HS HI
  go_wp2
  go_ret
  exact ⟨rfl, Below.refl _ _⟩
end Go.Proofs.Ytncplefjokbbjaa
