/- The program's MessageOK, and the law of it. -/
import Derived.Test.YtgdohkemamlnhaaDoorMsg
namespace Go.Proofs.YtgdohkemamlnhaaDoor
open Go.RowKit
set_option maxHeartbeats 4000000
set_option maxRecDepth 20000
theorem rok (n : Int) (w : World) : Calls Tryd.prog 43 #[.int .i64 n] w fun e w' => e = .returned (.bool (decide (0 ≤ n) && decide (n ≤ 1000000))) ∧ w' = w := by
  go_enter Tryd.func43, Tryd.ntmps43
  go_wp2
  all_goals
    go_ret
    exact ⟨ret_bool (by rw [Bool.eq_iff_iff]; simp; try omega), rfl⟩
theorem sok (n : Int) (w : World) : Calls Tryd.prog 44 #[.int .i64 n] w fun e w' => e = .returned (.bool (decide (0 ≤ n) && decide (n ≤ 65535))) ∧ w' = w := by
  go_enter Tryd.func44, Tryd.ntmps44
  go_wp2
  all_goals
    go_ret
    exact ⟨ret_bool (by rw [Bool.eq_iff_iff]; simp; try omega), rfl⟩
theorem okI (r s a : Int) (d b : ByteArray) (w : World) : Calls Tryd.prog 21 #[msgV r s a d b] w fun e w' => e = .returned (.bool (okM r s a d b)) ∧ Below w.heap.size w w' := by
  have hb := hide ((Below.refl w.heap.size w).alloc (Nat.le_refl _) (.cells #[.int .i64 r, .int .i64 s, .int .i64 a, .string d, .string b] 24))
  have c1 := hide (rok r)
  have c2 := hide (sok s)
  have c3 := hide (sok a)
  unfold okM
  generalize (decide (0 ≤ r) && decide (r ≤ 1000000)) = b1 at *
  generalize (decide (0 ≤ s) && decide (s ≤ 65535)) = b2 at *
  generalize (decide (0 ≤ a) && decide (a ≤ 65535)) = b3 at *
  cases b1
  · go_enter Tryd.func21, Tryd.ntmps21
    go_wp2_with fail
    refine (unhide c1 _).mono ?_
    rintro e w1 ⟨rfl, rfl⟩
    go_wp2
    go_ret
    exact ⟨rfl, unhide hb⟩
  · cases b2
    · go_enter Tryd.func21, Tryd.ntmps21
      go_wp2_with fail
      refine (unhide c1 _).mono ?_
      rintro e w1 ⟨rfl, rfl⟩
      go_wp2_with fail
      refine (unhide c2 _).mono ?_
      rintro e w1 ⟨rfl, rfl⟩
      go_wp2
      go_ret
      exact ⟨rfl, unhide hb⟩
    · cases b3
      · go_enter Tryd.func21, Tryd.ntmps21
        go_wp2_with fail
        refine (unhide c1 _).mono ?_
        rintro e w1 ⟨rfl, rfl⟩
        go_wp2_with fail
        refine (unhide c2 _).mono ?_
        rintro e w1 ⟨rfl, rfl⟩
        go_wp2_with fail
        refine (unhide c3 _).mono ?_
        rintro e w1 ⟨rfl, rfl⟩
        go_wp2
        go_ret
        exact ⟨rfl, unhide hb⟩
      · go_enter Tryd.func21, Tryd.ntmps21
        go_wp2_with fail
        refine (unhide c1 _).mono ?_
        rintro e w1 ⟨rfl, rfl⟩
        go_wp2_with fail
        refine (unhide c2 _).mono ?_
        rintro e w1 ⟨rfl, rfl⟩
        go_wp2_with fail
        refine (unhide c3 _).mono ?_
        rintro e w1 ⟨rfl, rfl⟩
        go_wp2
        all_goals
          go_ret
          exact ⟨ret_bool (by rw [Bool.eq_iff_iff]; simp; try omega), unhide hb⟩
end Go.Proofs.YtgdohkemamlnhaaDoor
