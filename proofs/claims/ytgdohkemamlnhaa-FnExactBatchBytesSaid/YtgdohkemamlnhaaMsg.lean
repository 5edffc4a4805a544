/- Messages: the laws' helpers, the specification's MessageOK, numbers as bytes. -/
import Derived.Test.YtgdohkemamlnhaaHlp
namespace Go.Proofs.Ytgdohkemamlnhaa
open Go.RowKit
set_option maxHeartbeats 4000000
set_option maxRecDepth 20000
/-- a message as a value -/
abbrev msgV (r s a : Int) (d b : ByteArray) : Value := .agg #[.int .i64 r, .int .i64 s, .int .i64 a, .string d, .string b]
theorem sz6 (r s a : Int) (d b : ByteArray) (hd : d.size ≤ maxLen) (hb : b.size ≤ maxLen) (w : World) :
    Calls Try.prog 6 #[msgV r s a d b, .int .i64 1048576] w fun e w' => (∃ z : Int, e = .returned (.int .i64 z) ∧ (0 ≤ z → d.size ≤ 1048576 ∧ b.size ≤ 1048576)) ∧ Below w.heap.size w w' := by
  unfold maxLen at hd hb
  have h1 : (d.size : Int) ≤ 9223372036854775807 := by omega
  have h2 : (b.size : Int) ≤ 9223372036854775807 := by omega
  go_enter Try.func6, Try.ntmps6
  go_wp2
  all_goals
    go_ret
    exact ⟨⟨_, rfl, by omega⟩, (Below.refl _ _).alloc (Nat.le_refl _) _⟩
theorem to8 (r s a : Int) (d b : ByteArray) (w : World) : Calls Try.prog 8 #[msgV r s a d b] w fun e w' => e = .returned (msgV r s a d b) ∧ Below w.heap.size w w' := by
  go_enter Try.func8, Try.ntmps8
  go_wp2
  refine bodyPost_ret (v := msgV r s a d b) ?_ rfl ⟨rfl, (((Below.refl _ _).alloc (Nat.le_refl _) _).alloc (by simp) _).alloc (by simp; omega) _⟩
  exact results_cell_row rfl _ _ (w.heap.size + 1) 26 _ (0, 0) _ rfl (by rw [Below.heap_alloc _ _ _ (by simp), heap_at _ _ _ (by simp)]) Try.underlying26 rfl (by kernel_rfl)
/-- the number that bytes are, the highest first -/
def ofL (xs : List Int) : Int := xs.foldl (fun n x => n * 256 + x) 0
theorem ofL_take (xs : List Int) (j : Nat) (h : j < xs.length) : ofL (xs.take (j + 1)) = ofL (xs.take j) * 256 + xs.getD j 0 := by
  unfold ofL
  rw [List.take_succ_eq_append_getElem h, List.foldl_append, List.getD_eq_getElem?_getD, List.getElem?_eq_getElem h]
  rfl
theorem ofL_bd (xs : List Int) (h : isB xs) : ∀ j, j ≤ 4 → j ≤ xs.length → 0 ≤ ofL (xs.take j) ∧ ofL (xs.take j) < 256 ^ j
  | 0, _, _ => by simp [ofL]
  | j + 1, h4, hj => by
    have ih := ofL_bd xs h j (by omega) (by omega)
    rw [ofL_take xs j (by omega)]
    have := h.at j
    have e : (256 : Int) ^ (j + 1) = 256 ^ j * 256 := Int.pow_succ _ _
    omega
theorem ret_bool {a b : Bool} (h : a = b) : Ending.returned (.bool a) = .returned (.bool b) := by rw [h]
theorem in19 (n lo hi : Int) (w : World) : Calls Try.prog 21 #[.int .i64 n, .int .i64 lo, .int .i64 hi] w fun e w' => e = .returned (.bool (decide (lo ≤ n) && decide (n ≤ hi))) ∧ w' = w := by
  go_enter Try.func21, Try.ntmps21
  go_wp2
  all_goals
    go_ret
    exact ⟨ret_bool (by rw [Bool.eq_iff_iff]; simp; try omega), rfl⟩
/-- a right message -/
def okM (r s a : Int) (d b : ByteArray) : Bool := (decide (0 ≤ r) && decide (r ≤ 1000000)) && (decide (0 ≤ s) && decide (s ≤ 65535)) && (decide (0 ≤ a) && decide (a ≤ 65535)) && decide (d.size = 8) && decide (b.size ≤ 40)
theorem ok7 (r s a : Int) (d b : ByteArray) (w : World) : Calls Try.prog 7 #[msgV r s a d b] w fun e w' => e = .returned (.bool (okM r s a d b)) ∧ Below w.heap.size w w' := by
  have hb := hide ((Below.refl w.heap.size w).alloc (Nat.le_refl _) (.cells #[.int .i64 r, .int .i64 s, .int .i64 a, .string d, .string b] 26))
  have c1 := hide (in19 r 0 1000000)
  have c2 := hide (in19 s 0 65535)
  have c3 := hide (in19 a 0 65535)
  unfold okM
  generalize (decide (0 ≤ r) && decide (r ≤ 1000000)) = b1 at *
  generalize (decide (0 ≤ s) && decide (s ≤ 65535)) = b2 at *
  generalize (decide (0 ≤ a) && decide (a ≤ 65535)) = b3 at *
  cases b1
  · go_enter Try.func7, Try.ntmps7
    go_wp2_with fail
    refine (unhide c1 _).mono ?_
    rintro e w1 ⟨rfl, rfl⟩
    go_wp2
    go_ret
    exact ⟨rfl, unhide hb⟩
  · cases b2
    · go_enter Try.func7, Try.ntmps7
      go_wp2_with fail
      refine (unhide c1 _).mono ?_
      rintro e w1 ⟨rfl, rfl⟩
      go_wp2_with fail
      refine (unhide c2 _).mono ?_
      rintro e w1 ⟨rfl, rfl⟩
      go_wp2
      go_ret
      exact ⟨rfl, unhide hb⟩
    · cases b3
      · go_enter Try.func7, Try.ntmps7
        go_wp2_with fail
        refine (unhide c1 _).mono ?_
        rintro e w1 ⟨rfl, rfl⟩
        go_wp2_with fail
        refine (unhide c2 _).mono ?_
        rintro e w1 ⟨rfl, rfl⟩
        go_wp2_with fail
        refine (unhide c3 _).mono ?_
        rintro e w1 ⟨rfl, rfl⟩
        go_wp2
        go_ret
        exact ⟨rfl, unhide hb⟩
      · go_enter Try.func7, Try.ntmps7
        go_wp2_with fail
        refine (unhide c1 _).mono ?_
        rintro e w1 ⟨rfl, rfl⟩
        go_wp2_with fail
        refine (unhide c2 _).mono ?_
        rintro e w1 ⟨rfl, rfl⟩
        go_wp2_with fail
        refine (unhide c3 _).mono ?_
        rintro e w1 ⟨rfl, rfl⟩
        go_wp2
        all_goals
          go_ret
          exact ⟨ret_bool (by rw [Bool.eq_iff_iff]; simp; try omega), unhide hb⟩
end Go.Proofs.Ytgdohkemamlnhaa
