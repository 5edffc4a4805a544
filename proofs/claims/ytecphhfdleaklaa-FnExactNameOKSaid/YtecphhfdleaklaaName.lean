/- Contracts of NameOK on both sides, and its law's walk. -/
import Derived.Test.YtecphhfdleaklaaRows
import Derived.WalkKit
import Derived.WalkSpells
import Derived.Outline
import Derived.OwnWalk
namespace Go.Proofs.Ytecphhfdleaklaa
open Go.RowKit
theorem hide {p : Prop} (h : p) : Hid p := h
theorem unhide {p : Prop} (h : Hid p) : p := h
def digB (c : Int) : Bool := decide (48 ≤ c ∧ c ≤ 57)
def letB (c : Int) : Bool := decide ((97 ≤ c ∧ c ≤ 122) ∨ (65 ≤ c ∧ c ≤ 90) ∨ c = 95)
theorem dig_t {c : Int} (h : 48 ≤ c ∧ c ≤ 57) : digB c = true := by simp [digB]; omega
theorem dig_f {c : Int} (h : ¬ (48 ≤ c ∧ c ≤ 57)) : digB c = false := by simp [digB]; omega
theorem let_t {c : Int} (h : (97 ≤ c ∧ c ≤ 122) ∨ (65 ≤ c ∧ c ≤ 90) ∨ c = 95) : letB c = true := by simp [letB]; omega
theorem let_f {c : Int} (h : ¬ ((97 ≤ c ∧ c ≤ 122) ∨ (65 ≤ c ∧ c ≤ 90) ∨ c = 95)) : letB c = false := by simp [letB]; omega
theorem let_not_dig {c : Int} (h : letB c = true) : digB c = false := by
  simp only [letB, decide_eq_true_eq] at h; exact dig_f (by omega)
/-- the byte at a place, as a number -/
def byteAt (s : ByteArray) (k : Nat) : Int := if h : k < s.size then (s[k].toNat : Int) else 0
theorem byteAt_lt {s : ByteArray} {k : Nat} (h : k < s.size) : byteAt s k = (s[k].toNat : Int) := by simp [byteAt, h]
/-- what both texts answer -/
def nameB (s : ByteArray) : Bool := decide (1 ≤ s.size ∧ s.size ≤ 40 ∧ letB (byteAt s 0) = true ∧ ∀ i, i < s.size → letB (byteAt s i) = true ∨ digB (byteAt s i) = true)
set_option maxHeartbeats 400000
theorem ret_bool {a b : Bool} (h : a = b) : Ending.returned (.bool a) = .returned (.bool b) := by rw [h]
theorem isDigit_any (c : Int) (w : World) : Calls Try.prog 82 #[.int .u8 c] w fun e w' => e = .returned (.bool (digB c)) ∧ w' = w := by
  by_cases h1 : 48 ≤ c
  · by_cases h2 : c ≤ 57
    · rw [dig_t ⟨h1, h2⟩]
      go_enter Try.func82, Try.ntmps82
      go_wp2
      go_ret
      exact ⟨rfl, rfl⟩
    · rw [dig_f (by omega)]
      go_enter Try.func82, Try.ntmps82
      go_wp2
      go_ret
      exact ⟨rfl, rfl⟩
  · rw [dig_f (by omega)]
    go_enter Try.func82, Try.ntmps82
    go_wp2
    go_ret
    exact ⟨rfl, rfl⟩
theorem l00Digit_any (c : Int) (w : World) : Calls Try.prog 100 #[.int .u8 c] w fun e w' => e = .returned (.bool (digB c)) ∧ w' = w := by
  by_cases h1 : 48 ≤ c
  · by_cases h2 : c ≤ 57
    · rw [dig_t ⟨h1, h2⟩]
      go_enter Try.func100, Try.ntmps100
      go_wp2
      go_ret
      exact ⟨rfl, rfl⟩
    · rw [dig_f (by omega)]
      go_enter Try.func100, Try.ntmps100
      go_wp2
      go_ret
      exact ⟨rfl, rfl⟩
  · rw [dig_f (by omega)]
    go_enter Try.func100, Try.ntmps100
    go_wp2
    go_ret
    exact ⟨rfl, rfl⟩
theorem isLetter_any (c : Int) (w : World) : Calls Try.prog 83 #[.int .u8 c] w fun e w' => e = .returned (.bool (letB c)) ∧ w' = w := by
  go_enter Try.func83, Try.ntmps83
  go_wp2
  all_goals
    go_ret
    exact ⟨ret_bool (by rw [Bool.eq_iff_iff]; simp [letB]; omega), rfl⟩
theorem l00Letter_any (c : Int) (w : World) : Calls Try.prog 99 #[.int .u8 c] w fun e w' => e = .returned (.bool (letB c)) ∧ w' = w := by
  go_enter Try.func99, Try.ntmps99
  go_wp2
  all_goals
    go_ret
    exact ⟨ret_bool (by rw [Bool.eq_iff_iff]; simp [letB]; omega), rfl⟩
set_option maxHeartbeats 400000
theorem name_len {s : ByteArray} (h : ¬ (1 ≤ s.size ∧ s.size ≤ 40)) : nameB s = false := by
  simp only [nameB, decide_eq_false_iff_not]; rintro ⟨a, b, _⟩; exact h ⟨a, b⟩
theorem name_first {s : ByteArray} (h : letB (byteAt s 0) = false) : nameB s = false := by
  simp only [nameB, decide_eq_false_iff_not]; rintro ⟨_, _, c, _⟩; rw [h] at c; cases c
theorem name_bad {s : ByteArray} {k : Nat} (hk : k < s.size) (h1 : letB (byteAt s k) = false) (h2 : digB (byteAt s k) = false) : nameB s = false := by
  simp only [nameB, decide_eq_false_iff_not]; rintro ⟨_, _, _, d⟩
  rcases d k hk with h | h
  · rw [h1] at h; cases h
  · rw [h2] at h; cases h
theorem name_good {s : ByteArray} (h1 : 1 ≤ s.size) (h2 : s.size ≤ 40) (h3 : letB (byteAt s 0) = true) (h : ∀ i, i < s.size → letB (byteAt s i) = true ∨ digB (byteAt s i) = true) : nameB s = true := by
  simp only [nameB, decide_eq_true_eq]; exact ⟨h1, h2, h3, h⟩
theorem impl_name (s : ByteArray) (w : World) (hs : s.size ≤ maxLen) : Calls Try.prog 43 #[.string s] w fun e w' => e = .returned (.bool (nameB s)) ∧ w' = w := by
  unfold maxLen at hs
  by_cases h1 : 1 ≤ s.size
  · by_cases h2 : s.size ≤ 40
    · have h0 : 0 < s.size := h1
      by_cases hd : digB (s[0].toNat : Int) = true
      · have hl : letB (byteAt s 0) = false := by
          cases hx : letB (byteAt s 0) with
          | false => rfl
          | true => have := let_not_dig hx; rw [byteAt_lt h0] at this; rw [hd] at this; cases this
        rw [name_first hl]
        go_enter Try.func43, Try.ntmps43
        go_wp2_with (go_at_call 82; refine (isDigit_any _ _).mono ?_; rintro e w' ⟨rfl, rfl⟩)
        go_ret
        exact ⟨rfl, rfl⟩
      · have hd' : digB (s[0].toNat : Int) = false := by simpa using hd
        clear hd
        go_enter Try.func43, Try.ntmps43
        go_wp2_with (go_at_call 82; refine (isDigit_any _ _).mono ?_; rintro e w' ⟨rfl, rfl⟩)
        go_loop [19] (fun i => ∃ k : Nat, k ≤ s.size ∧ i = .int .i64 k ∧ ∀ j, j < k → letB (byteAt s j) = true ∨ digB (byteAt s j) = true) (fun i => s.size - (intOf i).toNat)
        case atStart => exact ⟨0, Nat.zero_le _, rfl, fun j hj => absurd hj (Nat.not_lt_zero _)⟩
        case round =>
          obtain ⟨k, hk, rfl, hall⟩ := hrel
          have HA := hide hall
          clear hall
          by_cases hlt : k < s.size
          · cases hl : letB (s[k].toNat : Int) with
            | true =>
              go_wp2_with (first | (go_at_call 83; refine (isLetter_any _ _).mono ?_; rintro e w' ⟨rfl, rfl⟩) | (go_at_call 82; refine (isDigit_any _ _).mono ?_; rintro e w' ⟨rfl, rfl⟩))
              go_round
              case rel => exact ⟨k + 1, by omega, by go_num, fun j hj => by
                by_cases e : j = k
                · subst e; rw [byteAt_lt hlt]; exact .inl hl
                · exact unhide HA j (by omega)⟩
              case measure => simp [intOf]; omega
            | false =>
              cases hg : digB (s[k].toNat : Int) with
              | true =>
                go_wp2_with (first | (go_at_call 83; refine (isLetter_any _ _).mono ?_; rintro e w' ⟨rfl, rfl⟩) | (go_at_call 82; refine (isDigit_any _ _).mono ?_; rintro e w' ⟨rfl, rfl⟩))
                go_round
                case rel => exact ⟨k + 1, by omega, by go_num, fun j hj => by
                  by_cases e : j = k
                  · subst e; rw [byteAt_lt hlt]; exact .inr hg
                  · exact unhide HA j (by omega)⟩
                case measure => simp [intOf]; omega
              | false =>
                have HN := hide (name_bad hlt (by rw [byteAt_lt hlt]; exact hl) (by rw [byteAt_lt hlt]; exact hg))
                go_wp2_with (first | (go_at_call 83; refine (isLetter_any _ _).mono ?_; rintro e w' ⟨rfl, rfl⟩) | (go_at_call 82; refine (isDigit_any _ _).mono ?_; rintro e w' ⟨rfl, rfl⟩))
                go_ret
                exact ⟨ret_bool (unhide HN).symm, rfl⟩
          · have hl : letB (byteAt s 0) = true := by
              rcases unhide HA 0 (by omega) with h | h
              · exact h
              · rw [byteAt_lt h0, hd'] at h; cases h
            have HN := hide (name_good h1 h2 hl (fun i hi => unhide HA i (by omega)))
            clear hl
            go_wp2
            go_ret
            exact ⟨ret_bool (unhide HN).symm, rfl⟩
    · rw [name_len (by omega)]
      go_enter Try.func43, Try.ntmps43
      go_wp2
      go_ret
      exact ⟨rfl, rfl⟩
  · rw [name_len (by omega)]
    go_enter Try.func43, Try.ntmps43
    go_wp2
    go_ret
    exact ⟨rfl, rfl⟩
theorem spec_word (s : ByteArray) (w : World) (hs : s.size ≤ maxLen) : Calls Try.prog 81 #[.string s] w fun e w' => e = .returned (.bool (nameB s)) ∧ w' = w := by
  unfold maxLen at hs
  by_cases h1 : 1 ≤ s.size
  · by_cases h2 : s.size ≤ 40
    · have h0 : 0 < s.size := h1
      cases hd : letB (s[0].toNat : Int) with
      | false =>
        rw [name_first (by rw [byteAt_lt h0]; exact hd)]
        go_enter Try.func81, Try.ntmps81
        go_wp2_with (go_at_call 99; refine (l00Letter_any _ _).mono ?_; rintro e w' ⟨rfl, rfl⟩)
        go_ret
        exact ⟨rfl, rfl⟩
      | true =>
        go_enter Try.func81, Try.ntmps81
        go_wp2_with (go_at_call 99; refine (l00Letter_any _ _).mono ?_; rintro e w' ⟨rfl, rfl⟩)
        go_loop [3] (fun i => ∃ k : Nat, 1 ≤ k ∧ k ≤ s.size ∧ i = .int .i64 k ∧ ∀ j, j < k → letB (byteAt s j) = true ∨ digB (byteAt s j) = true) (fun i => s.size - (intOf i).toNat)
        case atStart => exact ⟨1, Nat.le_refl _, h1, rfl, fun j hj => (by rw [show j = 0 from by omega, byteAt_lt h0]; exact .inl hd)⟩
        case round =>
          obtain ⟨k, hk1, hk, rfl, hall⟩ := hrel
          have HA := hide hall
          clear hall
          by_cases hlt : k < s.size
          · cases hl : letB (s[k].toNat : Int) with
            | true =>
              go_wp2_with (first | (go_at_call 99; refine (l00Letter_any _ _).mono ?_; rintro e w' ⟨rfl, rfl⟩) | (go_at_call 100; refine (l00Digit_any _ _).mono ?_; rintro e w' ⟨rfl, rfl⟩))
              go_round
              case rel => exact ⟨k + 1, by omega, by omega, by go_num, fun j hj => by
                by_cases e : j = k
                · subst e; rw [byteAt_lt hlt]; exact .inl hl
                · exact unhide HA j (by omega)⟩
              case measure => simp [intOf]; omega
            | false =>
              cases hg : digB (s[k].toNat : Int) with
              | true =>
                go_wp2_with (first | (go_at_call 99; refine (l00Letter_any _ _).mono ?_; rintro e w' ⟨rfl, rfl⟩) | (go_at_call 100; refine (l00Digit_any _ _).mono ?_; rintro e w' ⟨rfl, rfl⟩))
                go_round
                case rel => exact ⟨k + 1, by omega, by omega, by go_num, fun j hj => by
                  by_cases e : j = k
                  · subst e; rw [byteAt_lt hlt]; exact .inr hg
                  · exact unhide HA j (by omega)⟩
                case measure => simp [intOf]; omega
              | false =>
                have HN := hide (name_bad hlt (by rw [byteAt_lt hlt]; exact hl) (by rw [byteAt_lt hlt]; exact hg))
                go_wp2_with (first | (go_at_call 99; refine (l00Letter_any _ _).mono ?_; rintro e w' ⟨rfl, rfl⟩) | (go_at_call 100; refine (l00Digit_any _ _).mono ?_; rintro e w' ⟨rfl, rfl⟩))
                go_ret
                exact ⟨ret_bool (unhide HN).symm, rfl⟩
          · have HN := hide (name_good h1 h2 (by rw [byteAt_lt h0]; exact hd) (fun i hi => unhide HA i (by omega)))
            go_wp2
            go_ret
            exact ⟨ret_bool (unhide HN).symm, rfl⟩
    · rw [name_len (by omega)]
      go_enter Try.func81, Try.ntmps81
      go_wp2
      go_ret
      exact ⟨rfl, rfl⟩
  · rw [name_len (by omega)]
    go_enter Try.func81, Try.ntmps81
    go_wp2
    go_ret
    exact ⟨rfl, rfl⟩
theorem spec_name (s : ByteArray) (w : World) (hs : s.size ≤ maxLen) : Calls Try.prog 42 #[.string s] w fun e w' => e = .returned (.bool (nameB s)) ∧ w' = w := by
  go_enter Try.func42, Try.ntmps42
  go_wp2_with (go_at_call 81; refine (spec_word _ _ hs).mono ?_; rintro e w' ⟨rfl, rfl⟩)
  go_ret
  exact ⟨rfl, rfl⟩
theorem law_Name (s : ByteArray) (hs : s.size ≤ maxLen) (w : World) : Calls Try.prog 7 #[.string s] w fun e w' => e = .returned (.bool true) ∧ Below w.heap.size w w' := by
  have hs' := hs
  unfold maxLen at hs
  by_cases h1 : s.size ≤ 1048576
  · go_enter Try.func7, Try.ntmps7
    go_wp2_with (first | (go_at_call 42; refine (spec_name _ _ hs').mono ?_; rintro e w' ⟨rfl, rfl⟩) | (go_at_call 43; refine (impl_name _ _ hs').mono ?_; rintro e w' ⟨rfl, rfl⟩))
    go_ret
    exact ⟨rfl, Below.refl _ _⟩
  · go_enter Try.func7, Try.ntmps7
    go_wp2
    go_ret
    exact ⟨rfl, Below.refl _ _⟩
end Go.Proofs.Ytecphhfdleaklaa
