/- Contracts of the two functions that tell whether a text is a name: both answer nameB of it. -/
import Derived.Test.YtmcggkdfodagfagLeaf
namespace Go.Proofs.Ytmcggkdfodagfag
open Go.RowKit
set_option maxHeartbeats 400000
theorem name_len {s : ByteArray} (h : ¬ (1 ≤ s.size ∧ s.size ≤ 40)) : nameB s = false := by
  simp only [nameB, decide_eq_false_iff_not]; rintro ⟨a, b, _⟩; exact h ⟨a, b⟩
theorem name_first {s : ByteArray} (h : letB (byteAt s 0) = false) : nameB s = false := by
  simp only [nameB, decide_eq_false_iff_not]; rintro ⟨_, _, c, _⟩; rw [h] at c; cases c
theorem name_bad {s : ByteArray} {k : Nat} (hk : k < s.size) (h1 : letB (byteAt s k) = false) (h2 : digB (byteAt s k) = false) : nameB s = false := by
  simp only [nameB, decide_eq_false_iff_not]; rintro ⟨_, _, _, d⟩
  rcases d k hk with h | h
  · rw [h1] at h; cases h
  · rw [h2] at h; cases h
theorem name_good {s : ByteArray} (h1 : 1 ≤ s.size) (h2 : s.size ≤ 40) (h3 : letB (byteAt s 0) = true) (h : ∀ i, i < s.size → letB (byteAt s i) = true ∨ digB (byteAt s i) = true) : nameB s = true := by
  simp only [nameB, decide_eq_true_eq]; exact ⟨h1, h2, h3, h⟩
theorem impl_name (s : ByteArray) (w : World) (hs : s.size ≤ maxLen) : Calls Try.prog 5 #[.string s] w fun e w' => e = .returned (.bool (nameB s)) ∧ w' = w := by
  unfold maxLen at hs
  by_cases h1 : 1 ≤ s.size
  · by_cases h2 : s.size ≤ 40
    · have h0 : 0 < s.size := h1
      by_cases hd : digB (s[0].toNat : Int) = true
      · have hl : letB (byteAt s 0) = false := by
          cases hx : letB (byteAt s 0) with
          | false => rfl
          | true => have := let_not_dig hx; rw [byteAt_lt h0] at this; rw [hd] at this; cases this
        rw [name_first hl]
        go_enter Try.func5, Try.ntmps5
        go_wp2_with (go_at_call 7; refine (isDigit_any _ _).mono ?_; rintro e w' ⟨rfl, rfl⟩)
        go_ret
        exact ⟨rfl, rfl⟩
      · have hd' : digB (s[0].toNat : Int) = false := by simpa using hd
        clear hd
        go_enter Try.func5, Try.ntmps5
        go_wp2_with (go_at_call 7; refine (isDigit_any _ _).mono ?_; rintro e w' ⟨rfl, rfl⟩)
        go_loop [19] (fun i => ∃ k : Nat, k ≤ s.size ∧ i = .int .i64 k ∧ ∀ j, j < k → letB (byteAt s j) = true ∨ digB (byteAt s j) = true) (fun i => s.size - (intOf i).toNat)
        case atStart => exact ⟨0, Nat.zero_le _, rfl, fun j hj => absurd hj (Nat.not_lt_zero _)⟩
        case round =>
          obtain ⟨k, hk, rfl, hall⟩ := hrel
          have HA := hide hall
          clear hall
          by_cases hlt : k < s.size
          · cases hl : letB (s[k].toNat : Int) with
            | true =>
              go_wp2_with (first | (go_at_call 8; refine (isLetter_any _ _).mono ?_; rintro e w' ⟨rfl, rfl⟩) | (go_at_call 7; refine (isDigit_any _ _).mono ?_; rintro e w' ⟨rfl, rfl⟩))
              go_round
              case rel => exact ⟨k + 1, by omega, by go_num, fun j hj => by
                by_cases e : j = k
                · subst e; rw [byteAt_lt hlt]; exact .inl hl
                · exact unhide HA j (by omega)⟩
              case measure => simp [intOf]; omega
            | false =>
              cases hg : digB (s[k].toNat : Int) with
              | true =>
                go_wp2_with (first | (go_at_call 8; refine (isLetter_any _ _).mono ?_; rintro e w' ⟨rfl, rfl⟩) | (go_at_call 7; refine (isDigit_any _ _).mono ?_; rintro e w' ⟨rfl, rfl⟩))
                go_round
                case rel => exact ⟨k + 1, by omega, by go_num, fun j hj => by
                  by_cases e : j = k
                  · subst e; rw [byteAt_lt hlt]; exact .inr hg
                  · exact unhide HA j (by omega)⟩
                case measure => simp [intOf]; omega
              | false =>
                have HN := hide (name_bad hlt (by rw [byteAt_lt hlt]; exact hl) (by rw [byteAt_lt hlt]; exact hg))
                go_wp2_with (first | (go_at_call 8; refine (isLetter_any _ _).mono ?_; rintro e w' ⟨rfl, rfl⟩) | (go_at_call 7; refine (isDigit_any _ _).mono ?_; rintro e w' ⟨rfl, rfl⟩))
                go_ret
                exact ⟨ret_bool (unhide HN).symm, rfl⟩
          · have hl : letB (byteAt s 0) = true := by
              rcases unhide HA 0 (by omega) with h | h
              · exact h
              · rw [byteAt_lt h0, hd'] at h; cases h
            have HN := hide (name_good h1 h2 hl (fun i hi => unhide HA i (by omega)))
            clear hl
            go_wp2
            go_ret
            exact ⟨ret_bool (unhide HN).symm, rfl⟩
    · rw [name_len (by omega)]
      go_enter Try.func5, Try.ntmps5
      go_wp2
      go_ret
      exact ⟨rfl, rfl⟩
  · rw [name_len (by omega)]
    go_enter Try.func5, Try.ntmps5
    go_wp2
    go_ret
    exact ⟨rfl, rfl⟩
theorem spec_word (s : ByteArray) (w : World) (hs : s.size ≤ maxLen) : Calls Try.prog 6 #[.string s] w fun e w' => e = .returned (.bool (nameB s)) ∧ w' = w := by
  unfold maxLen at hs
  by_cases h1 : 1 ≤ s.size
  · by_cases h2 : s.size ≤ 40
    · have h0 : 0 < s.size := h1
      cases hd : letB (s[0].toNat : Int) with
      | false =>
        rw [name_first (by rw [byteAt_lt h0]; exact hd)]
        go_enter Try.func6, Try.ntmps6
        go_wp2_with (go_at_call 9; refine (l00Letter_any _ _).mono ?_; rintro e w' ⟨rfl, rfl⟩)
        go_ret
        exact ⟨rfl, rfl⟩
      | true =>
        go_enter Try.func6, Try.ntmps6
        go_wp2_with (go_at_call 9; refine (l00Letter_any _ _).mono ?_; rintro e w' ⟨rfl, rfl⟩)
        go_loop [3] (fun i => ∃ k : Nat, 1 ≤ k ∧ k ≤ s.size ∧ i = .int .i64 k ∧ ∀ j, j < k → letB (byteAt s j) = true ∨ digB (byteAt s j) = true) (fun i => s.size - (intOf i).toNat)
        case atStart => exact ⟨1, Nat.le_refl _, h1, rfl, fun j hj => (by rw [show j = 0 from by omega, byteAt_lt h0]; exact .inl hd)⟩
        case round =>
          obtain ⟨k, hk1, hk, rfl, hall⟩ := hrel
          have HA := hide hall
          clear hall
          by_cases hlt : k < s.size
          · cases hl : letB (s[k].toNat : Int) with
            | true =>
              go_wp2_with (first | (go_at_call 9; refine (l00Letter_any _ _).mono ?_; rintro e w' ⟨rfl, rfl⟩) | (go_at_call 10; refine (l00Digit_any _ _).mono ?_; rintro e w' ⟨rfl, rfl⟩))
              go_round
              case rel => exact ⟨k + 1, by omega, by omega, by go_num, fun j hj => by
                by_cases e : j = k
                · subst e; rw [byteAt_lt hlt]; exact .inl hl
                · exact unhide HA j (by omega)⟩
              case measure => simp [intOf]; omega
            | false =>
              cases hg : digB (s[k].toNat : Int) with
              | true =>
                go_wp2_with (first | (go_at_call 9; refine (l00Letter_any _ _).mono ?_; rintro e w' ⟨rfl, rfl⟩) | (go_at_call 10; refine (l00Digit_any _ _).mono ?_; rintro e w' ⟨rfl, rfl⟩))
                go_round
                case rel => exact ⟨k + 1, by omega, by omega, by go_num, fun j hj => by
                  by_cases e : j = k
                  · subst e; rw [byteAt_lt hlt]; exact .inr hg
                  · exact unhide HA j (by omega)⟩
                case measure => simp [intOf]; omega
              | false =>
                have HN := hide (name_bad hlt (by rw [byteAt_lt hlt]; exact hl) (by rw [byteAt_lt hlt]; exact hg))
                go_wp2_with (first | (go_at_call 9; refine (l00Letter_any _ _).mono ?_; rintro e w' ⟨rfl, rfl⟩) | (go_at_call 10; refine (l00Digit_any _ _).mono ?_; rintro e w' ⟨rfl, rfl⟩))
                go_ret
                exact ⟨ret_bool (unhide HN).symm, rfl⟩
          · have HN := hide (name_good h1 h2 (by rw [byteAt_lt h0]; exact hd) (fun i hi => unhide HA i (by omega)))
            go_wp2
            go_ret
            exact ⟨ret_bool (unhide HN).symm, rfl⟩
    · rw [name_len (by omega)]
      go_enter Try.func6, Try.ntmps6
      go_wp2
      go_ret
      exact ⟨rfl, rfl⟩
  · rw [name_len (by omega)]
    go_enter Try.func6, Try.ntmps6
    go_wp2
    go_ret
    exact ⟨rfl, rfl⟩
theorem spec_name (s : ByteArray) (w : World) (hs : s.size ≤ maxLen) : Calls Try.prog 4 #[.string s] w fun e w' => e = .returned (.bool (nameB s)) ∧ w' = w := by
  go_enter Try.func4, Try.ntmps4
  go_wp2_with (go_at_call 6; refine (spec_word _ _ hs).mono ?_; rintro e w' ⟨rfl, rfl⟩)
  go_ret
  exact ⟨rfl, rfl⟩
end Go.Proofs.Ytmcggkdfodagfag
