/- Contracts of the two functions that find a word's code. -/
import Derived.Test.YtdhjjjoakcmknaaDoorCwLaid
import Derived.Test.YtdhjjjoakcmknaaDoorCwWalk
namespace Go.Proofs.YtdhjjjoakcmknaaDoor
open Go.RowKit
set_option maxHeartbeats 400000
theorem text_eq {a b : ByteArray} (h : a.toList = b.toList) : a = b := by
  rw [Go.ByteArray.toList_eq, Go.ByteArray.toList_eq] at h
  have := Array.ext' h
  cases a; cases b; simp_all
theorem index_at (k : Nat) (hk : k < 20) (w : World) : (Instr.index 45 (.agg wordsArr) (.int .i64 k)).run Tryd.prog w = .ok (.string (wordAt k)) w := by
  rcases k with _ | _ | _ | _ | _ | _ | _ | _ | _ | _ | _ | _ | _ | _ | _ | _ | _ | _ | _ | _ | k
  all_goals first | (exfalso; omega) | kernel_rfl
theorem impl_of (s : ByteArray) (w : World) (hg : ∃ t fr, w.heap[0]? = some (.cells wordsArr t fr)) :
    Calls Tryd.prog 18 #[.string s] w fun e w' => (∃ r, e = .returned (.int .i64 r) ∧ IsCode s r) ∧ w' = w := by
  obtain ⟨t, fr, hg⟩ := hg
  go_enter Tryd.func18, Tryd.ntmps18
  go_wp2_with (refine wpList_load_row rfl 45 _ rfl 0 rfl t _ fr _ hg Tryd.underlying45 rfl (by kernel_rfl) ?_)
  go_loop [6] (fun i => ∃ k : Nat, k ≤ 20 ∧ i = .int .i64 k ∧ ∀ j, j < k → s ≠ wordAt j) (fun i => 20 - (intOf i).toNat)
  case atStart => exact ⟨0, Nat.zero_le _, rfl, fun j hj => absurd hj (Nat.not_lt_zero _)⟩
  case round =>
    obtain ⟨k, hk, rfl, hall⟩ := hrel
    have HA := hide hall
    clear hall
    by_cases hlt : k < 20
    · have hi := index_at k hlt
      by_cases e : s = wordAt k
      · have HI := hide (show IsCode s k from .inl ⟨k, hlt, rfl, e, unhide HA⟩)
        have he : (s.toList == (wordAt k).toList) = true := by rw [← e]; simp
        have E := hide e
        clear e
        go_wp2
        go_ret
        exact ⟨⟨_, rfl, unhide HI⟩, rfl⟩
      · have he : (s.toList == (wordAt k).toList) = false := by
          cases hx : (s.toList == (wordAt k).toList) with
          | false => rfl
          | true => exact absurd (text_eq (by simpa using hx)) e
        have E := hide e
        clear e
        go_wp2
        go_round
        case rel => exact ⟨k + 1, by omega, by go_num, fun j hj => by
          by_cases e : j = k
          · subst e; exact unhide E
          · exact unhide HA j (by omega)⟩
        case measure => simp [intOf]; omega
    · go_wp2
      go_ret
      exact ⟨⟨_, rfl, .inr ⟨rfl, fun j hj => unhide HA j (by omega)⟩⟩, rfl⟩
theorem spec_of (s : ByteArray) (w : World) :
    Calls Tryd.prog 17 #[.string s] w fun e w' => (∃ r, e = .returned (.int .i64 r) ∧ IsCode s r) ∧ Below w.heap.size w w' := by
  go_enter Tryd.func17, Tryd.ntmps17
  go_wp2
  go_loopw [3] (fun i wr => (∃ k : Nat, k ≤ 20 ∧ i = .int .i64 k ∧ ∀ j, j < k → s ≠ wordAt j) ∧ Below w.heap.size w wr) (fun i _ => 20 - (intOf i).toNat)
  case atStart => exact ⟨⟨0, Nat.zero_le _, rfl, fun j hj => absurd hj (Nat.not_lt_zero _)⟩, Below.refl _ _⟩
  case round =>
    obtain ⟨⟨k, hk, rfl, hall⟩, hb⟩ := hrel
    have HA := hide hall
    clear hall
    by_cases hlt : k < 20
    · by_cases e : s = wordAt k
      · have HI := hide (show IsCode s k from .inl ⟨k, hlt, rfl, e, unhide HA⟩)
        have he : ((wordAt k).toList == s.toList) = true := by rw [← e]; simp
        clear e
        go_wp2_with (go_at_call 15; refine (spec_word_in k hlt _).mono ?_; rintro e w1 ⟨rfl, hb1⟩)
        go_ret
        exact ⟨⟨_, rfl, unhide HI⟩, hb.trans (hb1.mono hb.size)⟩
      · have he : ((wordAt k).toList == s.toList) = false := by
          cases hx : ((wordAt k).toList == s.toList) with
          | false => rfl
          | true => exact absurd (text_eq (by simpa using hx)).symm e
        have E := hide e
        clear e
        go_wp2_with (go_at_call 15; refine (spec_word_in k hlt _).mono ?_; rintro e w1 ⟨rfl, hb1⟩)
        go_roundw
        case rel => exact ⟨⟨k + 1, by omega, by go_num, fun j hj => by
          by_cases e : j = k
          · subst e; exact unhide E
          · exact unhide HA j (by omega)⟩, hb.trans (hb1.mono hb.size)⟩
        case measure => simp [intOf]; omega
    · go_wp2
      go_ret
      exact ⟨⟨_, rfl, .inr ⟨rfl, fun j hj => unhide HA j (by omega)⟩⟩, hb⟩
theorem codeOf_law (s : ByteArray) (w : World) (hs : s.size ≤ maxLen) (hv : w.var? Tryd.prog "loop.example/g00254/impl.codeWords" = some wordsArr) :
    Calls Tryd.prog 5 #[.string s] w fun e w' => e = .returned (.bool true) ∧ Below w.heap.size w w' := by
  obtain ⟨t, fr, hg⟩ := laid_row hv
  have h0 : 0 < w.heap.size := (Array.getElem?_eq_some_iff.1 hg).1
  have HG := hide hg
  clear hg hv
  unfold maxLen at hs
  by_cases h1 : s.size ≤ 1048576
  · go_enter Tryd.func5, Tryd.ntmps5
    go_wp2_with fail
    refine (spec_of s _).mono ?_
    rintro e w1 ⟨⟨r1, rfl, hr1⟩, hb⟩
    have R1 := hide hr1
    clear hr1
    go_wp2_with fail
    refine (impl_of s _ ⟨t, fr, by rw [hb.block 0 h0]; exact unhide HG⟩).mono ?_
    rintro e w2 ⟨⟨r2, rfl, hr2⟩, rfl⟩
    obtain rfl := isCode_one (unhide R1) hr2
    clear hr2 R1
    go_wp2
    go_ret
    exact ⟨rfl, hb⟩
  · go_enter Tryd.func5, Tryd.ntmps5
    go_wp2
    go_ret
    exact ⟨rfl, Below.refl _ _⟩
end Go.Proofs.YtdhjjjoakcmknaaDoor
