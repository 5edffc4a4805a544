/- The looks at the sizes of keys, nonces and texts, on both sides. -/
import Derived.Test.YtcikpcehdfnhfaaDoorWords
namespace Go.Proofs.YtcikpcehdfnhfaaDoor
open Go.RowKit
set_option maxHeartbeats 4000000
set_option maxRecDepth 20000
def longB (s : ByteArray) : Bool := decide (65536 < s.size)
theorem long_t {s : ByteArray} (h : 65536 < s.size) : longB s = true := by simp [longB, h]
theorem long_f {s : ByteArray} (h : ¬ 65536 < s.size) : longB s = false := by simp [longB]; omega
theorem long_two (s t : ByteArray) (w : World) (b : Nat) (hc : w.cell? ⟨b, 0, none⟩ = some (.string s)) (hd : w.cell? ⟨b, 1, none⟩ = some (.string t)) : Calls Tryd.prog 34 #[.slice (some ⟨b, 0, none⟩) 2 2] w fun e w' => e = .returned (.bool (longB s || longB t)) ∧ w' = w := by
  by_cases h : 65536 < s.size
  · rw [long_t h]
    go_enter Tryd.func34, Tryd.ntmps34
    go_wp2
    refine wp_loop_rounds 3 ?_
    rw [rounds_succ]; go_wp2
    go_ret
    exact ⟨rfl, rfl⟩
  · rw [long_f h]
    by_cases h2 : 65536 < t.size
    · rw [long_t h2]
      go_enter Tryd.func34, Tryd.ntmps34
      go_wp2
      refine wp_loop_rounds 3 ?_
      rw [rounds_succ]; go_wp2
      rw [rounds_succ]; go_wp2
      go_ret
      exact ⟨rfl, rfl⟩
    · rw [long_f h2]
      go_enter Tryd.func34, Tryd.ntmps34
      go_wp2
      refine wp_loop_rounds 3 ?_
      rw [rounds_succ]; go_wp2
      rw [rounds_succ]; go_wp2
      rw [rounds_succ]; go_wp2
      go_ret
      exact ⟨rfl, rfl⟩
theorem long_none (w : World) : Calls Tryd.prog 35 #[.slice none 0 0] w fun e w' => e = .returned (.bool false) ∧ w' = w := by
  go_enter Tryd.func35, Tryd.ntmps35
  go_wp2
  refine wp_loop_rounds 1 ?_
  rw [rounds_succ]; go_wp2
  go_ret
  exact ⟨rfl, rfl⟩
theorem long_list (A : Option Addr) (n cap : Nat) (lb : Bool) (hlb : lb = decide (65536 < n)) (w : World) (b : Nat) (hc : w.cell? ⟨b, 0, none⟩ = some (.slice A n cap)) :
    Calls Tryd.prog 35 #[.slice (some ⟨b, 0, none⟩) 1 1] w fun e w' => e = .returned (.bool lb) ∧ w' = w := by
  subst hlb
  by_cases h : 65536 < n
  · rw [decide_eq_true h]
    have h' : (65536 : Int) < (n : Int) := by omega
    go_enter Tryd.func35, Tryd.ntmps35
    go_wp2
    refine wp_loop_rounds 2 ?_
    rw [rounds_succ]; go_wp2
    go_ret
    exact ⟨rfl, rfl⟩
  · rw [decide_eq_false h]
    have h' : (n : Int) ≤ 65536 := by omega
    clear h
    go_enter Tryd.func35, Tryd.ntmps35
    go_wp2
    refine wp_loop_rounds 2 ?_
    rw [rounds_succ]; go_wp2
    rw [rounds_succ]; go_wp2
    go_ret
    exact ⟨rfl, rfl⟩
def scode (key nonce : ByteArray) (lb : Bool) : Int := if 65536 < key.size ∨ 65536 < nonce.size ∨ lb = true then 2 else if key.size ≠ 32 ∨ nonce.size ≠ 12 then 1 else 0
theorem ret_i {a b : Int} (h : a = b) : Ending.returned (.int .i64 a) = .returned (.int .i64 b) := by rw [h]
theorem ret_bool {a b : Bool} (h : a = b) : Ending.returned (.bool a) = .returned (.bool b) := by rw [h]
theorem scode_any (key nonce : ByteArray) (L : Value) (lb : Bool) (w : World) (hL : ∀ w1, Below w.heap.size w w1 → Calls Tryd.prog 35 #[L] w1 fun e w' => e = .returned (.bool lb) ∧ w' = w1) :
    Calls Tryd.prog 22 #[.string key, .string nonce, L] w fun e w' => e = .returned (.int .i64 (scode key nonce lb)) ∧ Below w.heap.size w w' := by
  have hb : Below w.heap.size w (w.alloc (.cells #[.string key, .string nonce] 9)) := (Below.refl _ _).alloc (Nat.le_refl _) _
  have l2 := hide (long_two key nonce (w.alloc (.cells #[.string key, .string nonce] 9)) w.heap.size (by rw [Go.cell_of_row _ _ _ _ _ _ (heap_alloc_new w _)]; rfl) (by rw [Go.cell_of_row _ _ _ _ _ _ (heap_alloc_new w _)]; rfl))
  have l3 := hide (hL _ hb)
  have HB := hide hb
  clear hb hL
  by_cases h1 : 65536 < key.size ∨ 65536 < nonce.size
  · have e1 : (longB key || longB nonce) = true := by rcases h1 with h | h <;> simp [long_t h]
    have e2 : Hid (scode key nonce lb = 2) := hide (by unfold scode; rw [if_pos (by omega)])
    rw [e1] at l2
    rw [unhide e2]
    clear h1 e1
    go_enter Tryd.func22, Tryd.ntmps22
    go_wp2_with fail
    refine (unhide l2).mono ?_
    rintro e w1 ⟨rfl, rfl⟩
    go_wp2_with fail
    go_ret
    exact ⟨rfl, unhide HB⟩
  · have e1 : (longB key || longB nonce) = false := by rw [long_f (by omega : ¬ 65536 < key.size), long_f (by omega : ¬ 65536 < nonce.size)]; rfl
    rw [e1] at l2
    cases lb
    · by_cases h2 : key.size = 32
      · by_cases h3 : nonce.size = 12
        · have e2 : Hid (scode key nonce false = 0) := hide (by unfold scode; rw [if_neg (by simp; omega), if_neg (by omega)])
          rw [unhide e2]
          clear h1 e1
          go_enter Tryd.func22, Tryd.ntmps22
          go_wp2_with fail
          refine (unhide l2).mono ?_
          rintro e w1 ⟨rfl, rfl⟩
          go_wp2_with fail
          refine (unhide l3).mono ?_
          rintro e w1 ⟨rfl, rfl⟩
          go_wp2
          go_ret
          exact ⟨rfl, unhide HB⟩
        · have e2 : Hid (scode key nonce false = 1) := hide (by unfold scode; rw [if_neg (by simp; omega), if_pos (by omega)])
          rw [unhide e2]
          have h3' : decide ((nonce.size : Int) = 12) = false := by simp; omega
          have h3'' : ¬ ((nonce.size : Int) = 12) := by omega
          clear h1 e1 h3
          go_enter Tryd.func22, Tryd.ntmps22
          go_wp2_with fail
          refine (unhide l2).mono ?_
          rintro e w1 ⟨rfl, rfl⟩
          go_wp2_with fail
          refine (unhide l3).mono ?_
          rintro e w1 ⟨rfl, rfl⟩
          go_wp2
          go_ret
          exact ⟨rfl, unhide HB⟩
      · have e2 : Hid (scode key nonce false = 1) := hide (by unfold scode; rw [if_neg (by simp; omega), if_pos (by omega)])
        rw [unhide e2]
        have h2' : decide ((key.size : Int) = 32) = false := by simp; omega
        have h2'' : ¬ ((key.size : Int) = 32) := by omega
        clear h1 e1 h2
        go_enter Tryd.func22, Tryd.ntmps22
        go_wp2_with fail
        refine (unhide l2).mono ?_
        rintro e w1 ⟨rfl, rfl⟩
        go_wp2_with fail
        refine (unhide l3).mono ?_
        rintro e w1 ⟨rfl, rfl⟩
        go_wp2
        go_ret
        exact ⟨rfl, unhide HB⟩
    · have e2 : Hid (scode key nonce true = 2) := hide (by unfold scode; rw [if_pos (by simp)])
      rw [unhide e2]
      clear h1 e1
      go_enter Tryd.func22, Tryd.ntmps22
      go_wp2_with fail
      refine (unhide l2).mono ?_
      rintro e w1 ⟨rfl, rfl⟩
      go_wp2_with fail
      refine (unhide l3).mono ?_
      rintro e w1 ⟨rfl, rfl⟩
      go_wp2
      go_ret
      exact ⟨rfl, unhide HB⟩
theorem in_any (n lo hi : Int) (w : World) : Calls Tryd.prog 26 #[.int .i64 n, .int .i64 lo, .int .i64 hi] w fun e w' => e = .returned (.bool (decide (lo ≤ n) && decide (n ≤ hi))) ∧ w' = w := by
  go_enter Tryd.func26, Tryd.ntmps26
  go_wp2
  all_goals
    go_ret
    exact ⟨ret_bool (by rw [Bool.eq_iff_iff]; simp; try omega), rfl⟩
theorem keys_any (key nonce : ByteArray) (w : World) : Calls Tryd.prog 25 #[.string key, .string nonce] w fun e w' => e = .returned (.bool (decide (key.size = 32) && decide (nonce.size = 12))) ∧ w' = w := by
  go_enter Tryd.func25, Tryd.ntmps25
  go_wp2
  all_goals
    go_ret
    exact ⟨ret_bool (by rw [Bool.eq_iff_iff]; simp; try omega), rfl⟩
end Go.Proofs.YtcikpcehdfnhfaaDoor
