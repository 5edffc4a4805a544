/- Contracts of a digit's text and of division by ten, on the way to a number's decimal text. -/
import Derived.Test.YtdhjjjoakcmknaaDoorImplB
import Derived.Test.YtdhjjjoakcmknaaDoorDecL
namespace Go.Proofs.YtdhjjjoakcmknaaDoor
open Go.RowKit
set_option maxHeartbeats 4000000
set_option maxRecDepth 20000
theorem ret_str {a b : ByteArray} (h : a = b) : Ending.returned (.string a) = .returned (.string b) := by rw [h]
theorem small_any (d : Nat) (h : d < 10) (w : World) : Calls Tryd.prog 39 #[.int .i64 d] w fun e w' => e = .returned (.string (strOfNums [48 + (d : Int)])) ∧ w' = w := by
  have : d = 0 ∨ d = 1 ∨ d = 2 ∨ d = 3 ∨ d = 4 ∨ d = 5 ∨ d = 6 ∨ d = 7 ∨ d = 8 ∨ d = 9 := by omega
  rcases this with rfl | rfl | rfl | rfl | rfl | rfl | rfl | rfl | rfl | rfl
  all_goals
    go_enter Tryd.func39, Tryd.ntmps39
    go_wp2
    go_ret
    exact ⟨ret_str (by decide +kernel), rfl⟩
theorem format_any (d : Nat) (h : d < 10) (w : World) : Calls Tryd.prog 38 #[.int .i64 d, .int .i64 10] w fun e w' => e = .returned (.string (strOfNums [48 + (d : Int)])) ∧ w' = w := by
  have q0 : (0 : Int) ≤ (d : Int) := by omega
  have q1 : (d : Int) < 100 := by omega
  go_enter Tryd.func38, Tryd.ntmps38
  go_wp2_with fail
  refine (small_any d h _).mono ?_
  rintro e w1 ⟨rfl, rfl⟩
  go_wp2
  go_ret
  exact ⟨rfl, rfl⟩
theorem itoaI_any (d : Nat) (h : d < 10) (w : World) : Calls Tryd.prog 36 #[.int .i64 d] w fun e w' => e = .returned (.string (strOfNums [48 + (d : Int)])) ∧ w' = w := by
  go_enter Tryd.func36, Tryd.ntmps36
  go_wp2_with fail
  refine (format_any d h _).mono ?_
  rintro e w1 ⟨rfl, rfl⟩
  go_wp2
  go_ret
  exact ⟨rfl, rfl⟩
theorem itoa_any (d : Nat) (h : d < 10) (w : World) : Calls Tryd.prog 32 #[.int .i64 d] w fun e w' => e = .returned (.string (strOfNums [48 + (d : Int)])) ∧ w' = w := by
  go_enter Tryd.func32, Tryd.ntmps32
  go_wp2_with fail
  refine (itoaI_any d h _).mono ?_
  rintro e w1 ⟨rfl, rfl⟩
  go_wp2
  go_ret
  exact ⟨rfl, rfl⟩
theorem or51 (r a : Int) (r0 : 0 ≤ r) (r1 : r < 10) (a0 : 0 ≤ a) (a1 : a < 2251799813685248) : bits .or .u64 (r * 2251799813685248) a = r * 2251799813685248 + a := by
  rw [u64_or _ _ (by omega) (by omega) a0 (by omega), nat_join 51 _ _ (by omega) (by omega)]
  omega
theorem div_step (r a : Int) (r0 : 0 ≤ r) (r1 : r < 10) (a0 : 0 ≤ a) (a1 : a < 2251799813685248) : ∃ p q r' : Int, bits .or .u64 (IntKind.u64.wrap (r * 2251799813685248)) a = p ∧ p.tmod 10 = r' ∧ IntKind.u64.wrap (p.tdiv 10) = q ∧ Hid (p = r * 2251799813685248 + a ∧ p = 10 * q + r' ∧ 0 ≤ q ∧ q < 2251799813685248 ∧ 0 ≤ r' ∧ r' < 10) := by
  have e : IntKind.u64.wrap (r * 2251799813685248) = r * 2251799813685248 := by rw [IntKind.wrap_u64]; omega
  refine ⟨r * 2251799813685248 + a, (r * 2251799813685248 + a) / 10, (r * 2251799813685248 + a) % 10, by rw [e, or51 r a r0 r1 a0 a1], by rw [Int.tmod_eq_emod_of_nonneg (by omega)], by rw [Int.tdiv_eq_ediv_of_nonneg (by omega), IntKind.wrap_u64]; omega, ⟨rfl, by omega, by omega, by omega, by omega, by omega⟩⟩
theorem or_zero64 (a : Int) : bits .or .u64 0 a = bits .or .u64 (IntKind.u64.wrap (0 * 2251799813685248)) a := by
  rfl
theorem divided_any (a0 a1 a2 a3 a4 : Int) (w : World) (h : In51 a0 a1 a2 a3 a4) :
    Calls Tryd.prog 31 #[L5 a0 a1 a2 a3 a4, .int .u64 10] w fun e w' => (∃ m0 m1 m2 m3 m4 r : Int, e = .returned (.tuple #[L5 m0 m1 m2 m3 m4, .int .u64 r]) ∧ In51 m0 m1 m2 m3 m4 ∧ V5 m0 m1 m2 m3 m4 = V5 a0 a1 a2 a3 a4 / 10 ∧ r = V5 a0 a1 a2 a3 a4 % 10) ∧ Below w.heap.size w w' := by
  have H := hide h
  unfold In51 at h
  obtain ⟨h0, h1, h2, h3, h4⟩ := h
  obtain ⟨p4, q4, r4, o4, t4, d4, E4⟩ := div_step 0 a4 (by omega) (by omega) h4.1 h4.2
  obtain ⟨p3, q3, r3, o3, t3, d3, E3⟩ := div_step r4 a3 (by have := unhide E4; omega) (by have := unhide E4; omega) h3.1 h3.2
  obtain ⟨p2, q2, r2, o2, t2, d2, E2⟩ := div_step r3 a2 (by have := unhide E3; omega) (by have := unhide E3; omega) h2.1 h2.2
  obtain ⟨p1, q1, r1, o1, t1, d1, E1⟩ := div_step r2 a1 (by have := unhide E2; omega) (by have := unhide E2; omega) h1.1 h1.2
  obtain ⟨p0, q0, r0, o0, t0, d0, E0⟩ := div_step r1 a0 (by have := unhide E1; omega) (by have := unhide E1; omega) h0.1 h0.2
  rw [← or_zero64 a4] at o4
  clear h0 h1 h2 h3 h4
  go_enter Tryd.func31, Tryd.ntmps31
  go_wp2
  refine wp_loop_rounds 6 ?_
  rw [rounds_succ]
  go_wp2
  rw [rounds_succ]
  go_wp2
  rw [rounds_succ]
  go_wp2
  rw [rounds_succ]
  go_wp2
  rw [rounds_succ]
  go_wp2
  rw [rounds_succ]
  go_wp2
  refine bodyPost_ret (v := .tuple #[L5 q0 q1 q2 q3 q4, .int .u64 r0]) (by simp [results, Tryd.results31, go_sem]) rfl ⟨⟨_, _, _, _, _, _, rfl, ?_, ?_, ?_⟩, ?_⟩
  · have := unhide E4; have := unhide E3; have := unhide E2; have := unhide E1; have := unhide E0
    unfold In51; omega
  · have := unhide E4; have := unhide E3; have := unhide E2; have := unhide E1; have := unhide E0; have := unhide H
    unfold In51 at this; unfold V5; omega
  · have := unhide E4; have := unhide E3; have := unhide E2; have := unhide E1; have := unhide E0; have := unhide H
    unfold In51 at this; unfold V5; omega
  · go_grown
end Go.Proofs.YtdhjjjoakcmknaaDoor
