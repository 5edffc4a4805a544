/- Contracts of the carries of the five limbs. -/
import Derived.Test.YtncplefjokbbjaaRows
import Derived.Test.YtncplefjokbbjaaPlain
import Derived.Test.YtncplefjokbbjaaAdds
import Derived.WalkKit
import Derived.WalkSpells
import Derived.WalkLawsBesides
import Derived.Handy
import Derived.Outline
namespace Go.Proofs.Ytncplefjokbbjaa
open Go.RowKit
set_option maxHeartbeats 800000
theorem passed_any (a0 a1 a2 a3 a4 : Int) (w : World) (h0 : 0 ≤ a0 ∧ a0 < 9223372036854775808) (h1 : 0 ≤ a1 ∧ a1 < 9223372036854775808) (h2 : 0 ≤ a2 ∧ a2 < 9223372036854775808) (h3 : 0 ≤ a3 ∧ a3 < 9223372036854775808) (h4 : 0 ≤ a4 ∧ a4 < 9223372036854775808) :
    Calls Try.prog 50 #[L5 a0 a1 a2 a3 a4] w fun e w' => (∃ m0 m1 m2 m3 m4 c : Int, e = .returned (.tuple #[L5 m0 m1 m2 m3 m4, .int .u64 c]) ∧
      (0 ≤ m0 ∧ m0 < 2251799813685248) ∧ (0 ≤ m1 ∧ m1 < 2251799813685248) ∧ (0 ≤ m2 ∧ m2 < 2251799813685248) ∧ (0 ≤ m3 ∧ m3 < 2251799813685248) ∧ (0 ≤ m4 ∧ m4 < 2251799813685248) ∧ (0 ≤ c ∧ c < 8192) ∧
      V5 a0 a1 a2 a3 a4 = V5 m0 m1 m2 m3 m4 + 57896044618658097711785492504343953926634992332820282019728792003956564819968 * c) ∧ Below w.heap.size w w' := by
  go_enter Try.func50, Try.ntmps50
  go_wp2
  refine wp_loop_rounds 6 ?_
  rw [rounds_succ]
  go_wp2
  rw [rounds_succ]
  go_wp2
  rw [rounds_succ]
  go_wp2
  rw [rounds_succ]
  go_wp2
  rw [rounds_succ]
  go_wp2
  rw [rounds_succ]
  go_wp2
  rw [mask51 a0 (by omega) (by omega), mask51 (a1 + _) (by omega) (by omega), mask51 (a2 + _) (by omega) (by omega), mask51 (a3 + _) (by omega) (by omega), mask51 (a4 + _) (by omega) (by omega)]
  refine bodyPost_ret (v := .tuple #[L5 _ _ _ _ _, .int .u64 _]) (by simp [results, Try.results50, go_sem]; exact ⟨⟨rfl, rfl, rfl, rfl, rfl⟩, rfl⟩) rfl ⟨⟨_, _, _, _, _, _, rfl, ?_, ?_, ?_, ?_, ?_, ?_, ?_⟩, ?_⟩
  · omega
  · omega
  · omega
  · omega
  · omega
  · omega
  · unfold V5; omega
  · go_grown
theorem V5_nonneg {m0 m1 m2 m3 m4 : Int} (h0 : 0 ≤ m0) (h1 : 0 ≤ m1) (h2 : 0 ≤ m2) (h3 : 0 ≤ m3) (h4 : 0 ≤ m4) : 0 ≤ V5 m0 m1 m2 m3 m4 := by unfold V5; omega
theorem V5_lt {m0 m1 m2 m3 m4 : Int} (h0 : m0 < 2251799813685248) (h1 : m1 < 2251799813685248) (h2 : m2 < 2251799813685248) (h3 : m3 < 2251799813685248) (h4 : m4 < 2251799813685248) : V5 m0 m1 m2 m3 m4 < 57896044618658097711785492504343953926634992332820282019728792003956564819968 := by unfold V5; omega
theorem carried_any (a0 a1 a2 a3 a4 : Int) (w : World) (h0 : 0 ≤ a0 ∧ a0 < 9223372036854775808) (h1 : 0 ≤ a1 ∧ a1 < 9223372036854775808) (h2 : 0 ≤ a2 ∧ a2 < 9223372036854775808) (h3 : 0 ≤ a3 ∧ a3 < 9223372036854775808) (h4 : 0 ≤ a4 ∧ a4 < 9223372036854775808) :
    Calls Try.prog 54 #[L5 a0 a1 a2 a3 a4] w fun e w' => (∃ m0 m1 m2 m3 m4 c : Int, e = .returned (L5 m0 m1 m2 m3 m4) ∧
      (0 ≤ m0 ∧ m0 < 2251799813685248 + 19 * c) ∧ (0 ≤ m1 ∧ m1 < 2251799813685248) ∧ (0 ≤ m2 ∧ m2 < 2251799813685248) ∧ (0 ≤ m3 ∧ m3 < 2251799813685248) ∧ (0 ≤ m4 ∧ m4 < 2251799813685248) ∧
      (0 ≤ c ∧ 57896044618658097711785492504343953926634992332820282019728792003956564819968 * c ≤ V5 a0 a1 a2 a3 a4) ∧
      V5 a0 a1 a2 a3 a4 = V5 m0 m1 m2 m3 m4 + pInt * c) ∧ Below w.heap.size w w' := by
  go_enter Try.func54, Try.ntmps54
  go_wp2_with fail
  refine (passed_any a0 a1 a2 a3 a4 _ h0 h1 h2 h3 h4).mono ?_
  rintro e w1 ⟨⟨m0, m1, m2, m3, m4, c, rfl, g0, g1, g2, g3, g4, gc, hv⟩, hb⟩
  have HV := hide hv
  clear hv
  obtain ⟨os, d, rfl⟩ := to_adds hb
  clear hb
  go_wp2
  refine bodyPost_ret (v := L5 _ _ _ _ _) (by simp [results, Try.results54, go_sem]; exact ⟨rfl, rfl, rfl, rfl, rfl⟩) rfl ⟨⟨_, _, _, _, _, c, rfl, ?_, ?_, ?_, ?_, ?_, ?_, ?_⟩, ?_⟩
  · omega
  · omega
  · omega
  · omega
  · omega
  · have hv := unhide HV
    have := V5_nonneg g0.1 g1.1 g2.1 g3.1 g4.1
    omega
  · have hv := unhide HV
    rw [hv]; unfold V5 pInt; omega
  · refine below_adds ?_ ?_ _ _ <;> go_grown
end Go.Proofs.Ytncplefjokbbjaa
