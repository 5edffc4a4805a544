/- The contract of text: the thirty-two bytes of the number below the prime. -/
import Derived.Test.YtncplefjokbbjaaImplB
import Derived.Test.YtncplefjokbbjaaDigits
namespace Go.Proofs.Ytncplefjokbbjaa
open Go.RowKit
set_option maxHeartbeats 1600000
theorem text_any (a0 a1 a2 a3 a4 : Int) (w : World) (h : Car a0 a1 a2 a3 a4) :
    Calls Try.prog 30 #[L5 a0 a1 a2 a3 a4] w fun e w' => e = .returned (.string (enc (V5 a0 a1 a2 a3 a4 % pInt))) ∧ Below w.heap.size w w' := by
  go_enter Try.func30, Try.ntmps30
  go_wp2_with fail
  refine (settled_any a0 a1 a2 a3 a4 _ h).mono ?_
  rintro e w1 ⟨⟨m0, m1, m2, m3, m4, rfl, hin, hv⟩, hb⟩
  have HV := hide hv
  clear hv h
  obtain ⟨g0, g1, g2, g3, g4⟩ := hin
  obtain ⟨os, d, rfl⟩ := to_adds hb
  clear hb
  go_wp2
  refine wp_loop_rounds 33 ?_
  rw [rounds_succ]; go_wp2
  rw [rounds_succ]; go_wp2
  rw [rounds_succ]; go_wp2
  rw [rounds_succ]; go_wp2
  rw [rounds_succ]; go_wp2
  rw [rounds_succ]; go_wp2
  rw [rounds_succ]; go_wp2
  rw [rounds_succ]; go_wp2
  rw [rounds_succ]; go_wp2
  rw [rounds_succ]; go_wp2
  rw [rounds_succ]; go_wp2
  rw [rounds_succ]; go_wp2
  rw [rounds_succ]; go_wp2
  rw [rounds_succ]; go_wp2
  rw [rounds_succ]; go_wp2
  rw [rounds_succ]; go_wp2
  rw [rounds_succ]; go_wp2
  rw [rounds_succ]; go_wp2
  rw [rounds_succ]; go_wp2
  rw [rounds_succ]; go_wp2
  rw [rounds_succ]; go_wp2
  rw [rounds_succ]; go_wp2
  rw [rounds_succ]; go_wp2
  rw [rounds_succ]; go_wp2
  rw [rounds_succ]; go_wp2
  rw [rounds_succ]; go_wp2
  rw [rounds_succ]; go_wp2
  rw [rounds_succ]; go_wp2
  rw [rounds_succ]; go_wp2
  rw [rounds_succ]; go_wp2
  rw [rounds_succ]; go_wp2
  rw [rounds_succ]; go_wp2
  rw [rounds_succ]; go_wp2
  rw [or_join 3 (m0 / 281474976710656) (m1 * 8) (by omega) (by omega) (by omega) (by omega) (by omega) (by omega), or_join 6 (m1 / 35184372088832) (m2 * 64) (by omega) (by omega) (by omega) (by omega) (by omega) (by omega),
    or_join 1 (m2 / 1125899906842624) (m3 * 2) (by omega) (by omega) (by omega) (by omega) (by omega) (by omega), or_join 4 (m3 / 140737488355328) (m4 * 16) (by omega) (by omega) (by omega) (by omega) (by omega) (by omega)]
  go_ret
  refine ⟨?_, ?_⟩
  · show Ending.returned (.string (strOfNums _)) = _
    rw [dig_all m0 m1 m2 m3 m4 g0 g1 g2 g3 g4, unhide HV]
  · rw [alloc_adds]; refine below_adds ?_ ?_ _ _ <;> go_grown
end Go.Proofs.Ytncplefjokbbjaa
