/- The law of MessageOK, walked. -/
import Derived.Test.YtgdohkemamlnhaaOkI
import Derived.Test.YtgdohkemamlnhaaMsgB
namespace Go.Proofs.Ytgdohkemamlnhaa
open Go.RowKit
set_option maxHeartbeats 4000000
set_option maxRecDepth 20000
theorem mc_new (w : World) (r s a : Int) (d b : ByteArray) (t : TypeId) : MC w.heap.size r s a d b (w.alloc (.cells #[.int .i64 r, .int .i64 s, .int .i64 a, .string d, .string b] t)) := by
  refine ⟨by simp, ?_, ?_, ?_, ?_, ?_⟩ <;> rw [Go.cell_of_row _ _ _ _ _ _ (heap_alloc_new w _)] <;> rfl
theorem lawOk (r s a : Int) (d b : ByteArray) (hd : d.size ≤ maxLen) (hb : b.size ≤ maxLen) (w : World) :
    Calls Try.prog 3 #[msgV r s a d b] w fun e w' => e = .returned (.bool true) ∧ Below w.heap.size w w' := by
  have MC0 := hide (mc_new w r s a d b 23)
  have B0 := hide (show Below w.heap.size w (w.alloc (.cells #[.int .i64 r, .int .i64 s, .int .i64 a, .string d, .string b] 23)) from (Below.refl _ _).alloc (Nat.le_refl _) _)
  have h6 := hide (sz6 r s a d b hd hb)
  have h7 := hide (ok7 r s a d b)
  have h9 := hide (okI r s a d b)
  generalize okM r s a d b = ok at *
  clear hd hb
  go_enter Try.func3, Try.ntmps3
  go_wp2_with fail
  refine (unhide h6 _).mono ?_
  rintro e w1 ⟨⟨z, rfl, hz⟩, b1⟩
  clear hz
  have MC1 := hide ((unhide MC0).below b1)
  have B1 := hide ((unhide B0).trans (b1.mono (unhide B0).size))
  clear b1 MC0 B0
  obtain ⟨_, c0, c1, c2, c3, c4⟩ := unhide MC1
  by_cases h : z < 0
  · go_wp2
    go_ret
    exact ⟨rfl, unhide B1⟩
  · go_wp2_with fail
    refine (to8 r s a d b w1).mono ?_
    rintro e w2 ⟨rfl, b2⟩
    have MC2 := hide ((unhide MC1).below b2)
    have B2 := hide ((unhide B1).trans (b2.mono (unhide B1).size))
    clear b2 MC1 B1 c0 c1 c2 c3 c4
    go_wp2_with fail
    refine (unhide h7 w2).mono ?_
    rintro e w3 ⟨rfl, b3⟩
    have MC3 := hide ((unhide MC2).below b3)
    have B3 := hide ((unhide B2).trans (b3.mono (unhide B2).size))
    clear b3 MC2 B2
    obtain ⟨_, c0, c1, c2, c3, c4⟩ := unhide MC3
    go_wp2_with fail
    refine (to8 r s a d b w3).mono ?_
    rintro e w4 ⟨rfl, b4⟩
    have B4 := hide ((unhide B3).trans (b4.mono (unhide B3).size))
    clear b4 MC3 B3 c0 c1 c2 c3 c4
    go_wp2_with fail
    refine (unhide h9 w4).mono ?_
    rintro e w5 ⟨rfl, b5⟩
    have B5 := hide ((unhide B4).trans (b5.mono (unhide B4).size))
    clear b5 B4
    go_wp2
    go_ret
    exact ⟨rfl, unhide B5⟩
theorem law_ok_at (w : World) (r s a : Int) (d b : ByteArray) (hd : d.size ≤ maxLen) (hb : b.size ≤ maxLen) :
    Calls Try.prog 3 #[msgV r s a d b] w fun e w' => e = .returned (.bool true) ∧ Below w.heap.size w w' := lawOk r s a d b hd hb w
end Go.Proofs.Ytgdohkemamlnhaa
