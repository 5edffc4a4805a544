/- The law of BoardFind, walked. -/
import Derived.Test.YtgjkflhpnppkbaaFnd
namespace Go.Proofs.Ytgjkflhpnppkbaa
open Go.RowKit
set_option maxHeartbeats 4000000
set_option maxRecDepth 20000
theorem law_fi_at (w : World) (v : Value) (ps : List Pst) (hv : postsV w v ps) (hl : ps.length ≤ maxLen) (hs : ∀ p ∈ ps, p.2.2.size ≤ maxLen) (ro la : Int) :
    Calls Try.prog 5 #[v, .int .i64 ro, .int .i64 la] w fun e w' => e = .returned (.bool true) ∧ Below w.heap.size w w' := by
  have h6 := hide (sz6 v ps w hv hl hs)
  have HV := hide hv
  obtain ⟨A, cap, rfl, _⟩ := hv
  clear hl hs
  have HTO : Hid (ps.length ≤ 1048576 → ∀ u W, postsV W u ps → Calls Try.prog 8 #[u] W fun e w' => ∃ r, e = .returned r ∧ ownP W.heap.size w'.heap.size w' r ps ∧ Below W.heap.size W w') := hide fun hn u W hu => to8 u ps W hu (by omega)
  have HSP : Hid (ps.length ≤ 1048576 → ∀ u W, postsV W u ps → Calls Try.prog 17 #[u, .int .i64 ro, .int .i64 la] W fun e w' => e = .returned (.tuple #[.string (fR ps ro la).1, .int .i64 (fR ps ro la).2]) ∧ Below W.heap.size W w') := hide fun hn u W hu => fi17 u ps ro la W hu (by omega)
  have HIM : Hid (ps.length ≤ 1048576 → ∀ u W, postsV W u ps → Calls Try.prog 18 #[u, .int .i64 ro, .int .i64 la] W fun e w' => e = .returned (.tuple #[.string (fR ps ro la).1, .int .i64 (fR ps ro la).2]) ∧ Below W.heap.size W w') := hide fun hn u W hu => fi18 u ps ro la W hu (by omega)
  generalize fR ps ro la = rr at *
  obtain ⟨rs, rcode⟩ := rr
  dsimp only at *
  go_enter Try.func5, Try.ntmps5
  go_wp2_with fail
  refine (unhide h6).mono ?_
  rintro e w1 ⟨z, rfl, hz, b1⟩
  have B1 := hide b1
  have HZ := hide hz
  clear hz b1 h6
  by_cases hneg : z < 0
  · go_wp2
    go_ret
    exact ⟨rfl, unhide B1⟩
  have HN := hide (Or.resolve_left (unhide HZ) hneg).2.2
  have hge : 0 ≤ z := by omega
  clear hneg
  go_wp2_with fail
  refine (unhide HTO (unhide HN) _ w1 ((unhide HV).below (unhide B1))).mono ?_
  rintro e w2 ⟨u1, rfl, o2, b2⟩
  have B2 := hide (bl_st b2 (unhide B1))
  have U2 := hide o2.posts
  clear o2 b2 B1
  go_wp2_with fail
  refine (unhide HSP (unhide HN) _ w2 (unhide U2)).mono ?_
  rintro e w3 ⟨rfl, b3⟩
  have B3 := hide (bl_st b3 (unhide B2))
  clear b3 B2 U2
  go_wp2_with fail
  refine (unhide HTO (unhide HN) _ w3 ((unhide HV).below (unhide B3))).mono ?_
  rintro e w4 ⟨u, rfl, o4, b4⟩
  have B4 := hide (bl_st b4 (unhide B3))
  have U4 := hide o4.posts
  clear o4 b4 B3
  go_wp2_with fail
  refine (unhide HIM (unhide HN) _ w4 (unhide U4)).mono ?_
  rintro e w5 ⟨rfl, b5⟩
  have B5 := hide (bl_st b5 (unhide B4))
  have U5 := hide ((unhide U4).below b5)
  clear b5 B4 U4
  go_wp2_with fail
  refine (unhide HTO (unhide HN) _ w5 ((unhide HV).below (unhide B5))).mono ?_
  rintro e w6 ⟨u6, rfl, o6, b6⟩
  have B6 := hide (bl_st b6 (unhide B5))
  have U6 := hide ((unhide U5).below b6)
  have V6 := hide o6.posts
  clear o6 b6 B5 U5
  go_wp2_with fail
  refine (eq10 _ _ ps w6 (unhide U6) (unhide V6) (by have := unhide HN; omega)).mono ?_
  rintro e w7 ⟨rfl, b7⟩
  have B7 := hide (bl_st b7 (unhide B6))
  clear b7 B6
  go_wp2
  go_ret
  exact ⟨rfl, unhide B7⟩
end Go.Proofs.Ytgjkflhpnppkbaa
