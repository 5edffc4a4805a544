/- The law of PermOf, walked. -/
import Derived.Test.YtfodcnnaeakhfaaPrs
import Derived.Test.YtfodcnnaeakhfaaMki
namespace Go.Proofs.Ytfodcnnaeakhfaa
open Go.RowKit
set_option maxHeartbeats 4000000
set_option maxRecDepth 20000
theorem pmR_len (cs : List Int) : (pmR cs).1.length ≤ 16 := by
  rcases chC_cases cs with ⟨_, hg⟩ | ⟨_, _, hg⟩ | ⟨_, _, hg⟩ | ⟨hl, _, hg⟩
  iterate 3 (· rw [pmR_code hg (by omega)]; simp)
  · rw [pmR_ok hg, pOf_len]; omega
theorem law_perm (w : World) (v : Value) (xs : List Int) (hv : intsV w v xs) (hl : xs.length ≤ maxLen) :
    Calls Try.prog 5 #[v] w fun e w' => e = .returned (.bool true) ∧ Below w.heap.size w w' := by
  have HV := hide hv
  obtain ⟨A, cap, rfl, hc⟩ := hv
  clear hc
  unfold maxLen at hl
  have n0 : (0 : Int) ≤ (xs.length : Int) := by omega
  have n1 : (xs.length : Int) ≤ 9223372036854775807 := by omega
  by_cases h1 : 1048576 < xs.length
  · have q : (1048576 : Int) < (xs.length : Int) := by omega
    clear h1 hl HV
    go_enter Try.func5, Try.ntmps5
    go_wp2
    go_ret
    exact ⟨rfl, Below.refl _ _⟩
  have q : (xs.length : Int) ≤ 1048576 := by omega
  have HN := hide (show xs.length ≤ 1048576 by omega)
  clear h1 hl
  have HTO : Hid (∀ u W, intsV W u xs → Calls Try.prog 19 #[u] W fun e w' => ∃ r, e = .returned r ∧ ownI W.heap.size w'.heap.size w' r xs ∧ Below W.heap.size W w') := hide fun u W hu => to6 u xs W hu (by have := unhide HN; omega)
  have HSP : Hid (∀ u W, intsV W u xs → Calls Try.prog 11 #[u] W fun e w' => outI W (pmR xs).1 (pmR xs).2 e w') := hide fun u W hu => perm11 u xs W hu (unhide HN)
  have HIM : Hid (∀ u W, intsV W u xs → Calls Try.prog 10 #[u] W fun e w' => outI W (pmR xs).1 (pmR xs).2 e w') := hide fun u W hu => perm10 u xs W hu (unhide HN)
  have HLN := hide (pmR_len xs)
  generalize pmR xs = rr at *
  obtain ⟨ys, c⟩ := rr
  dsimp only at *
  have HEX : Hid (∀ u u' W, intsV W u xs → intsV W u' xs → Calls Try.prog 20 #[u, u'] W fun e w' => e = .returned (.bool true) ∧ ∃ k, w' = W.drewN k) := hide fun u u' W hu hu' => eq8 u u' xs W hu hu' (by have := unhide HN; omega)
  have HEY : Hid (∀ u u' W, intsV W u ys → intsV W u' ys → Calls Try.prog 20 #[u, u'] W fun e w' => e = .returned (.bool true) ∧ ∃ k, w' = W.drewN k) := hide fun u u' W hu hu' => eq8 u u' ys W hu hu' (by have := unhide HLN; omega)
  have HMX : Hid (∀ lo hi u W, ownI lo hi W u xs → Calls Try.prog 21 #[u, .int .i64 1] W fun e w' => e = .returned (.int .i64 (1 + (xs.length : Int))) ∧ ownI lo hi w' u (marksI 1 xs.length) ∧ TouchS u W w') := hide fun lo hi u W hu => mark21 lo hi u xs 1 W hu (by have := unhide HN; omega) (by omega)
  have HMY : Hid (∀ lo hi u W, ownI lo hi W u ys → Calls Try.prog 21 #[u, .int .i64 1] W fun e w' => e = .returned (.int .i64 (1 + (ys.length : Int))) ∧ ownI lo hi w' u (marksI 1 ys.length) ∧ TouchS u W w') := hide fun lo hi u W hu => mark21 lo hi u ys 1 W hu (by have := unhide HLN; omega) (by omega)
  have HHY : Hid (∀ u W, intsV W u (marksI 1 ys.length) → Calls Try.prog 22 #[u, .int .i64 1] W fun e w' => e = .returned (.int .i64 (1 + (ys.length : Int))) ∧ w' = W) := hide fun u W hu => held22 u 1 ys.length W hu (by have := unhide HLN; omega) (by omega)
  have y0 : (0 : Int) ≤ (ys.length : Int) := by omega
  go_enter Try.func5, Try.ntmps5
  go_wp2_with fail
  refine (unhide HTO _ w (unhide HV)).mono ?_
  rintro e w2 ⟨u1, rfl, o2, b2⟩
  have B2 := hide b2
  have U2 := hide o2.ints
  have Z2 := hide b2.size
  clear o2 b2
  go_wp2_with fail
  refine (unhide HSP _ w2 (unhide U2)).mono ?_
  rintro e w3 ⟨r3, rfl, o3, b3⟩
  have B3 := hide (bl_st b3 (unhide B2))
  have W3 := hide o3
  have Z3 := hide b3.size
  clear U2 b3 o3 B2
  go_wp2_with fail
  refine (unhide HTO _ w3 ((unhide HV).below (unhide B3))).mono ?_
  rintro e w4 ⟨u, rfl, o4, b4⟩
  have B4 := hide (bl_st b4 (unhide B3))
  have X4 := hide o4
  have W4 := hide ((unhide W3).below b4)
  have Z4 := hide b4.size
  clear o4 b4 B3 W3
  go_wp2_with fail
  refine (unhide HIM _ w4 (unhide X4).ints).mono ?_
  rintro e w5 ⟨r5, rfl, o5, b5⟩
  have B5 := hide (bl_st b5 (unhide B4))
  have X5 := hide ((unhide X4).below b5)
  have W5 := hide ((unhide W4).below b5)
  have G5 := hide o5
  have Z5 := hide b5.size
  clear b5 B4 X4 W4 o5
  go_wp2_with fail
  refine (unhide HEY _ _ w5 (unhide G5).ints (unhide W5).ints).mono ?_
  rintro e w6 ⟨rfl, k6, hw6⟩
  have b6 : Below w5.heap.size w5 w6 := by rw [hw6]; exact below_drewN (Below.refl _ _) k6
  have B6 := hide (bl_st b6 (unhide B5))
  have X6 := hide ((unhide X5).below b6)
  have W6 := hide ((unhide W5).below b6)
  have G6 := hide ((unhide G5).below b6)
  have Z6 := hide b6.size
  clear b6 B5 X5 W5 G5 hw6
  go_wp2_with fail
  refine (unhide HTO _ w6 ((unhide HV).below (unhide B6))).mono ?_
  rintro e w7 ⟨u7, rfl, o7, b7⟩
  have B7 := hide (bl_st b7 (unhide B6))
  have X7 := hide ((unhide X6).below b7)
  have W7 := hide ((unhide W6).below b7)
  have G7 := hide ((unhide G6).below b7)
  have U7 := hide o7.ints
  have Z7 := hide b7.size
  clear b7 B6 X6 W6 G6 o7
  go_wp2_with fail
  refine (unhide HEX _ _ w7 (unhide X7).ints (unhide U7)).mono ?_
  rintro e w8 ⟨rfl, k8, hw8⟩
  have b8 : Below w7.heap.size w7 w8 := by rw [hw8]; exact below_drewN (Below.refl _ _) k8
  have B8 := hide (bl_st b8 (unhide B7))
  have X8 := hide ((unhide X7).below b8)
  have W8 := hide ((unhide W7).below b8)
  have G8 := hide ((unhide G7).below b8)
  have Z8 := hide b8.size
  clear b8 B7 X7 W7 G7 U7 hw8
  go_wp2_with fail
  refine (unhide HMX _ _ _ w8 (unhide X8)).mono ?_
  rintro e w9 ⟨rfl, _, t9⟩
  have B9 := hide (belowS (unhide B8) t9 (unhide X8).lies (by have := unhide Z2; have := unhide Z3; omega) (unhide B8).size)
  have W9 := hide ((unhide W8).touchS t9 fun g h1 h2 => by have := (unhide W8).lies g h1; have := (unhide X8).lies g h2; omega)
  have G9 := hide ((unhide G8).touchS t9 fun g h1 h2 => by have := (unhide G8).lies g h1; have := (unhide X8).lies g h2; omega)
  have Z9 := hide t9.size
  clear t9 B8 X8 W8 G8
  go_wp2_with fail
  refine (unhide HEY _ _ w9 (unhide G9).ints (unhide W9).ints).mono ?_
  rintro e w10 ⟨rfl, k10, hw10⟩
  have b10 : Below w9.heap.size w9 w10 := by rw [hw10]; exact below_drewN (Below.refl _ _) k10
  have B10 := hide (bl_st b10 (unhide B9))
  have W10 := hide ((unhide W9).below b10)
  have G10 := hide ((unhide G9).below b10)
  have Z10 := hide b10.size
  clear b10 B9 W9 G9 hw10
  go_wp2_with fail
  refine (unhide HMY _ _ _ w10 (unhide G10)).mono ?_
  rintro e w11 ⟨rfl, o11, t11⟩
  have B11 := hide (belowS (unhide B10) t11 (unhide G10).lies (by have := unhide Z2; have := unhide Z3; have := unhide Z4; omega) (unhide B10).size)
  have W11 := hide ((unhide W10).touchS t11 fun g h1 h2 => by have := (unhide W10).lies g h1; have := (unhide G10).lies g h2; have := unhide Z4; omega)
  have G11 := hide o11
  clear t11 o11 B10 W10 G10
  go_wp2_with fail
  refine (unhide HHY _ w11 (unhide G11).ints).mono ?_
  rintro e w12 ⟨rfl, hw12⟩
  have hw13 := hw12.symm
  subst hw13
  go_wp2_with fail
  refine (unhide HTO _ w11 ((unhide HV).below (unhide B11))).mono ?_
  rintro e w14 ⟨u14, rfl, o14, b14⟩
  have B14 := hide (bl_st b14 (unhide B11))
  have W14 := hide ((unhide W11).below b14)
  have G14 := hide ((unhide G11).below b14)
  have U14 := hide o14.ints
  clear b14 B11 W11 G11 o14
  go_wp2_with fail
  refine (unhide HIM _ w14 (unhide U14)).mono ?_
  rintro e w15 ⟨r15, rfl, o15, b15⟩
  have B15 := hide (bl_st b15 (unhide B14))
  have W15 := hide ((unhide W14).below b15)
  have G15 := hide ((unhide G14).below b15)
  have H15 := hide o15.ints
  clear b15 B14 W14 G14 o15 U14
  go_wp2_with fail
  refine (unhide HEY _ _ w15 (unhide H15) (unhide W15).ints).mono ?_
  rintro e w16 ⟨rfl, k16, hw16⟩
  have b16 : Below w15.heap.size w15 w16 := by rw [hw16]; exact below_drewN (Below.refl _ _) k16
  have B16 := hide (bl_st b16 (unhide B15))
  have G16 := hide ((unhide G15).below b16)
  clear b16 B15 W15 G15 H15 hw16
  go_wp2_with fail
  refine (unhide HHY _ w16 (unhide G16).ints).mono ?_
  rintro e w17 ⟨rfl, hw17⟩
  have hw18 := hw17.symm
  subst hw18
  go_wp2
  go_ret
  exact ⟨rfl, unhide B16⟩
end Go.Proofs.Ytfodcnnaeakhfaa
