/- The law of ExchangeDrops. -/
import Derived.Test.YtggiijlgdpkkfaaExs
import Derived.Test.YtggiijlgdpkkfaaHst
namespace Go.Proofs.Ytggiijlgdpkkfaa
open Go.RowKit
set_option maxHeartbeats 4000000
set_option maxRecDepth 20000
theorem law_exch (w : World) (v : Value) (ps : List Acs) (hv : acsV w v ps) (hl : ps.length ≤ maxLen) (hs : ∀ p ∈ ps, p.1.size ≤ maxLen ∧ p.2.size ≤ maxLen) :
    Calls Try.prog 6 #[v] w fun e w' => e = .returned (.bool true) ∧ Below w.heap.size w w' := by
  have HV := hide hv
  have KS := hide (sz19 v ps w hv hl hs)
  have HTO : Hid (ps.length ≤ 1048576 → ∀ u W, acsV W u ps → Calls Try.prog 20 #[u] W fun e w' => ∃ r, e = .returned r ∧ ownA W.heap.size w'.heap.size w' r ps ∧ Below W.heap.size W w') := hide fun hn u W hu => to20 u ps W hu (by omega)
  have HSP : Hid (ps.length ≤ 1048576 → ∀ u W, acsV W u ps → Calls Try.prog 13 #[u] W fun e w' => outE W ps e w') := hide fun hn u W hu => exch13 u ps W hu hn
  have HIM : Hid (ps.length ≤ 1048576 → ∀ u W, acsV W u ps → Calls Try.prog 12 #[u] W fun e w' => outE W ps e w') := hide fun hn u W hu => exch12 u ps W hu hn
  have HEX : Hid (ps.length ≤ 1048576 → ∀ u u' W, acsV W u ps → acsV W u' ps → Calls Try.prog 21 #[u, u'] W fun e w' => e = .returned (.bool true) ∧ Below W.heap.size W w') := hide fun hn u u' W hu hu' => eq21 u u' ps W hu hu' (by omega)
  have HMX : Hid (ps.length ≤ 1048576 → ∀ lo hi u W, ownA lo hi W u ps → Calls Try.prog 22 #[u, .int .i64 1] W fun e w' => e = .returned (.int .i64 (1 + (ps.length : Int) * 2)) ∧ ownA lo hi w' u (marksA ps.length) ∧ TouchS u W w') := hide fun hn lo hi u W hu => mark22 lo hi u ps W hu (by omega)
  have HLN := hide (exR_len ps)
  obtain ⟨A, cap, rfl, hc⟩ := hv
  clear hc hl hs
  unfold outE at HSP HIM
  generalize exR ps = ys at *
  generalize acC ps = C at *
  have HEY : Hid (∀ u u' W, strsV W u ys → strsV W u' ys → Calls Try.prog 18 #[u, u'] W fun e w' => e = .returned (.bool true) ∧ ∃ k, w' = W.drewN k) := hide fun u u' W hu hu' => eq33 u u' ys W hu hu' (by have := unhide HLN; omega)
  have HMY : Hid (∀ lo hi u W, ownS lo hi W u ys → Calls Try.prog 23 #[u, .int .i64 1] W fun e w' => e = .returned (.int .i64 (1 + (ys.length : Int))) ∧ ownS lo hi w' u (marksS ys.length) ∧ TouchS u W w') := hide fun lo hi u W hu => mark34 lo hi u ys W hu (by have := unhide HLN; omega)
  have HHY : Hid (∀ u W, strsV W u (marksS ys.length) → Calls Try.prog 24 #[u, .int .i64 1] W fun e w' => e = .returned (.int .i64 (1 + (ys.length : Int))) ∧ Below W.heap.size W w') := hide fun u W hu => held36 u ys.length W hu (by have := unhide HLN; omega)
  have y0 : (0 : Int) ≤ (ys.length : Int) := by omega
  have p0 : (0 : Int) ≤ (ps.length : Int) := by omega
  go_enter Try.func6, Try.ntmps6
  go_wp2_with fail
  refine (unhide KS).mono ?_
  rintro e w1 ⟨z, rfl, hz, b1⟩
  have B1 := hide b1
  have S1 := hide b1.size
  clear KS b1
  by_cases h0 : z < 0
  · clear hz
    go_wp2
    go_ret
    exact ⟨rfl, unhide B1⟩
  have hz2 := hz.resolve_left h0
  have HN := hide hz2.2.2
  have h1 : 0 ≤ z := by omega
  clear hz h0 hz2
  go_wp2_with fail
  refine (unhide HTO (unhide HN) _ w1 ((unhide HV).below (unhide B1))).mono ?_
  rintro e w2 ⟨u1, rfl, o2, b2⟩
  have U2 := hide o2
  clear o2
  have B_1 := hide (bl_st b2 (unhide B1))
  have Z2 := hide b2.size
  clear B1
  clear b2
  go_wp2_with fail
  refine (unhide HSP (unhide HN) _ w2 (unhide U2).acs).mono ?_
  rintro e w3 ⟨r3, rfl, o3, b3⟩
  clear U2
  have B_3 := hide (bl_st b3 (unhide B_1))
  have Z4 := hide b3.size
  clear B_1
  have OW0 := hide o3
  clear o3 b3
  go_wp2_with fail
  refine (unhide HTO (unhide HN) _ w3 ((unhide HV).below (unhide B_3))).mono ?_
  rintro e w4 ⟨x, rfl, o4, b4⟩
  have B_5 := hide (bl_st b4 (unhide B_3))
  have OW_6 := hide ((unhide OW0).below b4)
  have Z7 := hide b4.size
  clear B_3 OW0
  have OX0 := hide o4
  clear o4 b4
  go_wp2_with fail
  refine (unhide HIM (unhide HN) _ w4 (unhide OX0).acs).mono ?_
  rintro e w5 ⟨g, rfl, o5, b5⟩
  have B_8 := hide (bl_st b5 (unhide B_5))
  have OW_9 := hide ((unhide OW_6).below b5)
  have OX_10 := hide ((unhide OX0).below b5)
  have Z11 := hide b5.size
  clear B_5 OW_6 OX0
  have OG0 := hide o5
  clear o5 b5
  go_wp2_with fail
  refine (unhide HEY _ _ w5 (unhide OG0).strs (unhide OW_9).strs).mono ?_
  rintro e w6 ⟨rfl, kw6, hw6⟩
  have bw6 : Below w5.heap.size w5 w6 := by rw [hw6]; exact below_drewN (Below.refl _ _) kw6
  clear hw6
  have B_12 := hide (bl_st bw6 (unhide B_8))
  have OW_13 := hide ((unhide OW_9).below bw6)
  have OX_14 := hide ((unhide OX_10).below bw6)
  have OG_15 := hide ((unhide OG0).below bw6)
  have Z16 := hide bw6.size
  clear B_8 OW_9 OX_10 OG0
  clear bw6
  go_wp2_with fail
  refine (unhide HTO (unhide HN) _ w6 ((unhide HV).below (unhide B_12))).mono ?_
  rintro e w7 ⟨u7, rfl, o7, b7⟩
  have B_17 := hide (bl_st b7 (unhide B_12))
  have OW_18 := hide ((unhide OW_13).below b7)
  have OX_19 := hide ((unhide OX_14).below b7)
  have OG_20 := hide ((unhide OG_15).below b7)
  have Z21 := hide b7.size
  clear B_12 OW_13 OX_14 OG_15
  have U7 := hide o7.acs
  clear o7 b7
  go_wp2_with fail
  refine (unhide HEX (unhide HN) _ _ w7 (unhide OX_19).acs (unhide U7)).mono ?_
  rintro e w8 ⟨rfl, b8⟩
  clear U7
  have B_22 := hide (bl_st b8 (unhide B_17))
  have OW_23 := hide ((unhide OW_18).below b8)
  have OX_24 := hide ((unhide OX_19).below b8)
  have OG_25 := hide ((unhide OG_20).below b8)
  have Z26 := hide b8.size
  clear B_17 OW_18 OX_19 OG_20
  clear b8
  go_wp2_with fail
  refine (unhide HMX (unhide HN) _ _ _ w8 (unhide OX_24)).mono ?_
  rintro e w9 ⟨rfl, o9, t9⟩
  have LX := hide (unhide OX_24).lies
  clear OX_24 o9
  have B_27 := hide (belowS (unhide B_22) t9 (unhide LX) (by have := unhide S1; have := unhide Z2; have := unhide Z4; have := unhide Z7; have := unhide Z11; have := unhide Z16; have := unhide Z21; have := unhide Z26; omega) (by have := unhide S1; have := unhide Z2; have := unhide Z4; have := unhide Z7; have := unhide Z11; have := unhide Z16; have := unhide Z21; have := unhide Z26; omega))
  have OW_28 := hide ((unhide OW_23).touchS t9 (unhide LX) (by have := unhide S1; have := unhide Z2; have := unhide Z4; have := unhide Z7; have := unhide Z11; have := unhide Z16; have := unhide Z21; have := unhide Z26; omega))
  have OG_29 := hide ((unhide OG_25).touchS t9 (unhide LX) (by have := unhide S1; have := unhide Z2; have := unhide Z4; have := unhide Z7; have := unhide Z11; have := unhide Z16; have := unhide Z21; have := unhide Z26; omega))
  have Z30 := hide t9.size
  clear B_22 OW_23 OG_25
  clear t9 LX
  go_wp2_with fail
  refine (unhide HEY _ _ w9 (unhide OG_29).strs (unhide OW_28).strs).mono ?_
  rintro e w10 ⟨rfl, kw10, hw10⟩
  have bw10 : Below w9.heap.size w9 w10 := by rw [hw10]; exact below_drewN (Below.refl _ _) kw10
  clear hw10
  have B_31 := hide (bl_st bw10 (unhide B_27))
  have OW_32 := hide ((unhide OW_28).below bw10)
  have OG_33 := hide ((unhide OG_29).below bw10)
  have Z34 := hide bw10.size
  clear B_27 OW_28 OG_29
  clear bw10
  go_wp2_with fail
  refine (unhide HMY _ _ _ w10 (unhide OG_33)).mono ?_
  rintro e w11 ⟨rfl, o11, t11⟩
  have LG := hide (unhide OG_33).lies
  clear OG_33
  have B_35 := hide (belowS (unhide B_31) t11 (unhide LG) (by have := unhide S1; have := unhide Z2; have := unhide Z4; have := unhide Z7; have := unhide Z11; have := unhide Z16; have := unhide Z21; have := unhide Z26; have := unhide Z30; have := unhide Z34; omega) (by have := unhide S1; have := unhide Z2; have := unhide Z4; have := unhide Z7; have := unhide Z11; have := unhide Z16; have := unhide Z21; have := unhide Z26; have := unhide Z30; have := unhide Z34; omega))
  have OW_36 := hide ((unhide OW_32).touchS t11 (unhide LG) (by have := unhide S1; have := unhide Z2; have := unhide Z4; have := unhide Z7; have := unhide Z11; have := unhide Z16; have := unhide Z21; have := unhide Z26; have := unhide Z30; have := unhide Z34; omega))
  have Z37 := hide t11.size
  clear B_31 OW_32
  have OG1 := hide o11
  clear o11 t11 LG
  go_wp2_with fail
  refine (unhide HHY _ w11 (unhide OG1).strs).mono ?_
  rintro e w12 ⟨rfl, b12⟩
  have B_38 := hide (bl_st b12 (unhide B_35))
  have OW_39 := hide ((unhide OW_36).below b12)
  have OG_40 := hide ((unhide OG1).below b12)
  have Z41 := hide b12.size
  clear B_35 OW_36 OG1
  clear b12
  go_wp2_with fail
  refine (unhide HTO (unhide HN) _ w12 ((unhide HV).below (unhide B_38))).mono ?_
  rintro e w13 ⟨u13, rfl, o13, b13⟩
  have B_42 := hide (bl_st b13 (unhide B_38))
  have OW_43 := hide ((unhide OW_39).below b13)
  have OG_44 := hide ((unhide OG_40).below b13)
  have Z45 := hide b13.size
  clear B_38 OW_39 OG_40
  have U13 := hide o13.acs
  clear o13 b13
  go_wp2_with fail
  refine (unhide HIM (unhide HN) _ w13 (unhide U13)).mono ?_
  rintro e w14 ⟨g2, rfl, o14, b14⟩
  clear U13
  have B_46 := hide (bl_st b14 (unhide B_42))
  have OW_47 := hide ((unhide OW_43).below b14)
  have OG_48 := hide ((unhide OG_44).below b14)
  have Z49 := hide b14.size
  clear B_42 OW_43 OG_44
  have OH0 := hide o14
  clear o14 b14
  go_wp2_with fail
  refine (unhide HEY _ _ w14 (unhide OH0).strs (unhide OW_47).strs).mono ?_
  rintro e w15 ⟨rfl, kw15, hw15⟩
  have bw15 : Below w14.heap.size w14 w15 := by rw [hw15]; exact below_drewN (Below.refl _ _) kw15
  clear hw15
  have B_50 := hide (bl_st bw15 (unhide B_46))
  have OW_51 := hide ((unhide OW_47).below bw15)
  have OG_52 := hide ((unhide OG_48).below bw15)
  have OH_53 := hide ((unhide OH0).below bw15)
  have Z54 := hide bw15.size
  clear B_46 OW_47 OG_48 OH0
  clear bw15
  go_wp2_with fail
  refine (unhide HHY _ w15 (unhide OG_52).strs).mono ?_
  rintro e w16 ⟨rfl, b16⟩
  have B_55 := hide (bl_st b16 (unhide B_50))
  have OW_56 := hide ((unhide OW_51).below b16)
  have OG_57 := hide ((unhide OG_52).below b16)
  have OH_58 := hide ((unhide OH_53).below b16)
  have Z59 := hide b16.size
  clear B_50 OW_51 OG_52 OH_53
  clear b16
  go_wp2
  go_ret
  exact ⟨rfl, unhide B_55⟩
end Go.Proofs.Ytggiijlgdpkkfaa
