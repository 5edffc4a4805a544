/- The law of NewBloom, walked. -/
import Derived.Test.YthckgccfjpgbaaaNes
import Derived.Test.YthckgccfjpgbaaaLad
namespace Go.Proofs.Ythckgccfjpgbaaa
open Go.RowKit
set_option maxHeartbeats 4000000
set_option maxRecDepth 20000
theorem newR_len (p wd : Int) (ss : List Slt) : (newR p wd ss).1.s.length ≤ 4 ∧ (newR p wd ss).1.b.length ≤ 256 := by
  unfold newR
  split
  · exact ⟨Nat.zero_le _, Nat.zero_le _⟩
  · split
    · rename_i h
      rw [Bool.and_eq_true] at h
      have h1 := shapeB_in h.1
      have h2 := saltsB_len h.2
      refine ⟨h2.2, ?_⟩
      show (List.replicate _ _).length ≤ 256
      rw [List.length_replicate]
      have : ss.length * wd.toNat ≤ 4 * 64 := Nat.mul_le_mul h2.2 (by omega)
      omega
    · exact ⟨Nat.zero_le _, Nat.zero_le _⟩
theorem law_new (w : World) (p wd : Int) (v : Value) (ss : List Slt) (hv : saltsV w v ss) (hl : ss.length ≤ maxLen) :
    Calls Try.prog 6 #[.int .i64 p, .int .i64 wd, v] w fun e w' => e = .returned (.bool true) ∧ Below w.heap.size w w' := by
  have h6 := hide (sz28 v ss 1048576 w hv hl (by omega) (by omega))
  have HV := hide hv
  have HTO : Hid (ss.length ≤ 1048576 → ∀ W, saltsV W v ss → Calls Try.prog 30 #[v] W fun e w' => ∃ r, e = .returned r ∧ ownA W.heap.size w'.heap.size w' r ss ∧ Below W.heap.size W w') := hide fun hn W hu => to30 _ ss W hu (by omega)
  have HSP : Hid (ss.length ≤ 1048576 → ∀ u W, saltsV W u ss → Calls Try.prog 29 #[.int .i64 p, .int .i64 wd, u] W fun e w' => outX W (newR p wd ss).1 (newR p wd ss).2 e w') := hide fun hn u W hu => new29 p wd u ss W hu (by omega)
  have HIM : Hid (ss.length ≤ 1048576 → ∀ u W, saltsV W u ss → Calls Try.prog 14 #[.int .i64 p, .int .i64 wd, u] W fun e w' => outX W (newR p wd ss).1 (newR p wd ss).2 e w') := hide fun hn u W hu => new14 p wd u ss W hu (by omega)
  have HEQ : Hid (ss.length ≤ 1048576 → ∀ u u' W, saltsV W u ss → saltsV W u' ss → Calls Try.prog 32 #[u, u'] W fun e w' => e = .returned (.bool true) ∧ Below W.heap.size W w') := hide fun hn u u' W hu hu' => eq32 u u' ss W hu hu' (by omega)
  have HMX : Hid (ss.length ≤ 1048576 → ∃ k : Int, 0 ≤ k ∧ ∀ lo hi u W, ownA lo hi W u ss → Calls Try.prog 33 #[u, .int .i64 1] W fun e w' => e = .returned (.int .i64 k) ∧ ownA lo hi w' u (marksA 1 ss.length) ∧ TouchS u W w') := hide fun hn => ⟨1 + (ss.length : Int) * 2, by omega, fun lo hi u W hu => mark33 lo hi u ss 1 W hu (by omega) (by omega)⟩
  have hlen := newR_len p wd ss
  generalize newR p wd ss = rr at *
  obtain ⟨y, c⟩ := rr
  dsimp only at *
  have HEY : Hid (∀ u u' W, blmV W u y → blmV W u' y → Calls Try.prog 31 #[u, u'] W fun e w' => e = .returned (.bool true) ∧ Below W.heap.size W w') := hide fun u u' W hu hu' => eq31 u u' y W hu hu' (by omega) (by omega)
  obtain ⟨km, hkm⟩ : ∃ k : Nat, k = 1 + y.s.length * 2 + y.b.length := ⟨_, rfl⟩
  have HMY : Hid (∀ lo hi u W, ownX lo hi W u y → hi ≤ W.heap.size → Calls Try.prog 34 #[u, .int .i64 1] W fun e w' => e = .returned (.int .i64 (km : Int)) ∧ ownX lo hi w' u (markX y 1) ∧ TouchR lo hi W w') := hide fun lo hi u W hu hh => by rw [hkm]; exact mark34 lo hi u y 1 W hu (by omega) (by omega) (by omega) hh
  have HHY : Hid (∀ u W, blmV W u (markX y 1) → Calls Try.prog 35 #[u, .int .i64 1] W fun e w' => e = .returned (.int .i64 (km : Int)) ∧ Below W.heap.size W w') := hide fun u W hu => by rw [hkm]; exact held35 u y 1 W hu (by omega) (by omega) (by omega)
  have k0 : (0 : Int) ≤ (km : Int) := Int.natCast_nonneg _
  clear hkm
  obtain ⟨A, ca, rfl⟩ := hv.slice
  have n0 : (0 : Int) ≤ (ss.length : Int) := by omega
  clear hl hv hlen
  by_cases hneg : (1048576 : Int) < (ss.length : Int)
  · rw [if_neg (by omega)] at h6
    go_enter Try.func6, Try.ntmps6
    go_wp2_with fail
    refine (unhide h6).mono ?_
    rintro e w1 ⟨rfl, rfl⟩
    go_wp2
    go_ret
    exact ⟨rfl, Below.refl _ _⟩
  rw [if_pos (by omega)] at h6
  have HN := hide (show ss.length ≤ 1048576 by omega)
  have hge : 0 ≤ (1048576 : Int) - (ss.length : Int) := by omega
  have HMX2 := hide (unhide HMX (unhide HN))
  clear HMX hneg
  generalize (1048576 : Int) - (ss.length : Int) = z at *
  have HB := hide (Below.refl w.heap.size w)
  go_enter Try.func6, Try.ntmps6
  go_wp2_with fail
  refine (unhide h6).mono ?_
  rintro e w1 ⟨rfl, hw⟩
  have hw' := hw.symm
  subst hw'
  clear hw h6
  go_wp2_with fail
  refine (unhide HTO (unhide HN) w (unhide HV)).mono ?_
  rintro e w2 ⟨u1, rfl, o2, b2⟩
  obtain ⟨A1, c1, rfl⟩ := o2.salts.slice
  have U2 := hide o2.salts
  clear o2
  have B_1 := hide (bl_st b2 (unhide HB))
  have Z2 := hide b2.size
  clear HB
  clear b2
  go_wp2_with fail
  refine (unhide HSP (unhide HN) _ w2 (unhide U2)).mono ?_
  rintro e w3 ⟨r3, rfl, o3, b3⟩
  obtain ⟨D3, D4, D5, D6, D7, D8, hre⟩ := o3.slices
  subst hre
  have B_9 := hide (bl_st b3 (unhide B_1))
  have Z10 := hide b3.size
  clear B_1
  have OW0 := hide o3
  clear o3 b3 U2
  have ba : Below w3.heap.size w3 (w3.alloc (.cells #[.int .i64 y.p, .int .i64 y.w, .slice D3 D4 D5, .slice D6 D7 D8] 26)) := bl_al (Below.refl _ _)
  have C12 := hide (bc_new w3 y.p y.w (.slice D3 D4 D5) (.slice D6 D7 D8) 26)
  have Z13 : Hid ((w3.alloc (.cells #[.int .i64 y.p, .int .i64 y.w, .slice D3 D4 D5, .slice D6 D7 D8] 26)).heap.size = w3.heap.size + 1) := hide (by simp)
  have B_14 := hide (bl_st ba (unhide B_9))
  have OW_15 := hide ((unhide OW0).below ba)
  have Z16 := hide ba.size
  clear B_9 OW0
  clear ba
  obtain ⟨_, c17, c18, c19, c20⟩ := unhide C12
  go_wp2_with fail
  generalize w3.alloc (.cells #[.int .i64 y.p, .int .i64 y.w, .slice D3 D4 D5, .slice D6 D7 D8] 26) = v11 at *
  refine (unhide HTO (unhide HN) v11 ((unhide HV).below (unhide B_14))).mono ?_
  rintro e w4 ⟨u, rfl, o4, b4⟩
  obtain ⟨A4, ca4, rfl⟩ := o4.salts.slice
  clear c17 c18 c19 c20
  have B_21 := hide (bl_st b4 (unhide B_14))
  have OW_22 := hide ((unhide OW_15).below b4)
  have WC_23 := hide ((unhide C12).below b4)
  have Z24 := hide b4.size
  clear B_14 OW_15 C12
  have OX0 := hide o4
  clear o4 b4
  go_wp2_with fail
  refine (unhide HIM (unhide HN) _ w4 (unhide OX0).salts).mono ?_
  rintro e w5 ⟨r5, rfl, o5, b5⟩
  obtain ⟨D25, D26, D27, D28, D29, D30, hre⟩ := o5.slices
  subst hre
  have B_31 := hide (bl_st b5 (unhide B_21))
  have OW_32 := hide ((unhide OW_22).below b5)
  have WC_33 := hide ((unhide WC_23).below b5)
  have OX_34 := hide ((unhide OX0).below b5)
  have Z35 := hide b5.size
  clear B_21 OW_22 WC_23 OX0
  have OG0 := hide o5
  clear o5 b5
  have ba : Below w5.heap.size w5 (w5.alloc (.cells #[.int .i64 y.p, .int .i64 y.w, .slice D25 D26 D27, .slice D28 D29 D30] 26)) := bl_al (Below.refl _ _)
  have C37 := hide (bc_new w5 y.p y.w (.slice D25 D26 D27) (.slice D28 D29 D30) 26)
  have Z38 : Hid ((w5.alloc (.cells #[.int .i64 y.p, .int .i64 y.w, .slice D25 D26 D27, .slice D28 D29 D30] 26)).heap.size = w5.heap.size + 1) := hide (by simp)
  have B_39 := hide (bl_st ba (unhide B_31))
  have OW_40 := hide ((unhide OW_32).below ba)
  have WC_41 := hide ((unhide WC_33).below ba)
  have OX_42 := hide ((unhide OX_34).below ba)
  have OG_43 := hide ((unhide OG0).below ba)
  have Z44 := hide ba.size
  clear B_31 OW_32 WC_33 OX_34 OG0
  clear ba
  obtain ⟨_, c45, c46, c47, c48⟩ := unhide C37
  obtain ⟨_, c49, c50, c51, c52⟩ := unhide WC_41
  go_wp2_with fail
  generalize w5.alloc (.cells #[.int .i64 y.p, .int .i64 y.w, .slice D25 D26 D27, .slice D28 D29 D30] 26) = v36 at *
  refine (unhide HEY _ _ v36 (unhide OG_43).blm (unhide OW_40).blm).mono ?_
  rintro e w6 ⟨rfl, b6⟩
  clear c45 c46 c47 c48 c49 c50 c51 c52
  have B_53 := hide (bl_st b6 (unhide B_39))
  have OW_54 := hide ((unhide OW_40).below b6)
  have WC_55 := hide ((unhide WC_41).below b6)
  have OX_56 := hide ((unhide OX_42).below b6)
  have OG_57 := hide ((unhide OG_43).below b6)
  have GC_58 := hide ((unhide C37).below b6)
  have Z59 := hide b6.size
  clear B_39 OW_40 WC_41 OX_42 OG_43 C37
  clear b6
  go_wp2_with fail
  refine (unhide HTO (unhide HN) w6 ((unhide HV).below (unhide B_53))).mono ?_
  rintro e w7 ⟨u7, rfl, o7, b7⟩
  have B_60 := hide (bl_st b7 (unhide B_53))
  have OW_61 := hide ((unhide OW_54).below b7)
  have WC_62 := hide ((unhide WC_55).below b7)
  have OX_63 := hide ((unhide OX_56).below b7)
  have OG_64 := hide ((unhide OG_57).below b7)
  have GC_65 := hide ((unhide GC_58).below b7)
  have Z66 := hide b7.size
  clear B_53 OW_54 WC_55 OX_56 OG_57 GC_58
  have V7 := hide o7.salts
  clear o7 b7
  go_wp2_with fail
  refine (unhide HEQ (unhide HN) _ _ w7 (unhide OX_63).salts (unhide V7)).mono ?_
  rintro e w8 ⟨rfl, b8⟩
  have B_67 := hide (bl_st b8 (unhide B_60))
  have OW_68 := hide ((unhide OW_61).below b8)
  have WC_69 := hide ((unhide WC_62).below b8)
  have OX_70 := hide ((unhide OX_63).below b8)
  have OG_71 := hide ((unhide OG_64).below b8)
  have GC_72 := hide ((unhide GC_65).below b8)
  have Z73 := hide b8.size
  clear B_60 OW_61 WC_62 OX_63 OG_64 GC_65
  clear b8 V7
  obtain ⟨kx, kx0, hmx⟩ := unhide HMX2
  have HMX3 := hide hmx
  clear HMX2 hmx
  go_wp2_with fail
  refine (unhide HMX3 _ _ _ w8 (unhide OX_70)).mono ?_
  rintro e w9 ⟨rfl, o9, t9⟩
  have t9' := TouchR.of_touch t9 (unhide OX_70).lies
  clear o9 t9
  have B_74 := hide (belowR (unhide B_67) t9' (by have := unhide Z2; have := unhide Z10; have := unhide Z16; have := unhide Z13; have := unhide Z24; have := unhide Z35; have := unhide Z44; have := unhide Z38; have := unhide Z59; have := unhide Z66; have := unhide Z73; omega) (by have := unhide Z2; have := unhide Z10; have := unhide Z16; have := unhide Z13; have := unhide Z24; have := unhide Z35; have := unhide Z44; have := unhide Z38; have := unhide Z59; have := unhide Z66; have := unhide Z73; omega))
  have OW_75 := hide ((unhide OW_68).touchR t9' (by have := unhide Z2; have := unhide Z10; have := unhide Z16; have := unhide Z13; have := unhide Z24; have := unhide Z35; have := unhide Z44; have := unhide Z38; have := unhide Z59; have := unhide Z66; have := unhide Z73; omega))
  have WC_76 := hide ((unhide WC_69).touchR t9' (by have := unhide Z2; have := unhide Z10; have := unhide Z16; have := unhide Z13; have := unhide Z24; have := unhide Z35; have := unhide Z44; have := unhide Z38; have := unhide Z59; have := unhide Z66; have := unhide Z73; omega))
  have OG_77 := hide ((unhide OG_71).touchR t9' (by have := unhide Z2; have := unhide Z10; have := unhide Z16; have := unhide Z13; have := unhide Z24; have := unhide Z35; have := unhide Z44; have := unhide Z38; have := unhide Z59; have := unhide Z66; have := unhide Z73; omega))
  have GC_78 := hide ((unhide GC_72).touchR t9' (by have := unhide Z2; have := unhide Z10; have := unhide Z16; have := unhide Z13; have := unhide Z24; have := unhide Z35; have := unhide Z44; have := unhide Z38; have := unhide Z59; have := unhide Z66; have := unhide Z73; omega))
  have Z79 := hide t9'.size
  clear B_67 OW_68 WC_69 OG_71 GC_72
  clear t9'
  obtain ⟨_, c80, c81, c82, c83⟩ := unhide GC_78
  obtain ⟨_, c84, c85, c86, c87⟩ := unhide WC_76
  go_wp2_with fail
  refine (unhide HEY _ _ w9 (unhide OG_77).blm (unhide OW_75).blm).mono ?_
  rintro e w10 ⟨rfl, b10⟩
  clear c80 c81 c82 c83 c84 c85 c86 c87
  have B_88 := hide (bl_st b10 (unhide B_74))
  have OW_89 := hide ((unhide OW_75).below b10)
  have WC_90 := hide ((unhide WC_76).below b10)
  have OG_91 := hide ((unhide OG_77).below b10)
  have GC_92 := hide ((unhide GC_78).below b10)
  have Z93 := hide b10.size
  clear B_74 OW_75 WC_76 OG_77 GC_78
  clear b10
  obtain ⟨_, c94, c95, c96, c97⟩ := unhide GC_92
  go_wp2_with fail
  refine (unhide HMY _ _ _ w10 (unhide OG_91) (by have := unhide Z2; have := unhide Z10; have := unhide Z16; have := unhide Z13; have := unhide Z24; have := unhide Z35; have := unhide Z44; have := unhide Z38; have := unhide Z59; have := unhide Z66; have := unhide Z73; have := unhide Z79; have := unhide Z93; omega)).mono ?_
  rintro e w11 ⟨rfl, o11, t11⟩
  clear c94 c95 c96 c97
  have B_98 := hide (belowR (unhide B_88) t11 (by have := unhide Z2; have := unhide Z10; have := unhide Z16; have := unhide Z13; have := unhide Z24; have := unhide Z35; have := unhide Z44; have := unhide Z38; have := unhide Z59; have := unhide Z66; have := unhide Z73; have := unhide Z79; have := unhide Z93; omega) (by have := unhide Z2; have := unhide Z10; have := unhide Z16; have := unhide Z13; have := unhide Z24; have := unhide Z35; have := unhide Z44; have := unhide Z38; have := unhide Z59; have := unhide Z66; have := unhide Z73; have := unhide Z79; have := unhide Z93; omega))
  have OW_99 := hide ((unhide OW_89).touchR t11 (by have := unhide Z2; have := unhide Z10; have := unhide Z16; have := unhide Z13; have := unhide Z24; have := unhide Z35; have := unhide Z44; have := unhide Z38; have := unhide Z59; have := unhide Z66; have := unhide Z73; have := unhide Z79; have := unhide Z93; omega))
  have WC_100 := hide ((unhide WC_90).touchR t11 (by have := unhide Z2; have := unhide Z10; have := unhide Z16; have := unhide Z13; have := unhide Z24; have := unhide Z35; have := unhide Z44; have := unhide Z38; have := unhide Z59; have := unhide Z66; have := unhide Z73; have := unhide Z79; have := unhide Z93; omega))
  have GC_101 := hide ((unhide GC_92).touchR t11 (by have := unhide Z2; have := unhide Z10; have := unhide Z16; have := unhide Z13; have := unhide Z24; have := unhide Z35; have := unhide Z44; have := unhide Z38; have := unhide Z59; have := unhide Z66; have := unhide Z73; have := unhide Z79; have := unhide Z93; omega))
  have Z102 := hide t11.size
  clear B_88 OW_89 WC_90 GC_92
  have OG11 := hide o11
  clear o11 t11
  obtain ⟨_, c103, c104, c105, c106⟩ := unhide GC_101
  go_wp2_with fail
  refine (unhide HHY _ w11 (unhide OG11).blm).mono ?_
  rintro e w12 ⟨rfl, b12⟩
  clear c103 c104 c105 c106
  have B_107 := hide (bl_st b12 (unhide B_98))
  have OW_108 := hide ((unhide OW_99).below b12)
  have WC_109 := hide ((unhide WC_100).below b12)
  have GC_110 := hide ((unhide GC_101).below b12)
  have OG_111 := hide ((unhide OG11).below b12)
  have Z112 := hide b12.size
  clear B_98 OW_99 WC_100 GC_101 OG11
  clear b12
  go_wp2_with fail
  refine (unhide HTO (unhide HN) w12 ((unhide HV).below (unhide B_107))).mono ?_
  rintro e w13 ⟨u13, rfl, o13, b13⟩
  obtain ⟨A13, c13, rfl⟩ := o13.salts.slice
  have U13 := hide o13.salts
  clear o13
  have B_113 := hide (bl_st b13 (unhide B_107))
  have OW_114 := hide ((unhide OW_108).below b13)
  have WC_115 := hide ((unhide WC_109).below b13)
  have GC_116 := hide ((unhide GC_110).below b13)
  have OG_117 := hide ((unhide OG_111).below b13)
  have Z118 := hide b13.size
  clear B_107 OW_108 WC_109 GC_110 OG_111
  clear b13
  go_wp2_with fail
  refine (unhide HIM (unhide HN) _ w13 (unhide U13)).mono ?_
  rintro e w14 ⟨r14, rfl, o14, b14⟩
  obtain ⟨D119, D120, D121, D122, D123, D124, hre⟩ := o14.slices
  subst hre
  have B_125 := hide (bl_st b14 (unhide B_113))
  have OW_126 := hide ((unhide OW_114).below b14)
  have WC_127 := hide ((unhide WC_115).below b14)
  have GC_128 := hide ((unhide GC_116).below b14)
  have OG_129 := hide ((unhide OG_117).below b14)
  have Z130 := hide b14.size
  clear B_113 OW_114 WC_115 GC_116 OG_117
  have OH0 := hide o14
  clear o14 b14 U13
  have ba : Below w14.heap.size w14 (w14.alloc (.cells #[.int .i64 y.p, .int .i64 y.w, .slice D119 D120 D121, .slice D122 D123 D124] 26)) := bl_al (Below.refl _ _)
  have C132 := hide (bc_new w14 y.p y.w (.slice D119 D120 D121) (.slice D122 D123 D124) 26)
  have Z133 : Hid ((w14.alloc (.cells #[.int .i64 y.p, .int .i64 y.w, .slice D119 D120 D121, .slice D122 D123 D124] 26)).heap.size = w14.heap.size + 1) := hide (by simp)
  have B_134 := hide (bl_st ba (unhide B_125))
  have OW_135 := hide ((unhide OW_126).below ba)
  have WC_136 := hide ((unhide WC_127).below ba)
  have GC_137 := hide ((unhide GC_128).below ba)
  have OG_138 := hide ((unhide OG_129).below ba)
  have OH_139 := hide ((unhide OH0).below ba)
  have Z140 := hide ba.size
  clear B_125 OW_126 WC_127 GC_128 OG_129 OH0
  clear ba
  obtain ⟨_, c141, c142, c143, c144⟩ := unhide C132
  obtain ⟨_, c145, c146, c147, c148⟩ := unhide WC_136
  go_wp2_with fail
  generalize w14.alloc (.cells #[.int .i64 y.p, .int .i64 y.w, .slice D119 D120 D121, .slice D122 D123 D124] 26) = v131 at *
  refine (unhide HEY _ _ v131 (unhide OH_139).blm (unhide OW_135).blm).mono ?_
  rintro e w15 ⟨rfl, b15⟩
  clear c141 c142 c143 c144 c145 c146 c147 c148
  have B_149 := hide (bl_st b15 (unhide B_134))
  have OW_150 := hide ((unhide OW_135).below b15)
  have WC_151 := hide ((unhide WC_136).below b15)
  have GC_152 := hide ((unhide GC_137).below b15)
  have OG_153 := hide ((unhide OG_138).below b15)
  have OH_154 := hide ((unhide OH_139).below b15)
  have HC_155 := hide ((unhide C132).below b15)
  have Z156 := hide b15.size
  clear B_134 OW_135 WC_136 GC_137 OG_138 OH_139 C132
  clear b15
  obtain ⟨_, c157, c158, c159, c160⟩ := unhide GC_152
  go_wp2_with fail
  refine (unhide HHY _ w15 (unhide OG_153).blm).mono ?_
  rintro e w16 ⟨rfl, b16⟩
  clear c157 c158 c159 c160
  have B_161 := hide (bl_st b16 (unhide B_149))
  have OW_162 := hide ((unhide OW_150).below b16)
  have WC_163 := hide ((unhide WC_151).below b16)
  have GC_164 := hide ((unhide GC_152).below b16)
  have OG_165 := hide ((unhide OG_153).below b16)
  have OH_166 := hide ((unhide OH_154).below b16)
  have HC_167 := hide ((unhide HC_155).below b16)
  have Z168 := hide b16.size
  clear B_149 OW_150 WC_151 GC_152 OG_153 OH_154 HC_155
  clear b16
  go_wp2
  go_ret
  exact ⟨rfl, unhide B_161⟩
end Go.Proofs.Ythckgccfjpgbaaa
