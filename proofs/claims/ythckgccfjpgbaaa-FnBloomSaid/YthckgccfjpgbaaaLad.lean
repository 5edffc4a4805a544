/- The law of BloomAdd, walked. -/
import Derived.Test.YthckgccfjpgbaaaAds
namespace Go.Proofs.Ythckgccfjpgbaaa
open Go.RowKit
set_option maxHeartbeats 4000000
set_option maxRecDepth 20000
theorem BC.touchR {q lo hi : Nat} {p wd : Int} {a b : Value} {W W' : World} (h : BC q p wd a b W) (ht : TouchR lo hi W W') (hd : q < lo ∨ hi ≤ q) : BC q p wd a b W' := by
  have hc : ∀ k, W'.cell? ⟨q, k, none⟩ = W.cell? ⟨q, k, none⟩ := fun k => by
    unfold World.cell?
    rw [show (⟨q, k, none⟩ : Addr).block = q from rfl, ht.block q h.lt hd]
  exact ⟨Nat.lt_of_lt_of_le h.lt ht.size, (hc 0).trans h.c0, (hc 1).trans h.c1, (hc 2).trans h.c2, (hc 3).trans h.c3⟩
theorem addR_len (x : Blm) (tag : Int) : (addR x tag).1.s.length ≤ 4 ∧ (addR x tag).1.b.length ≤ 256 := by
  rcases tagC_cases x tag with hc | hc | ⟨hc, hr, ht⟩
  · rw [addR_code (by omega)]; exact ⟨Nat.zero_le _, Nat.zero_le _⟩
  · rw [addR_code (by omega)]; exact ⟨Nat.zero_le _, Nat.zero_le _⟩
  · rw [addR_ok hc]
    refine ⟨hr.s4, ?_⟩
    show (bitsOf _ _ _).length ≤ 256
    rw [bitsOf_len]
    have h1 := hr.s4
    have h2 := hr.w64
    have : x.s.length * x.w.toNat ≤ 4 * 64 := Nat.mul_le_mul h1 (by omega)
    omega
theorem law_add (w : World) (v : Value) (x : Blm) (hv : blmV w v x) (hl : x.s.length ≤ maxLen) (hl' : x.b.length ≤ maxLen) (tag : Int) :
    Calls Try.prog 9 #[v, .int .i64 tag] w fun e w' => e = .returned (.bool true) ∧ Below w.heap.size w w' := by
  obtain ⟨a, b, rfl, ha, hb⟩ := hv
  have B0 : Below w.heap.size w (w.alloc (.cells #[.int .i64 x.p, .int .i64 x.w, a, b] 52)) := bl_al (Below.refl _ _)
  have hv : blmV w (bloV x.p x.w a b) x := ⟨a, b, rfl, ha, hb⟩
  have h6 := hide (sz36 (bloV x.p x.w a b) x 1048576 _ (hv.below B0) hl hl' (by omega) (by omega))
  have C := bc_new w x.p x.w a b 52
  have HC := hide C
  have HV := hide hv
  have HB := hide B0
  have SZ : Hid ((w.alloc (.cells #[.int .i64 x.p, .int .i64 x.w, a, b] 52)).heap.size = w.heap.size + 1) := hide (by simp)
  have HTO : Hid (x.s.length + x.b.length ≤ 1048576 → ∀ W, blmV W (bloV x.p x.w a b) x → Calls Try.prog 38 #[bloV x.p x.w a b] W fun e w' => ∃ r, e = .returned r ∧ ownX W.heap.size w'.heap.size w' r x ∧ Below W.heap.size W w') := hide fun hn W hu => to38 _ x W hu (by omega) (by omega)
  have HSP : Hid (x.s.length + x.b.length ≤ 1048576 → ∀ u W, blmV W u x → Calls Try.prog 18 #[u, .int .i64 tag] W fun e w' => outX W (addR x tag).1 (addR x tag).2 e w') := hide fun hn u W hu => add18 u x tag W hu (by omega) (by omega)
  have HIM : Hid (x.s.length + x.b.length ≤ 1048576 → ∀ u W, blmV W u x → Calls Try.prog 17 #[u, .int .i64 tag] W fun e w' => outX W (addR x tag).1 (addR x tag).2 e w') := hide fun hn u W hu => add17 u x tag W hu (by omega) (by omega)
  have HEQ : Hid (x.s.length + x.b.length ≤ 1048576 → ∀ u u' W, blmV W u x → blmV W u' x → Calls Try.prog 31 #[u, u'] W fun e w' => e = .returned (.bool true) ∧ Below W.heap.size W w') := hide fun hn u u' W hu hu' => eq31 u u' x W hu hu' (by omega) (by omega)
  have HMX : Hid (x.s.length + x.b.length ≤ 1048576 → ∃ k : Int, 0 ≤ k ∧ ∀ lo hi u W, ownX lo hi W u x → hi ≤ W.heap.size → Calls Try.prog 34 #[u, .int .i64 1] W fun e w' => e = .returned (.int .i64 k) ∧ ownX lo hi w' u (markX x 1) ∧ TouchR lo hi W w') := hide fun hn => ⟨_, Int.natCast_nonneg _, fun lo hi u W hu hh => mark34 lo hi u x 1 W hu (by omega) (by omega) (by omega) hh⟩
  have hlen := addR_len x tag
  generalize addR x tag = rr at *
  obtain ⟨y, c⟩ := rr
  dsimp only at *
  have HEY : Hid (∀ u u' W, blmV W u y → blmV W u' y → Calls Try.prog 31 #[u, u'] W fun e w' => e = .returned (.bool true) ∧ Below W.heap.size W w') := hide fun u u' W hu hu' => eq31 u u' y W hu hu' (by omega) (by omega)
  obtain ⟨km, hkm⟩ : ∃ k : Nat, k = 1 + y.s.length * 2 + y.b.length := ⟨_, rfl⟩
  have HMY : Hid (∀ lo hi u W, ownX lo hi W u y → hi ≤ W.heap.size → Calls Try.prog 34 #[u, .int .i64 1] W fun e w' => e = .returned (.int .i64 (km : Int)) ∧ ownX lo hi w' u (markX y 1) ∧ TouchR lo hi W w') := hide fun lo hi u W hu hh => by rw [hkm]; exact mark34 lo hi u y 1 W hu (by omega) (by omega) (by omega) hh
  have HHY : Hid (∀ u W, blmV W u (markX y 1) → Calls Try.prog 35 #[u, .int .i64 1] W fun e w' => e = .returned (.int .i64 (km : Int)) ∧ Below W.heap.size W w') := hide fun u W hu => by rw [hkm]; exact held35 u y 1 W hu (by omega) (by omega) (by omega)
  have k0 : (0 : Int) ≤ (km : Int) := Int.natCast_nonneg _
  clear hkm
  clear hl hl' hv ha hb B0 hlen
  obtain ⟨p, wd, ss, bs⟩ := x
  dsimp only at *
  obtain ⟨_, c0, c1, c2, c3⟩ := C
  go_enter Try.func9, Try.ntmps9
  go_wp2_with fail
  generalize w.alloc (.cells #[.int .i64 p, .int .i64 wd, a, b] 52) = w0 at *
  refine (unhide h6).mono ?_
  rintro e w1 ⟨z, rfl, hz, b1⟩
  have B_1 := hide (bl_st b1 (unhide HB))
  have Q_2 := hide ((unhide HC).below b1)
  have Z3 := hide b1.size
  clear HB HC
  have HZ := hide hz
  clear hz b1 h6 c0 c1 c2 c3
  by_cases hneg : z < 0
  · go_wp2
    go_ret
    exact ⟨rfl, unhide B_1⟩
  have HN := hide (Or.resolve_left (unhide HZ) hneg).2.2
  have hge : 0 ≤ z := by omega
  clear hneg HZ
  have HMX2 := hide (unhide HMX (unhide HN))
  clear HMX
  obtain ⟨_, c4, c5, c6, c7⟩ := unhide Q_2
  go_wp2_with fail
  refine (unhide HTO (unhide HN) w1 ((unhide HV).below (unhide B_1))).mono ?_
  rintro e w2 ⟨u1, rfl, o2, b2⟩
  have U2 := hide o2.blm
  clear o2
  clear c4 c5 c6 c7
  have B_8 := hide (bl_st b2 (unhide B_1))
  have Q_9 := hide ((unhide Q_2).below b2)
  have Z10 := hide b2.size
  clear B_1 Q_2
  clear b2
  go_wp2_with fail
  refine (unhide HSP (unhide HN) _ w2 (unhide U2)).mono ?_
  rintro e w3 ⟨r3, rfl, o3, b3⟩
  obtain ⟨D11, D12, D13, D14, D15, D16, hre⟩ := o3.slices
  subst hre
  have B_17 := hide (bl_st b3 (unhide B_8))
  have Q_18 := hide ((unhide Q_9).below b3)
  have Z19 := hide b3.size
  clear B_8 Q_9
  have OW0 := hide o3
  clear o3 b3 U2
  have ba : Below w3.heap.size w3 (w3.alloc (.cells #[.int .i64 y.p, .int .i64 y.w, .slice D11 D12 D13, .slice D14 D15 D16] 26)) := bl_al (Below.refl _ _)
  have C21 := hide (bc_new w3 y.p y.w (.slice D11 D12 D13) (.slice D14 D15 D16) 26)
  have Z22 : Hid ((w3.alloc (.cells #[.int .i64 y.p, .int .i64 y.w, .slice D11 D12 D13, .slice D14 D15 D16] 26)).heap.size = w3.heap.size + 1) := hide (by simp)
  have B_23 := hide (bl_st ba (unhide B_17))
  have Q_24 := hide ((unhide Q_18).below ba)
  have OW_25 := hide ((unhide OW0).below ba)
  have Z26 := hide ba.size
  clear B_17 Q_18 OW0
  clear ba
  obtain ⟨_, c27, c28, c29, c30⟩ := unhide C21
  obtain ⟨_, c31, c32, c33, c34⟩ := unhide Q_24
  go_wp2_with fail
  generalize w3.alloc (.cells #[.int .i64 y.p, .int .i64 y.w, .slice D11 D12 D13, .slice D14 D15 D16] 26) = v20 at *
  refine (unhide HTO (unhide HN) v20 ((unhide HV).below (unhide B_23))).mono ?_
  rintro e w4 ⟨u, rfl, o4, b4⟩
  obtain ⟨a4, b4v, rfl, oa4, ob4, hd4⟩ := o4
  obtain ⟨A4, ca4, rfl⟩ := oa4.salts.slice
  obtain ⟨B4, cb4, rfl⟩ := ob4.bools.slice
  dsimp only at oa4 ob4
  clear c27 c28 c29 c30 c31 c32 c33 c34
  have B_35 := hide (bl_st b4 (unhide B_23))
  have Q_36 := hide ((unhide Q_24).below b4)
  have OW_37 := hide ((unhide OW_25).below b4)
  have WC_38 := hide ((unhide C21).below b4)
  have Z39 := hide b4.size
  clear B_23 Q_24 OW_25 C21
  have OX0 : Hid (ownX v20.heap.size w4.heap.size w4 (bloV p wd (.slice A4 ss.length ca4) (.slice B4 bs.length cb4)) ⟨p, wd, ss, bs⟩) := hide ⟨_, _, rfl, oa4, ob4, hd4⟩
  clear oa4 ob4 hd4 b4
  have ba : Below w4.heap.size w4 (w4.alloc (.cells #[.int .i64 p, .int .i64 wd, .slice A4 ss.length ca4, .slice B4 bs.length cb4] 26)) := bl_al (Below.refl _ _)
  have C41 := hide (bc_new w4 p wd (.slice A4 ss.length ca4) (.slice B4 bs.length cb4) 26)
  have Z42 : Hid ((w4.alloc (.cells #[.int .i64 p, .int .i64 wd, .slice A4 ss.length ca4, .slice B4 bs.length cb4] 26)).heap.size = w4.heap.size + 1) := hide (by simp)
  have B_43 := hide (bl_st ba (unhide B_35))
  have Q_44 := hide ((unhide Q_36).below ba)
  have OW_45 := hide ((unhide OW_37).below ba)
  have WC_46 := hide ((unhide WC_38).below ba)
  have OX_47 := hide ((unhide OX0).below ba)
  have Z48 := hide ba.size
  clear B_35 Q_36 OW_37 WC_38 OX0
  clear ba
  obtain ⟨_, c49, c50, c51, c52⟩ := unhide C41
  go_wp2_with fail
  generalize w4.alloc (.cells #[.int .i64 p, .int .i64 wd, .slice A4 ss.length ca4, .slice B4 bs.length cb4] 26) = v40 at *
  refine (unhide HIM (unhide HN) _ v40 (unhide OX_47).blm).mono ?_
  rintro e w5 ⟨r5, rfl, o5, b5⟩
  obtain ⟨D53, D54, D55, D56, D57, D58, hre⟩ := o5.slices
  subst hre
  clear c49 c50 c51 c52
  have B_59 := hide (bl_st b5 (unhide B_43))
  have Q_60 := hide ((unhide Q_44).below b5)
  have OW_61 := hide ((unhide OW_45).below b5)
  have WC_62 := hide ((unhide WC_46).below b5)
  have OX_63 := hide ((unhide OX_47).below b5)
  have XC_64 := hide ((unhide C41).below b5)
  have Z65 := hide b5.size
  clear B_43 Q_44 OW_45 WC_46 OX_47 C41
  have OG0 := hide o5
  clear o5 b5
  have ba : Below w5.heap.size w5 (w5.alloc (.cells #[.int .i64 y.p, .int .i64 y.w, .slice D53 D54 D55, .slice D56 D57 D58] 26)) := bl_al (Below.refl _ _)
  have C67 := hide (bc_new w5 y.p y.w (.slice D53 D54 D55) (.slice D56 D57 D58) 26)
  have Z68 : Hid ((w5.alloc (.cells #[.int .i64 y.p, .int .i64 y.w, .slice D53 D54 D55, .slice D56 D57 D58] 26)).heap.size = w5.heap.size + 1) := hide (by simp)
  have B_69 := hide (bl_st ba (unhide B_59))
  have Q_70 := hide ((unhide Q_60).below ba)
  have OW_71 := hide ((unhide OW_61).below ba)
  have WC_72 := hide ((unhide WC_62).below ba)
  have OX_73 := hide ((unhide OX_63).below ba)
  have XC_74 := hide ((unhide XC_64).below ba)
  have OG_75 := hide ((unhide OG0).below ba)
  have Z76 := hide ba.size
  clear B_59 Q_60 OW_61 WC_62 OX_63 XC_64 OG0
  clear ba
  obtain ⟨_, c77, c78, c79, c80⟩ := unhide C67
  obtain ⟨_, c81, c82, c83, c84⟩ := unhide WC_72
  go_wp2_with fail
  generalize w5.alloc (.cells #[.int .i64 y.p, .int .i64 y.w, .slice D53 D54 D55, .slice D56 D57 D58] 26) = v66 at *
  refine (unhide HEY _ _ v66 (unhide OG_75).blm (unhide OW_71).blm).mono ?_
  rintro e w6 ⟨rfl, b6⟩
  clear c77 c78 c79 c80 c81 c82 c83 c84
  have B_85 := hide (bl_st b6 (unhide B_69))
  have Q_86 := hide ((unhide Q_70).below b6)
  have OW_87 := hide ((unhide OW_71).below b6)
  have WC_88 := hide ((unhide WC_72).below b6)
  have OX_89 := hide ((unhide OX_73).below b6)
  have XC_90 := hide ((unhide XC_74).below b6)
  have OG_91 := hide ((unhide OG_75).below b6)
  have GC_92 := hide ((unhide C67).below b6)
  have Z93 := hide b6.size
  clear B_69 Q_70 OW_71 WC_72 OX_73 XC_74 OG_75 C67
  clear b6
  go_wp2
  refine wp_region_held (S := fun W' => Below w6.heap.size w6 W') (by kernel_rfl) ?_
  have hS0 : Below w6.heap.size w6 { w6 with drawn := w6.drawn + 1 } := below_drewN (Below.refl _ _) 1
  refine wpAnyH_take (i := 0) (oi := { dst := some 45, op := Op.load 26 (Operand.tmp 8), type := 26, pos := "exact.go:3196", after := #[], guard := none }) (v := ?_) rfl (by kernel_rfl) (by kernel_rfl) (by kernel_rfl) (fun _ _ _ h => h) (Or.inl ⟨by rfl, ?_⟩) hS0 ?_
  rotate_left
  · intro W hSw
    obtain ⟨_, c0, c1, c2, c3⟩ := (unhide Q_86).below hSw
    obtain ⟨_, d0, d1, d2, d3⟩ := (unhide XC_90).below hSw
    go_simp
    try with_reducible rfl
  simp only [Act.put, List.setIfInBounds_toArray, List.set_cons_zero, List.set_cons_succ]
  refine wpAnyH_take (i := 1) (oi := { dst := some 46, op := Op.load 52 (Operand.tmp 2), type := 52, pos := "exact.go:3196", after := #[], guard := none }) (v := ?_) rfl (by kernel_rfl) (by kernel_rfl) (by kernel_rfl) (fun _ _ _ h => h) (Or.inl ⟨by rfl, ?_⟩) hS0 ?_
  rotate_left
  · intro W hSw
    obtain ⟨_, c0, c1, c2, c3⟩ := (unhide Q_86).below hSw
    obtain ⟨_, d0, d1, d2, d3⟩ := (unhide XC_90).below hSw
    go_simp
    try with_reducible rfl
  simp only [Act.put, List.setIfInBounds_toArray, List.set_cons_zero, List.set_cons_succ]
  refine wpAnyH_one (i := 2) (by kernel_rfl) ?_
  refine wpOp_step (o := { dst := some 47, op := Op.call { callee := Callee.value (Operand.func 38), args := #[Operand.tmp 46], argTypes := #[52] }, type := 26, pos := "exact.go:3196", after := #[{ on := 1, ground := Ground.data }], guard := none }) rfl fun K' hK => step_enterW (by rfl) 38 #[bloV p wd a b] (by go_simp) ((unhide HTO (unhide HN) _ (((unhide HV).below (unhide B_85)).below hS0)).mono ?_)
  rintro e w7 ⟨u7, rfl, o7, b7⟩
  have s7 := bl_st b7 hS0
  have U7 := hide ((unhide OX_89).below s7).blm
  have V7 := hide o7.blm
  clear b7 o7
  refine ⟨_, rfl, hK _ _ ⟨s7, ?_⟩⟩
  simp only [Act.put, List.setIfInBounds_toArray, List.set_cons_zero, List.set_cons_succ]
  refine wpAnyH_one (i := 3) (by kernel_rfl) ?_
  refine wpOp_step (o := { dst := some 48, op := Op.call { callee := Callee.value (Operand.func 31), args := #[Operand.tmp 45, Operand.tmp 47], argTypes := #[26, 26] }, type := 4, pos := "exact.go:3196", after := #[{ on := 0, ground := Ground.data }, { on := 2, ground := Ground.data }, { on := 2, ground := Ground.chain }], guard := none }) rfl fun K' hK => step_enterW (by rfl) 31 #[bloV p wd (.slice A4 ss.length ca4) (.slice B4 bs.length cb4), u7] (by go_simp) ((unhide HEQ (unhide HN) _ _ _ (unhide U7) (unhide V7)).mono ?_)
  rintro e w8 ⟨rfl, b8⟩
  have s8 := bl_st b8 s7
  clear b8
  refine ⟨_, rfl, hK _ _ ⟨s8, ?_⟩⟩
  simp only [Act.put, List.setIfInBounds_toArray, List.set_cons_zero, List.set_cons_succ]
  refine wpAnyH_take (i := 4) (oi := { dst := some 49, op := Op.unOp UnOp.not 4 (Operand.tmp 48), type := 4, pos := "exact.go:3196", after := #[{ on := 3, ground := Ground.data }], guard := none }) (v := ?_) rfl (by kernel_rfl) (by kernel_rfl) (by kernel_rfl) (fun _ _ _ h => h) (Or.inl ⟨by rfl, ?_⟩) s8 ?_
  rotate_left
  · intro W hSw
    go_simp
    try with_reducible rfl
  simp only [Act.put, List.setIfInBounds_toArray, List.set_cons_zero, List.set_cons_succ]
  refine wpAnyH_done (by kernel_rfl) ?_ _
  have B_94 := hide (bl_st s8 (unhide B_85))
  have Q_95 := hide ((unhide Q_86).below s8)
  have OW_96 := hide ((unhide OW_87).below s8)
  have WC_97 := hide ((unhide WC_88).below s8)
  have OX_98 := hide ((unhide OX_89).below s8)
  have XC_99 := hide ((unhide XC_90).below s8)
  have OG_100 := hide ((unhide OG_91).below s8)
  have GC_101 := hide ((unhide GC_92).below s8)
  have Z102 := hide s8.size
  clear B_85 Q_86 OW_87 WC_88 OX_89 XC_90 OG_91 GC_92
  clear s8 s7 hS0 U7 V7
  obtain ⟨kx, kx0, hmx⟩ := unhide HMX2
  have HMX3 := hide hmx
  clear HMX2 hmx
  obtain ⟨_, c103, c104, c105, c106⟩ := unhide XC_99
  go_wp2_with fail
  refine (unhide HMX3 _ _ _ w8 (unhide OX_98) (by have := unhide SZ; have := unhide Z3; have := unhide Z10; have := unhide Z19; have := unhide Z26; have := unhide Z22; have := unhide Z39; have := unhide Z48; have := unhide Z42; have := unhide Z65; have := unhide Z76; have := unhide Z68; have := unhide Z93; have := unhide Z102; omega)).mono ?_
  rintro e w9 ⟨rfl, o9, t9⟩
  clear c103 c104 c105 c106
  clear o9
  have B_107 := hide (belowR (unhide B_94) t9 (by have := unhide SZ; have := unhide Z3; have := unhide Z10; have := unhide Z19; have := unhide Z26; have := unhide Z22; have := unhide Z39; have := unhide Z48; have := unhide Z42; have := unhide Z65; have := unhide Z76; have := unhide Z68; have := unhide Z93; have := unhide Z102; omega) (by have := unhide SZ; have := unhide Z3; have := unhide Z10; have := unhide Z19; have := unhide Z26; have := unhide Z22; have := unhide Z39; have := unhide Z48; have := unhide Z42; have := unhide Z65; have := unhide Z76; have := unhide Z68; have := unhide Z93; have := unhide Z102; omega))
  have Q_108 := hide ((unhide Q_95).touchR t9 (by have := unhide SZ; have := unhide Z3; have := unhide Z10; have := unhide Z19; have := unhide Z26; have := unhide Z22; have := unhide Z39; have := unhide Z48; have := unhide Z42; have := unhide Z65; have := unhide Z76; have := unhide Z68; have := unhide Z93; have := unhide Z102; omega))
  have OW_109 := hide ((unhide OW_96).touchR t9 (by have := unhide SZ; have := unhide Z3; have := unhide Z10; have := unhide Z19; have := unhide Z26; have := unhide Z22; have := unhide Z39; have := unhide Z48; have := unhide Z42; have := unhide Z65; have := unhide Z76; have := unhide Z68; have := unhide Z93; have := unhide Z102; omega))
  have WC_110 := hide ((unhide WC_97).touchR t9 (by have := unhide SZ; have := unhide Z3; have := unhide Z10; have := unhide Z19; have := unhide Z26; have := unhide Z22; have := unhide Z39; have := unhide Z48; have := unhide Z42; have := unhide Z65; have := unhide Z76; have := unhide Z68; have := unhide Z93; have := unhide Z102; omega))
  have XC_111 := hide ((unhide XC_99).touchR t9 (by have := unhide SZ; have := unhide Z3; have := unhide Z10; have := unhide Z19; have := unhide Z26; have := unhide Z22; have := unhide Z39; have := unhide Z48; have := unhide Z42; have := unhide Z65; have := unhide Z76; have := unhide Z68; have := unhide Z93; have := unhide Z102; omega))
  have OG_112 := hide ((unhide OG_100).touchR t9 (by have := unhide SZ; have := unhide Z3; have := unhide Z10; have := unhide Z19; have := unhide Z26; have := unhide Z22; have := unhide Z39; have := unhide Z48; have := unhide Z42; have := unhide Z65; have := unhide Z76; have := unhide Z68; have := unhide Z93; have := unhide Z102; omega))
  have GC_113 := hide ((unhide GC_101).touchR t9 (by have := unhide SZ; have := unhide Z3; have := unhide Z10; have := unhide Z19; have := unhide Z26; have := unhide Z22; have := unhide Z39; have := unhide Z48; have := unhide Z42; have := unhide Z65; have := unhide Z76; have := unhide Z68; have := unhide Z93; have := unhide Z102; omega))
  have Z114 := hide t9.size
  clear B_94 Q_95 OW_96 WC_97 XC_99 OG_100 GC_101
  clear t9
  obtain ⟨_, c115, c116, c117, c118⟩ := unhide GC_113
  obtain ⟨_, c119, c120, c121, c122⟩ := unhide WC_110
  go_wp2_with fail
  refine (unhide HEY _ _ w9 (unhide OG_112).blm (unhide OW_109).blm).mono ?_
  rintro e w10 ⟨rfl, b10⟩
  clear c115 c116 c117 c118 c119 c120 c121 c122
  have B_123 := hide (bl_st b10 (unhide B_107))
  have Q_124 := hide ((unhide Q_108).below b10)
  have OW_125 := hide ((unhide OW_109).below b10)
  have WC_126 := hide ((unhide WC_110).below b10)
  have XC_127 := hide ((unhide XC_111).below b10)
  have OG_128 := hide ((unhide OG_112).below b10)
  have GC_129 := hide ((unhide GC_113).below b10)
  have Z130 := hide b10.size
  clear B_107 Q_108 OW_109 WC_110 XC_111 OG_112 GC_113
  clear b10
  obtain ⟨_, c131, c132, c133, c134⟩ := unhide GC_129
  go_wp2_with fail
  refine (unhide HMY _ _ _ w10 (unhide OG_128) (by have := unhide SZ; have := unhide Z3; have := unhide Z10; have := unhide Z19; have := unhide Z26; have := unhide Z22; have := unhide Z39; have := unhide Z48; have := unhide Z42; have := unhide Z65; have := unhide Z76; have := unhide Z68; have := unhide Z93; have := unhide Z102; have := unhide Z114; have := unhide Z130; omega)).mono ?_
  rintro e w11 ⟨rfl, o11, t11⟩
  clear c131 c132 c133 c134
  have B_135 := hide (belowR (unhide B_123) t11 (by have := unhide SZ; have := unhide Z3; have := unhide Z10; have := unhide Z19; have := unhide Z26; have := unhide Z22; have := unhide Z39; have := unhide Z48; have := unhide Z42; have := unhide Z65; have := unhide Z76; have := unhide Z68; have := unhide Z93; have := unhide Z102; have := unhide Z114; have := unhide Z130; omega) (by have := unhide SZ; have := unhide Z3; have := unhide Z10; have := unhide Z19; have := unhide Z26; have := unhide Z22; have := unhide Z39; have := unhide Z48; have := unhide Z42; have := unhide Z65; have := unhide Z76; have := unhide Z68; have := unhide Z93; have := unhide Z102; have := unhide Z114; have := unhide Z130; omega))
  have Q_136 := hide ((unhide Q_124).touchR t11 (by have := unhide SZ; have := unhide Z3; have := unhide Z10; have := unhide Z19; have := unhide Z26; have := unhide Z22; have := unhide Z39; have := unhide Z48; have := unhide Z42; have := unhide Z65; have := unhide Z76; have := unhide Z68; have := unhide Z93; have := unhide Z102; have := unhide Z114; have := unhide Z130; omega))
  have OW_137 := hide ((unhide OW_125).touchR t11 (by have := unhide SZ; have := unhide Z3; have := unhide Z10; have := unhide Z19; have := unhide Z26; have := unhide Z22; have := unhide Z39; have := unhide Z48; have := unhide Z42; have := unhide Z65; have := unhide Z76; have := unhide Z68; have := unhide Z93; have := unhide Z102; have := unhide Z114; have := unhide Z130; omega))
  have WC_138 := hide ((unhide WC_126).touchR t11 (by have := unhide SZ; have := unhide Z3; have := unhide Z10; have := unhide Z19; have := unhide Z26; have := unhide Z22; have := unhide Z39; have := unhide Z48; have := unhide Z42; have := unhide Z65; have := unhide Z76; have := unhide Z68; have := unhide Z93; have := unhide Z102; have := unhide Z114; have := unhide Z130; omega))
  have XC_139 := hide ((unhide XC_127).touchR t11 (by have := unhide SZ; have := unhide Z3; have := unhide Z10; have := unhide Z19; have := unhide Z26; have := unhide Z22; have := unhide Z39; have := unhide Z48; have := unhide Z42; have := unhide Z65; have := unhide Z76; have := unhide Z68; have := unhide Z93; have := unhide Z102; have := unhide Z114; have := unhide Z130; omega))
  have GC_140 := hide ((unhide GC_129).touchR t11 (by have := unhide SZ; have := unhide Z3; have := unhide Z10; have := unhide Z19; have := unhide Z26; have := unhide Z22; have := unhide Z39; have := unhide Z48; have := unhide Z42; have := unhide Z65; have := unhide Z76; have := unhide Z68; have := unhide Z93; have := unhide Z102; have := unhide Z114; have := unhide Z130; omega))
  have Z141 := hide t11.size
  clear B_123 Q_124 OW_125 WC_126 XC_127 GC_129
  have OG11 := hide o11
  clear o11 t11
  obtain ⟨_, c142, c143, c144, c145⟩ := unhide GC_140
  go_wp2_with fail
  refine (unhide HHY _ w11 (unhide OG11).blm).mono ?_
  rintro e w12 ⟨rfl, b12⟩
  clear c142 c143 c144 c145
  have B_146 := hide (bl_st b12 (unhide B_135))
  have Q_147 := hide ((unhide Q_136).below b12)
  have OW_148 := hide ((unhide OW_137).below b12)
  have WC_149 := hide ((unhide WC_138).below b12)
  have XC_150 := hide ((unhide XC_139).below b12)
  have GC_151 := hide ((unhide GC_140).below b12)
  have OG_152 := hide ((unhide OG11).below b12)
  have Z153 := hide b12.size
  clear B_135 Q_136 OW_137 WC_138 XC_139 GC_140 OG11
  clear b12
  obtain ⟨_, c154, c155, c156, c157⟩ := unhide Q_147
  go_wp2_with fail
  refine (unhide HTO (unhide HN) w12 ((unhide HV).below (unhide B_146))).mono ?_
  rintro e w13 ⟨u13, rfl, o13, b13⟩
  have U13 := hide o13.blm
  clear o13
  clear c154 c155 c156 c157
  have B_158 := hide (bl_st b13 (unhide B_146))
  have Q_159 := hide ((unhide Q_147).below b13)
  have OW_160 := hide ((unhide OW_148).below b13)
  have WC_161 := hide ((unhide WC_149).below b13)
  have XC_162 := hide ((unhide XC_150).below b13)
  have GC_163 := hide ((unhide GC_151).below b13)
  have OG_164 := hide ((unhide OG_152).below b13)
  have Z165 := hide b13.size
  clear B_146 Q_147 OW_148 WC_149 XC_150 GC_151 OG_152
  clear b13
  go_wp2_with fail
  refine (unhide HIM (unhide HN) _ w13 (unhide U13)).mono ?_
  rintro e w14 ⟨r14, rfl, o14, b14⟩
  obtain ⟨D166, D167, D168, D169, D170, D171, hre⟩ := o14.slices
  subst hre
  have B_172 := hide (bl_st b14 (unhide B_158))
  have Q_173 := hide ((unhide Q_159).below b14)
  have OW_174 := hide ((unhide OW_160).below b14)
  have WC_175 := hide ((unhide WC_161).below b14)
  have XC_176 := hide ((unhide XC_162).below b14)
  have GC_177 := hide ((unhide GC_163).below b14)
  have OG_178 := hide ((unhide OG_164).below b14)
  have Z179 := hide b14.size
  clear B_158 Q_159 OW_160 WC_161 XC_162 GC_163 OG_164
  have OH0 := hide o14
  clear o14 b14 U13
  have ba : Below w14.heap.size w14 (w14.alloc (.cells #[.int .i64 y.p, .int .i64 y.w, .slice D166 D167 D168, .slice D169 D170 D171] 26)) := bl_al (Below.refl _ _)
  have C181 := hide (bc_new w14 y.p y.w (.slice D166 D167 D168) (.slice D169 D170 D171) 26)
  have Z182 : Hid ((w14.alloc (.cells #[.int .i64 y.p, .int .i64 y.w, .slice D166 D167 D168, .slice D169 D170 D171] 26)).heap.size = w14.heap.size + 1) := hide (by simp)
  have B_183 := hide (bl_st ba (unhide B_172))
  have Q_184 := hide ((unhide Q_173).below ba)
  have OW_185 := hide ((unhide OW_174).below ba)
  have WC_186 := hide ((unhide WC_175).below ba)
  have XC_187 := hide ((unhide XC_176).below ba)
  have GC_188 := hide ((unhide GC_177).below ba)
  have OG_189 := hide ((unhide OG_178).below ba)
  have OH_190 := hide ((unhide OH0).below ba)
  have Z191 := hide ba.size
  clear B_172 Q_173 OW_174 WC_175 XC_176 GC_177 OG_178 OH0
  clear ba
  obtain ⟨_, c192, c193, c194, c195⟩ := unhide C181
  obtain ⟨_, c196, c197, c198, c199⟩ := unhide WC_186
  go_wp2_with fail
  generalize w14.alloc (.cells #[.int .i64 y.p, .int .i64 y.w, .slice D166 D167 D168, .slice D169 D170 D171] 26) = v180 at *
  refine (unhide HEY _ _ v180 (unhide OH_190).blm (unhide OW_185).blm).mono ?_
  rintro e w15 ⟨rfl, b15⟩
  clear c192 c193 c194 c195 c196 c197 c198 c199
  have B_200 := hide (bl_st b15 (unhide B_183))
  have Q_201 := hide ((unhide Q_184).below b15)
  have OW_202 := hide ((unhide OW_185).below b15)
  have WC_203 := hide ((unhide WC_186).below b15)
  have XC_204 := hide ((unhide XC_187).below b15)
  have GC_205 := hide ((unhide GC_188).below b15)
  have OG_206 := hide ((unhide OG_189).below b15)
  have OH_207 := hide ((unhide OH_190).below b15)
  have HC_208 := hide ((unhide C181).below b15)
  have Z209 := hide b15.size
  clear B_183 Q_184 OW_185 WC_186 XC_187 GC_188 OG_189 OH_190 C181
  clear b15
  obtain ⟨_, c210, c211, c212, c213⟩ := unhide GC_205
  go_wp2_with fail
  refine (unhide HHY _ w15 (unhide OG_206).blm).mono ?_
  rintro e w16 ⟨rfl, b16⟩
  clear c210 c211 c212 c213
  have B_214 := hide (bl_st b16 (unhide B_200))
  have Q_215 := hide ((unhide Q_201).below b16)
  have OW_216 := hide ((unhide OW_202).below b16)
  have WC_217 := hide ((unhide WC_203).below b16)
  have XC_218 := hide ((unhide XC_204).below b16)
  have GC_219 := hide ((unhide GC_205).below b16)
  have OG_220 := hide ((unhide OG_206).below b16)
  have OH_221 := hide ((unhide OH_207).below b16)
  have HC_222 := hide ((unhide HC_208).below b16)
  have Z223 := hide b16.size
  clear B_200 Q_201 OW_202 WC_203 XC_204 GC_205 OG_206 OH_207 HC_208
  clear b16
  go_wp2
  go_ret
  exact ⟨rfl, unhide B_214⟩
end Go.Proofs.Ythckgccfjpgbaaa
