/- Noise: the law of it, walked. -/
import Derived.Test.YtafjodaeckiedaaLnm
namespace Go.Proofs.Ytafjodaeckiedaa
open Go.RowKit
set_option maxHeartbeats 4000000
set_option maxRecDepth 20000
theorem law_noise (w : World) (A : Option Addr) (n cap : Nat) (hn : n ≤ maxLen) (hA : codeAt w A n) (B : Option Addr) (m cb : Nat) (hm : m ≤ maxLen) (hB : codeAt w B m) :
    Calls Try.prog 3 #[.slice A n cap, .slice B m cb] w fun e w' => e = .returned (.bool true) ∧ Below w.heap.size w w' := by
  unfold maxLen at hn hm
  by_cases h1 : 1048576 < n
  · have q : (1048576 : Int) < (n : Int) := by omega
    have q2 : (n : Int) ≤ 9223372036854775807 := by omega
    clear h1 hn hA hB hm
    go_enter Try.func3, Try.ntmps3
    go_wp2
    go_ret
    exact ⟨rfl, Below.refl _ _⟩
  have q1 : (n : Int) ≤ 1048576 := by omega
  have t1 : decide ((1048576 : Int) < (n : Int)) = false := decide_eq_false (by omega)
  by_cases h2 : 1048576 < m
  · have q : (1048576 : Int) < (m : Int) := by omega
    have q2 : (m : Int) ≤ 9223372036854775807 := by omega
    clear h1 h2 hn hA hB hm
    go_enter Try.func3, Try.ntmps3
    go_wp2
    go_ret
    exact ⟨rfl, Below.refl _ _⟩
  have q2 : (m : Int) ≤ 1048576 := by omega
  have t2 : decide ((1048576 : Int) < (m : Int)) = false := decide_eq_false (by omega)
  have hat0 : Hid (∀ W, Below w.heap.size w W → Calls Try.prog 12 #[.slice B m cb, .int .i64 0, .int .i64 8] W fun e w' => ∃ v : Nat, e = .returned (.int .i64 v) ∧ v < 8 ∧ Below W.heap.size W w') := hide fun W hb => at_any W B m cb 0 8 (by omega) (by omega) (by omega) (by omega) (codeAt_below hB hb)
  have hat1 : Hid (∀ W, Below w.heap.size w W → Calls Try.prog 12 #[.slice B m cb, .int .i64 1, .int .i64 7] W fun e w' => ∃ v : Nat, e = .returned (.int .i64 v) ∧ v < 7 ∧ Below W.heap.size W w') := hide fun W hb => at_any W B m cb 1 7 (by omega) (by omega) (by omega) (by omega) (codeAt_below hB hb)
  have hat2 : Hid (∀ W, Below w.heap.size w W → Calls Try.prog 12 #[.slice B m cb, .int .i64 2, .int .i64 9] W fun e w' => ∃ v : Nat, e = .returned (.int .i64 v) ∧ v < 9 ∧ Below W.heap.size W w') := hide fun W hb => at_any W B m cb 2 9 (by omega) (by omega) (by omega) (by omega) (codeAt_below hB hb)
  have hwd : Hid (∀ W, Below w.heap.size w W → Calls Try.prog 16 #[.slice A n cap, .int .i64 60] W fun e w' => ∃ (v : Value) (xs : List Int), e = .returned v ∧ xs.length = 60 ∧ wOK xs = true ∧ intsC w' v xs ∧ Below W.heap.size W w') := hide fun W hb => wordsOf_any 60 W A n cap (by omega) (by unfold maxLen; omega) (codeAt_below hA hb)
  clear h1 h2 hn hm hA hB
  go_enter Try.func3, Try.ntmps3
  go_wp2_with fail
  refine (unhide hat0 w (Below.refl _ _)).mono ?_
  rintro e w1 ⟨v0, rfl, hv0, b1⟩
  have B1 := hide b1
  obtain ⟨a, ha⟩ : ∃ a : Int, (1 : Int) + (v0 : Int) = a := ⟨_, rfl⟩
  have a1 : 1 ≤ a := by omega
  have a8 : a ≤ 8 := by omega
  clear hat0 b1 hv0
  go_wp2_with fail
  clear ha
  refine (unhide hat1 w1 (unhide B1)).mono ?_
  rintro e w2 ⟨v1, rfl, hv1, b2⟩
  have B2 := hide (bl_st b2 (unhide B1))
  obtain ⟨b, hb⟩ : ∃ b : Int, a + 1 + (v1 : Int) = b := ⟨_, rfl⟩
  have b1 : a < b := by omega
  have b16 : b ≤ 16 := by omega
  have HB7 : Hid (b ≤ a + 7) := hide (by omega)
  clear hat1 b2 hv1 B1
  go_wp2_with fail
  clear hb
  refine (unhide hat2 w2 (unhide B2)).mono ?_
  rintro e w3 ⟨M, rfl, hM, b3⟩
  have B3 := hide (bl_st b3 (unhide B2))
  have m0 : (0 : Int) ≤ (M : Int) := by omega
  have m8 : (M : Int) ≤ 8 := by omega
  have hrok : rOK a b = true := decide_eq_true ⟨a1, b1, b16⟩
  have hmok : mOK M = true := decide_eq_true ⟨m0, m8⟩
  have HR := hide hrok
  have HMO := hide hmok
  have KT1 := hide (fun W => tot13 M a b W)
  have KT2 := hide (fun W => tot14 M a b W)
  rw [show tR M a b = (tF M a b, 0) by unfold tR; rw [hrok, hmok]; rfl] at KT1 KT2
  have KW : Hid (∀ (j : Nat) (W : World), j ≤ 2 * M → Calls Try.prog 15 #[.int .i64 (j : Int), .int .i64 M, .int .i64 a, .int .i64 b] W fun e w' => e = .returned (pV (wF j M a b, 0)) ∧ w' = W) := hide fun j W hj => by
    have h := wei15 j M a b W
    rwa [wR_ok j M a b a1 b1 b16 m0 m8 (by omega) (by omega)] at h
  have KV : Hid (∀ (j : Nat) (W : World), j ≤ 2 * M → Calls Try.prog 15 #[.int .i64 (2 * (M : Int) - (j : Int)), .int .i64 M, .int .i64 a, .int .i64 b] W fun e w' => e = .returned (pV (wF j M a b, 0)) ∧ w' = W) := hide fun j W hj => by
    have h := wei15 (2 * (M : Int) - (j : Int)) M a b W
    rwa [wR_ok _ M a b a1 b1 b16 m0 m8 (by omega) (by omega), wF_sym] at h
  have HS : Hid (Sw M a b (2 * M + 1) = tF M a b) := hide (Sw_total M a b (by omega) a1 a8 b1 (unhide HB7))
  have HSB : Hid (∀ j, j ≤ 2 * M + 1 → 0 ≤ Sw M a b j ∧ Sw M a b j ≤ 68719476736 * j) := hide (Sw_bd M a b a1 b1 b16 (by omega))
  have HWB : Hid (∀ j : Nat, j ≤ 2 * M → 1 ≤ wF j M a b ∧ wF j M a b ≤ 68719476736) := hide fun j hj => wF_bd j M a b a1 b1 b16 m0 m8 (by omega) (by omega)
  obtain ⟨tt, htt⟩ : ∃ tt, tt = tF M a b := ⟨_, rfl⟩
  rw [← htt] at KT1 KT2 HS
  clear hat2 b3 hM B2 hrok hmok htt HB7
  go_wp2_with fail
  refine (unhide KT1 _).mono ?_
  rintro e w4 ⟨rfl, rfl⟩
  clear KT1
  go_wp2_with fail
  refine (unhide KT2 _).mono ?_
  rintro e w5 ⟨rfl, hw5⟩
  have hw6 := hw5.symm
  subst hw6
  clear KT2
  go_wp2
  go_loopw [12, 13] (fun o i wr => ∃ j : Nat, j ≤ 2 * M + 1 ∧ i = .int .i64 j ∧ o = .int .i64 (Sw M a b j) ∧ wr = w4) (fun _ i _ => 2 * M + 1 - (intOf i).toNat)
  case atStart => exact ⟨0, by omega, rfl, rfl, rfl⟩
  case round =>
    obtain ⟨j, hj, rfl, rfl, rfl⟩ := hrel
    by_cases hlt : j ≤ 2 * M
    · have q3 : (j : Int) ≤ 2 * (M : Int) := by omega
      have q4 : (0 : Int) ≤ (j : Int) := by omega
      have K1 := hide (unhide KW j wr hlt)
      have K2 := hide (unhide KV j wr hlt)
      have HJ := hide hlt
      obtain ⟨x1, x2⟩ := unhide HWB j hlt
      obtain ⟨s1, s2⟩ := unhide HSB j (by omega)
      have s3 : Sw M a b j ≤ 1168231104512 := by omega
      have HSJ := hide (show Sw M a b (j + 1) = Sw M a b j + wF j M a b from rfl)
      generalize wF j M a b = x at *
      generalize Sw M a b j = S at *
      have z1 : decide (x ≤ 0) = false := decide_eq_false (by omega)
      clear hlt hj s2
      go_wp2_with fail
      refine (unhide K1).mono ?_
      rintro e w6 ⟨rfl, hw6⟩
      have hw7 := hw6.symm
      subst hw7
      clear K1
      go_wp2_with fail
      refine (unhide K2).mono ?_
      rintro e w6 ⟨rfl, hw6⟩
      have hw7 := hw6.symm
      subst hw7
      clear K2
      go_wp2
      go_roundw
      case rel => exact ⟨j + 1, by have := unhide HJ; omega, by go_num, by rw [unhide HSJ], by first | rfl | trivial⟩
      case measure => have := unhide HJ; simp [intOf]; omega
    · obtain rfl : j = 2 * M + 1 := by omega
      rw [unhide HS]
      have q3 : 2 * (M : Int) < ((2 * M + 1 : Nat) : Int) := by omega
      clear KW KV HS HSB HWB hj hlt
      generalize 2 * M + 1 = J at *
      go_wp2_with fail
      refine (unhide hwd wr (unhide B3)).mono ?_
      rintro e w6 ⟨v, xs, rfl, hl, hw, hv, b6⟩
      have B6 := hide (bl_st b6 (unhide B3))
      have HV := hide hv
      have hc0 : nCode xs M a b = 0 := nCode_ok (by omega) hw (unhide HR) (unhide HMO)
      have KI := hide (noi17 v xs M a b w6 hv (by omega))
      have KS := hide (fun W (hW : intsC W v xs) => noi18 v xs M a b W hW (by omega))
      have KP := hide (fun W (hW : intsC W v xs) => pai19 v xs M a b W hW (by omega))
      have KQ := hide (fun W (hW : intsC W v xs) => pai20 v xs M a b W hW (by omega))
      rw [noiR_ok hc0] at KI KS
      obtain ⟨A1, c1, rfl, hcap⟩ := hv.2
      cases hcF : cF (65536 - 65536 % b) a b 2 xs 0 with
      | none =>
        rw [hcF] at KI KS
        rw [show nzR M none = (0, 0, 14) from rfl] at KI KS
        clear hwd b6 hl hw hv hc0 hcF KP KQ B3 hcap
        go_wp2_with fail
        refine (unhide KI).mono ?_
        rintro e w7 ⟨rfl, b7⟩
        have B7 := hide (bl_st b7 (unhide B6))
        have V7 := hide ((unhide HV).below b7)
        clear KI b7 B6 HV
        go_wp2_with fail
        refine (unhide KS w7 (unhide V7)).mono ?_
        rintro e w8 ⟨rfl, rfl⟩
        clear KS
        go_wp2
        go_ret
        exact ⟨rfl, unhide B7⟩
      | some r =>
        obtain ⟨ds, t⟩ := r
        obtain ⟨bl1, bl2, bl3, _⟩ := cF_bd _ _ _ _ _ hcF
        match ds, bl1, hcF with
        | [g, h], _, hcF =>
          obtain ⟨T, rfl⟩ : ∃ T : Nat, t = T := ⟨t.toNat, by omega⟩
          have hT : T ≤ xs.length := by omega
          obtain ⟨hs, hi⟩ := head_ints hv T hT
          have hct : nCode (xs.take T) M a b = 0 := nCode_ok (by rw [List.length_take]; omega) (wOK_take hw T) (unhide HR) (unhide HMO)
          have KH := hide (fun W (hW : intsC W (.slice A1 T c1) (xs.take T)) => noi17 _ (xs.take T) M a b W hW (by rw [List.length_take]; omega))
          rw [noiR_ok hct, cF_take xs g h T hcF] at KH
          rw [hcF] at KI KS
          rw [show nzR M (some ([g, h], (T : Int))) = (clampN M g h, (T : Int), 0) from rfl] at KI KS KH
          have x0 : 0 ≤ clampN M g h := by unfold clampN; omega
          have x1 : clampN M g h ≤ 2 * (M : Int) := by unfold clampN; omega
          have HI6 := hide hi
          have HS := hide hs
          have t0 : (0 : Int) ≤ (T : Int) := by omega
          have t60 : (T : Int) ≤ 60 := by omega
          have hlc : (T : Int) ≤ (c1 : Int) := by omega
          generalize clampN M g h = z at *
          obtain ⟨⟨p1, p2, p3, p4⟩, hpr⟩ : ∃ r, r = paiR xs M a b := ⟨_, rfl⟩
          rw [← hpr] at KP KQ
          clear hwd b6 hl hw hv hc0 hct hcF B3 hcap hpr hi hs bl1 bl2 bl3
          go_wp2_with fail
          refine (unhide KI).mono ?_
          rintro e w7 ⟨rfl, b7⟩
          have B7 := hide (bl_st b7 (unhide B6))
          have V7 := hide ((unhide HV).below b7)
          have HI7 := hide ((unhide HI6).below b7)
          clear KI b7 B6 HV HI6
          go_wp2_with fail
          refine (unhide KS w7 (unhide V7)).mono ?_
          rintro e w8 ⟨rfl, hw8⟩
          have hw9 := hw8.symm
          subst hw9
          clear KS
          have s1 := unhide HS w7
          go_wp2_with fail
          refine (unhide KH w7 (unhide HI7)).mono ?_
          rintro e w8 ⟨rfl, b8⟩
          have B8 := hide (bl_st b8 (unhide B7))
          have V8 := hide ((unhide V7).below b8)
          clear KH b8 B7 V7 HI7 s1 HS
          go_wp2_with fail
          refine (unhide KP w8 (unhide V8)).mono ?_
          rintro e w9 ⟨rfl, b9⟩
          have B9 := hide (bl_al (o := Obj.cells #[Value.int IntKind.i64 p1, Value.int IntKind.i64 p2] 32) (bl_st b9 (unhide B8)))
          have V9 := hide (((unhide V8).below b9).below (bl_al (o := Obj.cells #[Value.int IntKind.i64 p1, Value.int IntKind.i64 p2] 32) (Below.refl _ _)))
          have G9 := hide (heap_at w9 (Obj.cells #[Value.int IntKind.i64 p1, Value.int IntKind.i64 p2] 32) _ rfl)
          clear KP b9 B8 V8
          go_wp2_with fail
          refine (unhide KQ _ (unhide V9)).mono ?_
          rintro e w10 ⟨rfl, b10⟩
          have B10 := hide (bl_al (o := Obj.cells #[Value.int IntKind.i64 p1, Value.int IntKind.i64 p2] 32) (bl_st b10 (unhide B9)))
          have g10 : w10.heap[w9.heap.size]? = some (.cells #[.int .i64 p1, .int .i64 p2] 32 (0, 0)) := (b10.block _ (by rw [size_alloc]; omega)).trans (unhide G9)
          have g11 : (w10.alloc (Obj.cells #[Value.int IntKind.i64 p1, Value.int IntKind.i64 p2] 32)).heap[w9.heap.size]? = some (.cells #[.int .i64 p1, .int .i64 p2] 32 (0, 0)) := get_alloc_old g10
          have k0 := row_cell (i := 0) g10
          have k1 := row_cell (i := 1) g10
          have lt5 := (Array.getElem?_eq_some_iff.1 g10).1
          have d0 := row_cell (i := 0) g11
          have d1 := row_cell (i := 1) g11
          clear KQ b10 B9 V9 G9 g10 g11
          go_wp2
          go_ret
          exact ⟨rfl, unhide B10⟩
end Go.Proofs.Ytafjodaeckiedaa
