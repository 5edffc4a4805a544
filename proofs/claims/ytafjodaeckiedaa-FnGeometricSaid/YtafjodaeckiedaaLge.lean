/- How counts are drawn: the law of it, walked. -/
import Derived.Test.YtafjodaeckiedaaGeo
import Derived.Test.YtafjodaeckiedaaUo
import Derived.Test.YtafjodaeckiedaaWrd
import Derived.Test.YtafjodaeckiedaaAt
import Derived.Test.YtafjodaeckiedaaCodeOf
namespace Go.Proofs.Ytafjodaeckiedaa
open Go.RowKit
set_option maxHeartbeats 4000000
set_option maxRecDepth 20000
theorem uniR_found {xs : List Int} {b x : Int} {m : Nat} (hl : xs.length ≤ 4096) (hw : wOK xs = true) (hb : 1 ≤ b) (hb2 : b ≤ 65536) (h : uF (65536 - 65536 % b) b xs 0 = (x, (m : Int), true)) : uniR xs b = (x, (m : Int), 0) := by
  unfold uniR
  rw [if_neg (by omega), if_neg (by rw [hw]; simp), if_pos ⟨hb, hb2⟩, h]
  rfl
theorem law_geom (w : World) (A : Option Addr) (n cap : Nat) (hn : n ≤ maxLen) (hA : codeAt w A n) (B : Option Addr) (m cb : Nat) (hm : m ≤ maxLen) (hB : codeAt w B m) :
    Calls Try.prog 5 #[.slice A n cap, .slice B m cb] w fun e w' => e = .returned (.bool true) ∧ Below w.heap.size w w' := by
  unfold maxLen at hn hm
  by_cases h1 : 1048576 < n
  · have q : (1048576 : Int) < (n : Int) := by omega
    have q2 : (n : Int) ≤ 9223372036854775807 := by omega
    clear h1 hn hA hB hm
    go_enter Try.func5, Try.ntmps5
    go_wp2
    go_ret
    exact ⟨rfl, Below.refl _ _⟩
  have q1 : (n : Int) ≤ 1048576 := by omega
  have t1 : decide ((1048576 : Int) < (n : Int)) = false := decide_eq_false (by omega)
  by_cases h2 : 1048576 < m
  · have q : (1048576 : Int) < (m : Int) := by omega
    have q2 : (m : Int) ≤ 9223372036854775807 := by omega
    clear h1 h2 hn hA hB hm
    go_enter Try.func5, Try.ntmps5
    go_wp2
    go_ret
    exact ⟨rfl, Below.refl _ _⟩
  have q2 : (m : Int) ≤ 1048576 := by omega
  have t2 : decide ((1048576 : Int) < (m : Int)) = false := decide_eq_false (by omega)
  have hat0 : Hid (∀ W, Below w.heap.size w W → Calls Try.prog 12 #[.slice B m cb, .int .i64 0, .int .i64 8] W fun e w' => ∃ v : Nat, e = .returned (.int .i64 v) ∧ v < 8 ∧ Below W.heap.size W w') := hide fun W hb => at_any W B m cb 0 8 (by omega) (by omega) (by omega) (by omega) (codeAt_below hB hb)
  have hat1 : Hid (∀ W, Below w.heap.size w W → Calls Try.prog 12 #[.slice B m cb, .int .i64 1, .int .i64 7] W fun e w' => ∃ v : Nat, e = .returned (.int .i64 v) ∧ v < 7 ∧ Below W.heap.size W w') := hide fun W hb => at_any W B m cb 1 7 (by omega) (by omega) (by omega) (by omega) (codeAt_below hB hb)
  have hwd : Hid (∀ W, Below w.heap.size w W → Calls Try.prog 16 #[.slice A n cap, .int .i64 30] W fun e w' => ∃ (v : Value) (xs : List Int), e = .returned v ∧ xs.length = 30 ∧ wOK xs = true ∧ intsC w' v xs ∧ Below W.heap.size W w') := hide fun W hb => wordsOf_any 30 W A n cap (by omega) (by unfold maxLen; omega) (codeAt_below hA hb)
  clear h1 h2 hn hm hA hB
  go_enter Try.func5, Try.ntmps5
  go_wp2_with fail
  refine (unhide hat0 w (Below.refl _ _)).mono ?_
  rintro e w1 ⟨v0, rfl, hv0, b1⟩
  have B1 := hide b1
  obtain ⟨a, ha⟩ : ∃ a : Int, (1 : Int) + (v0 : Int) = a := ⟨_, rfl⟩
  have a1 : 1 ≤ a := by omega
  have a8 : a ≤ 8 := by omega
  clear hat0 b1 hv0
  go_wp2_with fail
  clear ha
  refine (unhide hat1 w1 (unhide B1)).mono ?_
  rintro e w2 ⟨v1, rfl, hv1, b2⟩
  have B2 := hide (bl_st b2 (unhide B1))
  obtain ⟨b, hb⟩ : ∃ b : Int, a + 1 + (v1 : Int) = b := ⟨_, rfl⟩
  have b1 : a < b := by omega
  have b16 : b ≤ 16 := by omega
  clear hat1 b2 hv1 B1
  go_wp2_with fail
  clear hb
  refine (unhide hwd w2 (unhide B2)).mono ?_
  rintro e w3 ⟨v, xs, rfl, hl, hw, hv, b3⟩
  have B3 := hide (bl_st b3 (unhide B2))
  have HV := hide hv
  have HW := hide hw
  have HL := hide hl
  have hrok : rOK a b = true := decide_eq_true ⟨a1, b1, b16⟩
  have hg0 : gCode xs a b = 0 := by unfold gCode; rw [if_neg (by omega), hw, if_pos rfl, hrok, if_pos rfl]
  have KI := hide (geo23 v xs a b w3 hv (by omega))
  have KS := hide (fun W (hW : intsC W v xs) => geo24 v xs a b W hW (by omega))
  rw [geoR_ok hg0] at KI KS
  obtain ⟨top, ht⟩ : ∃ top, top = 65536 - 65536 % b := ⟨_, rfl⟩
  have HT := hide ht
  rw [← ht] at KI KS
  obtain ⟨g, t, ok, hgF, ht1, hg1, _⟩ := gF_bd (top := top) (a := a) (b := b) xs 0 0
  rw [Int.zero_add] at hgF
  rw [hgF] at KI KS
  dsimp only at KI KS
  have HGF := hide hgF
  have HT1 := hide ht1
  obtain ⟨A1, c1, rfl, hcap⟩ := hv.2
  clear hwd b3 hl hw hv hrok hg0 ht hgF ht1 B2 hcap
  cases ok
  · rw [if_neg (by simp)] at KI KS
    clear hg1
    go_wp2_with fail
    refine (unhide KI).mono ?_
    rintro e w4 ⟨rfl, b4⟩
    have B4 := hide (bl_st b4 (unhide B3))
    have V4 := hide ((unhide HV).below b4)
    clear KI b4 B3 HV
    go_wp2_with fail
    refine (unhide KS w4 (unhide V4)).mono ?_
    rintro e w5 ⟨rfl, rfl⟩
    clear KS
    go_wp2
    go_ret
    exact ⟨rfl, unhide B4⟩
  · rw [if_pos rfl] at KI KS
    obtain ⟨g0, g2, t1⟩ := hg1 rfl
    obtain ⟨G, rfl⟩ : ∃ G : Nat, g = G := ⟨g.toNat, by omega⟩
    have G30 : (G : Int) ≤ 30 := by have := unhide HT1; have := unhide HL; omega
    have T30 : (t : Int) ≤ 30 := by have := unhide HT1; have := unhide HL; omega
    clear hg1 g0 g2 t1
    go_wp2_with fail
    refine (unhide KI).mono ?_
    rintro e w4 ⟨rfl, b4⟩
    have B4 := hide (bl_st b4 (unhide B3))
    have V4 := hide ((unhide HV).below b4)
    clear KI b4 B3 HV
    go_wp2_with fail
    refine (unhide KS w4 (unhide V4)).mono ?_
    rintro e w5 ⟨rfl, hw5⟩
    have hw6 := hw5.symm
    subst hw6
    clear KS
    go_wp2
    go_loopw [14, 15] (fun u i wr => ∃ (j K : Nat), j ≤ G ∧ i = .int .i64 j ∧ K ≤ xs.length ∧ intsC w4 u (xs.drop K) ∧ gF top a b (xs.drop K) K j = ((G : Int), (t : Int), true) ∧ wr = w4) (fun _ i _ => G - (intOf i).toNat)
    case atStart => exact ⟨0, 0, by omega, rfl, by omega, unhide V4, unhide HGF, rfl⟩
    case round =>
      obtain ⟨j, K, hj, rfl, hK, hu, hg, rfl⟩ := hrel
      have hlen := unhide HL
      have ld : (xs.drop K).length ≤ 30 := by rw [List.length_drop]; omega
      have KU := of5 _ (xs.drop K) b wr hu.1 (by omega)
      rcases gF_u (top := top) (a := a) (b := b) (xs.drop K) 0 with ⟨_, m', _, hm, huF, hgF⟩ | ⟨x, m', hm1, hm2, _, huF, hgF⟩
      · rw [hgF] at hg
        simp at hg
      · rw [Int.zero_add] at huF
        have ur := uniR_found (xs := xs.drop K) (b := b) (x := x) (m := m') (by omega) (wOK_drop (unhide HW) K) (by omega) (by omega) (by rw [← unhide HT]; exact huF)
        rw [ur] at KU
        have KU := hide KU
        rw [hgF] at hg
        obtain ⟨A2, c2, rfl, hc2⟩ := hu.2
        have m0 : (0 : Int) ≤ (m' : Int) := by omega
        have m1 : (m' : Int) ≤ 30 := by omega
        by_cases hlt : j < G
        · have q3 : (j : Int) < (G : Int) := by omega
          have hxa : x < a := by
            rcases Int.lt_or_le x a with h | h
            · exact h
            · rw [if_pos h] at hg; simp at hg; omega
          rw [if_neg (by omega)] at hg
          have HG2 : Hid (gF top a b (xs.drop (K + m')) ((K + m' : Nat) : Int) ((j + 1 : Nat) : Int) = ((G : Int), (t : Int), true)) := hide (by rw [← hg, List.drop_drop]; simp)
          obtain ⟨A3, hs, hi⟩ := cut_ints hu m' hm2
          have s1 := hs wr
          have HI := hide hi
          have HJ := hide hlt
          have HK2 : Hid (K + m' ≤ xs.length) := hide (by rw [List.length_drop] at hm2; omega)
          clear hs hi hu hg hgF huF ur hlt hj hm1 hK hlen hc2
          generalize (xs.drop K).length = L at *
          have m2 : (m' : Int) ≤ (L : Int) := by omega
          clear hm2
          go_wp2_with fail
          refine (unhide KU).mono ?_
          rintro e w6 ⟨rfl, hw6⟩
          have hw7 := hw6.symm
          subst hw7
          clear KU
          go_wp2
          go_roundw
          case rel =>
            refine ⟨j + 1, K + m', unhide HJ, by go_num, unhide HK2, ?_, unhide HG2, by first | rfl | trivial⟩
            rw [← List.drop_drop]
            exact unhide HI
          case measure => have := unhide HJ; simp [intOf]; omega
        · obtain rfl : j = G := by omega
          have hxa : a ≤ x := by
            rcases Int.lt_or_le x a with h | h
            · rw [if_neg (by omega)] at hg
              obtain ⟨g', m2, ok', e2, _, h4, _⟩ := gF_bd (top := top) (a := a) (b := b) ((xs.drop K).drop m') ((K : Int) + m') ((j : Int) + 1)
              rw [e2] at hg
              obtain ⟨hg3, hg⟩ := Prod.mk.inj hg
              obtain ⟨_, hg4⟩ := Prod.mk.inj hg
              have := h4 hg4
              omega
            · exact h
          rw [if_pos hxa] at hg
          obtain ⟨_, hg⟩ := Prod.mk.inj hg
          obtain ⟨hte, _⟩ := Prod.mk.inj hg
          have ex : (xs.length : Int) - ((xs.drop K).length : Nat) + (m' : Int) = (t : Int) := by rw [List.length_drop]; omega
          have l0 : (xs.length : Int) = 30 := by omega
          have l1 : ((xs.drop K).length : Int) ≤ 30 := by omega
          have l2 : (0 : Int) ≤ ((xs.drop K).length : Int) := by omega
          clear hu hg hgF huF ur hlt hj hm1 hm2 hK hlen hte hc2
          generalize (xs.drop K).length = L at *
          have HEX : Hid ((30 : Int) - (L : Int) + (m' : Int) = (t : Int)) := hide (by omega)
          clear ex
          go_wp2_with fail
          refine (unhide KU).mono ?_
          rintro e w6 ⟨rfl, hw6⟩
          have hw7 := hw6.symm
          subst hw7
          clear KU
          go_wp2
          go_ret
          exact ⟨ret_bool (by rw [unhide HEX]; simp), unhide B4⟩
end Go.Proofs.Ytafjodaeckiedaa
