/- The law of decimal texts and of numbers that are read, walked. -/
import Derived.Test.YtdhjjjoakcmknaaDoorDecD
import Derived.Test.YtdhjjjoakcmknaaDoorOf
import Derived.Test.YtdhjjjoakcmknaaDoorAt
namespace Go.Proofs.YtdhjjjoakcmknaaDoor
open Go.RowKit
set_option maxHeartbeats 8000000
set_option maxRecDepth 20000
theorem mod_nat (v : Int) : ∃ n : Nat, v % pInt = (n : Int) ∧ n < pN := by
  have h0 : 0 ≤ v % pInt := Int.emod_nonneg _ (by unfold pInt; decide)
  have h1 : v % pInt < pInt := Int.emod_lt_of_pos _ (by unfold pInt; decide)
  exact ⟨(v % pInt).toNat, by omega, by unfold pN; unfold pInt at h0 h1 ⊢; omega⟩
theorem enc_ok (n : Nat) (h : n < pN) : okB (enc (n : Int)) = true ∧ numN (enc (n : Int)) = n ∧ (enc (n : Int)).size = 32 := by
  have e := numN_enc n (by unfold pN at h; omega)
  refine ⟨?_, e, enc_size n⟩
  unfold okB
  rw [decide_eq_true_iff, e]
  exact ⟨enc_size n, h⟩
theorem dec_small (n : Nat) (h : n < 1000000) : DecV (enc ((n : Int) % pInt)) = .tuple #[.string (strOfNums (decL n)), .int .i64 0] := by
  have e : (n : Int) % pInt = (n : Int) := by unfold pInt; omega
  have hp : n < pN := by unfold pN; omega
  obtain ⟨h1, h2, h3⟩ := enc_ok n hp
  rw [e, DecV, if_neg (by omega), if_pos h1, h2]
theorem enc_max (v : Int) : (enc (v % pInt)).size ≤ maxLen := by
  obtain ⟨n, e, _⟩ := mod_nat v
  rw [e, enc_size]; unfold maxLen; omega
theorem red_read (s : ByteArray) (h : s.size = 32) : readV s = .tuple #[.string (redB s), .int .i64 0] := by
  rw [readV, if_neg (by omega), if_pos h]
theorem red_enc (s : ByteArray) : ∃ n : Nat, n < pN ∧ redB s = enc (n : Int) := by
  obtain ⟨n, e, hn⟩ := mod_nat (((numN s : Nat) : Int) % 57896044618658097711785492504343953926634992332820282019728792003956564819968)
  exact ⟨n, hn, by unfold redB; rw [e]⟩
theorem red_again (s : ByteArray) : okB (redB s) = true ∧ readV (redB s) = .tuple #[.string (redB s), .int .i64 0] := by
  obtain ⟨n, hn, e⟩ := red_enc s
  obtain ⟨h1, h2, h3⟩ := enc_ok n hn
  rw [e]
  refine ⟨h1, ?_⟩
  rw [red_read _ h3]
  unfold redB
  rw [h2]
  have : (n : Int) % 57896044618658097711785492504343953926634992332820282019728792003956564819968 % pInt = (n : Int) := by
    unfold pN at hn; unfold pInt; omega
  rw [this]
theorem law_Decimal (w : World) (A : Option Addr) (n cap : Nat) (hn : n ≤ maxLen) (hA : codeAt w A n) (B : Option Addr) (m cbp : Nat) (hm : m ≤ maxLen) (hB : codeAt w B m) :
    Calls Tryd.prog 3 #[.slice A n cap, .slice B m cbp] w fun e w' => e = .returned (.bool true) ∧ Below w.heap.size w w' := by
  have hn' := hn
  have hm' := hm
  unfold maxLen at hn' hm'
  by_cases h1 : n ≤ 1048576
  · by_cases h2 : m ≤ 1048576
    · have HA := hide hA
      have HB := hide hB
      have Hn := hide hn
      clear hA hB hn hm
      go_enter Tryd.func3, Tryd.ntmps3
      go_wp2_with fail
      refine (at_any w A n cap 0 1000 h1 (by omega) (by omega) (by omega) (unhide HA)).mono ?_
      rintro e w1 ⟨x, rfl, hx, hb1⟩
      have b1 := hide hb1
      have HB1 := hide (codeAt_below (unhide HB) hb1)
      have HA1 := hide (codeAt_below (unhide HA) hb1)
      have qx : (x : Int) < 1000 := by omega
      clear hb1 HB HA
      go_wp2_with fail
      refine (at_any w1 B m cbp 0 1000 h2 (by omega) (by omega) (by omega) (unhide HB1)).mono ?_
      rintro e w2 ⟨y, rfl, hy, hb2⟩
      have b2 := hide ((unhide b1).trans (hb2.mono (unhide b1).size))
      have HA2 := hide (codeAt_below (unhide HA1) hb2)
      have qy : (y : Int) < 1000 := by omega
      clear hb2 HB1 HA1 b1
      go_wp2_with fail
      rw [show (x : Int) * 1000 + (y : Int) = ((x * 1000 + y : Nat) : Int) by omega]
      have hN : x * 1000 + y < 1000000 := by omega
      generalize x * 1000 + y = N at *
      clear qx qy hx hy
      have qN : (N : Int) < 1000000 := by omega
      refine (impl_of_in (N : Int) (by omega) (by omega) _).mono ?_
      rintro e w3 ⟨rfl, hb3⟩
      have b3 := hide ((unhide b2).trans (hb3.mono (unhide b2).size))
      have HA3 := hide (codeAt_below (unhide HA2) hb3)
      clear hb3 HA2 b2
      have D := hide (dec_small N hN)
      go_wp2_with fail
      refine (impl_Dec (enc ((N : Int) % pInt)) _).mono ?_
      rintro e w4 ⟨rfl, hb4⟩
      rw [unhide D]
      have b4 := hide ((unhide b3).trans (hb4.mono (unhide b3).size))
      have HA4 := hide (codeAt_below (unhide HA3) hb4)
      clear hb4 HA3 b3
      go_wp2_with fail
      refine (spec_Dec (enc ((N : Int) % pInt)) (enc_max _) _).mono ?_
      rintro e w5 ⟨rfl, hb5⟩
      rw [unhide D]
      have b5 := hide ((unhide b4).trans (hb5.mono (unhide b4).size))
      have HA5 := hide (codeAt_below (unhide HA4) hb5)
      clear hb5 HA4 b4 D
      go_wp2
      go_loopw [12, 13] (fun o c wr => ∃ (ds : List Int) (q k : Nat), o = .string (strOfNums ds) ∧ c = .int .i64 q ∧ q < 1000000 ∧ Hid (DecSt N q ds) ∧ Hid (q < 10 ^ k) ∧ ds.length + k = 78 ∧ Hid (Below w.heap.size w wr) ∧ Hid (codeAt wr A n)) (fun o _ _ => sizeOfV o)
      case atStart => exact ⟨[], N, 78, rfl, rfl, hN, hide (dec_start N), hide (Nat.lt_trans hN (by decide)), rfl, b5, HA5⟩
      case round =>
        clear b5 HA5
        obtain ⟨ds, q, k, rfl, rfl, hq, HD, HK, hlen, hB, HA6⟩ := hrel
        have qq : (q : Int) < 1000000 := by omega
        by_cases hd : ds = [] ∨ q ≠ 0
        · have hk : ∃ k2, k = k2 + 1 := by
            rcases Nat.eq_zero_or_pos k with rfl | h
            · exfalso
              have := unhide HK
              simp at this
              rcases hd with rfl | h
              · simp at hlen
              · exact h this
            · exact ⟨k - 1, by omega⟩
          obtain ⟨k2, rfl⟩ := hk
          have S := hide (dec_step (unhide HD) hd)
          have K2 := hide (dec_pow (unhide HK))
          have hsz2 : (strOfNums ds).size ≤ 77 := by rw [strOfNums_size]; omega
          have hone : (strOfNums [48 + ((q % 10 : Nat) : Int)]).size = 1 := strOfNums_size _
          have hlen2 := hide hlen
          have e1 : (q : Int) % 10 = ((q % 10 : Nat) : Int) := by omega
          have e2 : (q : Int) / 10 = ((q / 10 : Nat) : Int) := by omega
          have hm10 : ((q % 10 : Nat) : Int) < 10 := by omega
          have hq10 : q / 10 < 1000000 := by omega
          have hcv := fun z : Int => conv_one (wr.alloc (.cells #[.int .u8 z] 5)) wr.heap.size z (heap_alloc_new wr _)
          clear hlen
          by_cases h0 : q = 0
          · have hnil := hd.resolve_right (fun h => h h0)
            subst h0
            have hem := empty_nums hnil
            have S2 : Hid (DecSt N 0 (48 :: ds)) := unhide S
            have hone2 : (strOfNums [48]).size = 1 := strOfNums_size _
            clear hd hnil S hone e1 e2 hm10 hq10 HD HK qq hq
            go_wp2
            rw [nums_cons]
            go_roundw
            case rel => exact ⟨48 :: ds, 0, k2, rfl, rfl, by omega, S2, K2, by have := unhide hlen2; simp; omega, hide ((unhide hB).alloc (unhide hB).size _), hide (codeAt_below (unhide HA6) ((Below.refl _ _).alloc (Nat.le_refl _) _))⟩
            case measure => have := unhide hlen2; simp [sizeOfV, strOfNums_size]; omega
          · have hpos : (0 : Int) < (q : Int) := by omega
            generalize q % 10 = dg at *
            generalize q / 10 = mq at *
            clear hd
            go_wp2
            rw [nums_cons]
            go_roundw
            case rel => exact ⟨_, mq, k2, rfl, rfl, hq10, S, K2, by have := unhide hlen2; simp; omega, hide ((unhide hB).alloc (unhide hB).size _), hide (codeAt_below (unhide HA6) ((Below.refl _ _).alloc (Nat.le_refl _) _))⟩
            case measure => have := unhide hlen2; simp [sizeOfV, strOfNums_size]; omega
        · have hne : ds ≠ [] := fun h => hd (.inl h)
          have h0 : q = 0 := by
            rcases Nat.eq_zero_or_pos q with h | h
            · exact h
            · exact absurd (.inr (by omega)) hd
          have hem := full_nums hne
          have E := hide (dec_end (show DecSt N 0 ds by have := unhide HD; rwa [h0] at this) hne)
          clear hd
          subst h0
          clear hne HD HK hlen hq qq
          go_wp2_with fail
          refine (blobOf_any 32 A n cap wr (by omega) (unhide Hn) (unhide HA6)).mono ?_
          rintro e w6 ⟨raw, rfl, hraw, hb6⟩
          have b6 := hide ((unhide hB).trans (hb6.mono (unhide hB).size))
          have R := hide (red_read raw hraw)
          obtain ⟨hok, hag⟩ := red_again raw
          have O := hide hok
          have G := hide hag
          clear hb6 hB HA6 hok hag hraw
          go_wp2_with fail
          refine (impl_read raw _).mono ?_
          rintro e w7 ⟨rfl, hb7⟩
          rw [unhide R]
          have b7 := hide ((unhide b6).trans (hb7.mono (unhide b6).size))
          clear hb7 b6
          go_wp2_with fail
          refine (spec_read raw _).mono ?_
          rintro e w8 ⟨rfl, hb8⟩
          rw [unhide R]
          have b8 := hide ((unhide b7).trans (hb8.mono (unhide b7).size))
          clear hb8 b7
          go_wp2_with fail
          refine (impl_read (redB raw) _).mono ?_
          rintro e w9 ⟨rfl, hb9⟩
          rw [unhide G]
          have b9 := hide ((unhide b8).trans (hb9.mono (unhide b8).size))
          clear hb9 b8
          rw [unhide E]
          go_wp2_with fail
          refine (impl_ok (redB raw) _).mono ?_
          rintro e w10 ⟨rfl, hb10⟩
          rw [unhide O]
          have b10 := hide ((unhide b9).trans (hb10.mono (unhide b9).size))
          clear hb10 b9
          go_wp2
          go_ret
          exact ⟨rfl, unhide b10⟩
    · go_enter Tryd.func3, Tryd.ntmps3
      go_wp2
      go_ret
      exact ⟨rfl, Below.refl _ _⟩
  · go_enter Tryd.func3, Tryd.ntmps3
    go_wp2
    go_ret
    exact ⟨rfl, Below.refl _ _⟩
end Go.Proofs.YtdhjjjoakcmknaaDoor
