/- The law of two who share one secret, walked. -/
import Derived.Test.YtncplefjokbbjaaCurveAll
import Derived.Test.YtncplefjokbbjaaOpPub
import Derived.Test.YtncplefjokbbjaaOpSec
namespace Go.Proofs.Ytncplefjokbbjaa
open Go.RowKit
set_option maxHeartbeats 4000000
set_option maxRecDepth 20000
theorem pp_eq : (PP : Int) = pInt := rfl
theorem mult_low (k u : ByteArray) : lowN (multB k u) = up (lowN u) (numN (clampB k)) % pInt := by
  have h := mult_num k u
  have h1 : up (lowN u) (numN (clampB k)) % pInt < pInt := Int.emod_lt_of_pos _ (by unfold pInt; decide)
  have h0 : 0 ≤ up (lowN u) (numN (clampB k)) % pInt := Int.emod_nonneg _ (by unfold pInt; decide)
  rw [h] at h0 h1 ⊢
  unfold pInt at h1
  exact Int.emod_eq_of_lt h0 (by omega)
theorem mult_cs (k u : ByteArray) : cs (lowN (multB k u)) = cs (up (lowN u) (numN (clampB k))) := by
  rw [cs_eq, mult_low, pp_eq, Int.emod_emod_of_dvd _ (Int.dvd_refl _)]
theorem shared_texts (a b : ByteArray) (ha : a.size = 32) (hb : b.size = 32) : multB a (multB b nineB) = multB b (multB a nineB) ∧ numN (multB a (multB b nineB)) ≠ 0 := by
  have hp : cs (lowN (multB a nineB)) = cs (up 9 (numN (clampB a))) := by rw [mult_cs, nine_num]
  have hq : cs (lowN (multB b nineB)) = cs (up 9 (numN (clampB b))) := by rw [mult_cs, nine_num]
  obtain ⟨h1, h2⟩ := shared_one (clamp_clamped a ha) (clamp_clamped b hb) hp hq
  rw [pp_eq] at h1 h2
  refine ⟨by unfold multB at h1 ⊢; rw [h1], fun h => h2 ?_⟩
  have := mult_num a (multB b nineB)
  rw [h] at this
  exact this
theorem and_and8 (x : Nat) : (x &&& 248) &&& 248 = x &&& 248 := by rw [Nat.and_assoc]; rfl
theorem or_and8 (x : Nat) : (((x &&& 127) ||| 64) &&& 127) ||| 64 = (x &&& 127) ||| 64 := by
  apply Nat.eq_of_testBit_eq
  intro i
  simp only [Nat.testBit_or, Nat.testBit_and]
  cases x.testBit i <;> cases Nat.testBit 127 i <;> cases Nat.testBit 64 i <;> rfl
theorem clampL_twice (xs : List Int) (h : ∀ i, 0 ≤ xs.getD i 0 ∧ xs.getD i 0 < 256) (hl : xs.length = 32) : clampL (clampL xs) = clampL xs := by
  have l1 := clampL_len xs
  have e0 : (clampL xs).getD 0 0 = bits .and .u8 (xs.getD 0 0) 248 := by unfold clampL; simp [List.getD, hl]
  have e31 : (clampL xs).getD 31 0 = bits .or .u8 (bits .and .u8 (xs.getD 31 0) 127) 64 := by unfold clampL; simp [List.getD, hl]
  have c0 := h 0
  have c31 := h 31
  have f0 : bits .and .u8 (bits .and .u8 (xs.getD 0 0) 248) 248 = bits .and .u8 (xs.getD 0 0) 248 := by
    rw [u8_and _ 248 c0.1 c0.2 (by decide) (by decide)]
    rw [show (248 : Int) = ((248 : Nat) : Int) from rfl, u8_and_nat _ _ (Nat.lt_of_le_of_lt Nat.and_le_right (by decide)) (by decide)]
    exact congrArg _ (and_and8 _)
  have f31 : bits .or .u8 (bits .and .u8 (bits .or .u8 (bits .and .u8 (xs.getD 31 0) 127) 64) 127) 64 = bits .or .u8 (bits .and .u8 (xs.getD 31 0) 127) 64 := by
    have hlt : (xs.getD 31 0).toNat &&& 127 < 256 := Nat.lt_of_le_of_lt Nat.and_le_right (by decide)
    have g1 : bits .or .u8 (bits .and .u8 (xs.getD 31 0) 127) 64 = ((((xs.getD 31 0).toNat &&& 127) ||| 64 : Nat) : Int) := by
      rw [u8_and _ 127 c31.1 c31.2 (by decide) (by decide), show (64 : Int) = ((64 : Nat) : Int) from rfl]
      exact u8_or_nat _ _ hlt (by decide)
    have hlt2 : ((xs.getD 31 0).toNat &&& 127) ||| 64 < 256 := Nat.or_lt_two_pow (n := 8) hlt (by decide)
    rw [g1, show (127 : Int) = ((127 : Nat) : Int) from rfl, u8_and_nat _ _ hlt2 (by decide), show (64 : Int) = ((64 : Nat) : Int) from rfl, u8_or_nat _ _ (Nat.lt_of_le_of_lt Nat.and_le_right (by decide)) (by decide)]
    exact congrArg _ (or_and8 _)
  show ((clampL xs).set 0 (bits .and .u8 ((clampL xs).getD 0 0) 248)).set 31 (bits .or .u8 (bits .and .u8 ((clampL xs).getD 31 0) 127) 64) = clampL xs
  rw [e0, e31, f0, f31]
  apply List.ext_getElem?
  intro i
  unfold clampL
  rw [List.getElem?_set, List.getElem?_set, List.getElem?_set, List.getElem?_set]
  simp only [List.length_set]
  by_cases h1 : 31 = i <;> by_cases h2 : 0 = i <;> simp_all
theorem byteI_nums (xs : List Int) (h : ∀ i, 0 ≤ xs.getD i 0 ∧ xs.getD i 0 < 256) : byteI (strOfNums xs) = xs := by
  unfold byteI
  rw [strOfNums_data, List.map_map]
  apply List.ext_getElem?
  intro i
  have hi := h i
  rw [List.getElem?_map]
  rw [List.getD_eq_getElem?_getD] at hi
  cases e : xs[i]? with
  | none => rfl
  | some x =>
    rw [e] at hi
    simp only [Option.getD_some] at hi
    simp only [Option.map_some, Function.comp_apply, UInt8.toNat_ofNat']
    congr 1
    omega
theorem clampL_bd (s : ByteArray) (hs : s.size = 32) (i : Nat) : 0 ≤ (clampL (byteI s)).getD i 0 ∧ (clampL (byteI s)).getD i 0 < 256 := by
  have hb := byteI_bd s i
  have hl : (byteI s).length = 32 := (byteI_len s).trans hs
  by_cases h0 : i = 0
  · subst h0
    have : (clampL (byteI s)).getD 0 0 = bits .and .u8 ((byteI s).getD 0 0) 248 := by unfold clampL; simp [List.getD, hl]
    rw [this]
    exact ⟨bits_lo_u8 _ _ _, by have := bits_hi_u8 .and ((byteI s).getD 0 0) 248; omega⟩
  · by_cases h31 : i = 31
    · subst h31
      have : (clampL (byteI s)).getD 31 0 = bits .or .u8 (bits .and .u8 ((byteI s).getD 31 0) 127) 64 := by unfold clampL; simp [List.getD, hl]
      rw [this]
      exact ⟨bits_lo_u8 _ _ _, by have := bits_hi_u8 .or (bits .and .u8 ((byteI s).getD 31 0) 127) 64; omega⟩
    · have : (clampL (byteI s)).getD i 0 = (byteI s).getD i 0 := by
        unfold clampL
        rw [List.getD_eq_getElem?_getD, List.getElem?_set_ne (by omega), List.getElem?_set_ne (by omega), ← List.getD_eq_getElem?_getD]
      rw [this]; exact hb
theorem clampB_twice (s : ByteArray) (hs : s.size = 32) : clampB (clampB s) = clampB s := by
  unfold clampB
  rw [byteI_nums _ (clampL_bd s hs), clampL_twice _ (byteI_bd s) ((byteI_len s).trans hs)]
theorem pub_twice (s : ByteArray) (hs : s.size = 32) : multB (clampB s) nineB = multB s nineB := by
  unfold multB; rw [clampB_twice s hs]
theorem pubV_32 (s : ByteArray) (hs : s.size = 32) : PubV s = .tuple #[.string (multB s nineB), .int .i64 0] := by
  rw [PubV, if_neg (by omega), if_pos hs]
theorem secV_32 (a b : ByteArray) (ha : a.size = 32) (hb : b.size = 32) (h : numN (multB a b) ≠ 0) : SecV a b = .tuple #[.string (multB a b), .int .i64 0] := by
  rw [SecV, long_f (by omega), long_f (by omega), if_neg (by simp), if_pos ⟨ha, hb⟩, if_neg h]
theorem clampV_32 (s : ByteArray) (hs : s.size = 32) : ClampV s = .tuple #[.string (clampB s), .int .i64 0] := by
  rw [ClampV, if_neg (by omega), if_pos hs]
theorem law_Shared (w : World) (A : Option Addr) (n cap : Nat) (hn : n ≤ maxLen) (hA : codeAt w A n) (B : Option Addr) (m cbp : Nat) (hm : m ≤ maxLen) (hB : codeAt w B m) :
    Calls Try.prog 6 #[.slice A n cap, .slice B m cbp] w fun e w' => e = .returned (.bool true) ∧ Below w.heap.size w w' := by
  have hn' := hn
  have hm' := hm
  unfold maxLen at hn' hm'
  by_cases h1 : n ≤ 1048576
  · by_cases h2 : m ≤ 1048576
    · have HA := hide hA
      have HB := hide hB
      have Hn := hide hn
      have Hm := hide hm
      clear hA hB hn hm
      go_enter Try.func6, Try.ntmps6
      go_wp2_with fail
      refine (blobOf_any 32 A n cap _ (by omega) (unhide Hn) (unhide HA)).mono ?_
      rintro e w1 ⟨a, rfl, ha, hb1⟩
      have b1 := hide hb1
      have HB1 := hide (codeAt_below (unhide HB) hb1)
      clear hb1 HB HA
      go_wp2_with fail
      refine (blobOf_any 32 B m cbp _ (by omega) (unhide Hm) (unhide HB1)).mono ?_
      rintro e w2 ⟨b, rfl, hb, hb2⟩
      have b2 := hide ((unhide b1).trans (hb2.mono (unhide b1).size))
      clear hb2 HB1 b1
      have P := hide (pubV_32 a ha)
      have Q := hide (pubV_32 b hb)
      have sq := mult_size b nineB
      have sp := mult_size a nineB
      obtain ⟨e1, e2⟩ := shared_texts a b ha hb
      have X := hide (secV_32 a _ ha sq e2)
      have Y := hide (secV_32 b _ hb sp (by rw [← e1]; exact e2))
      have C := hide (clampV_32 a ha)
      have K := hide (pubV_32 (clampB a) ((clampB_size a).trans ha))
      have E := hide e1
      have T := hide (pub_twice a ha)
      clear e1 e2 sq sp ha hb
      go_wp2_with fail
      refine (impl_Pub a _).mono ?_
      rintro e w3 ⟨rfl, hb3⟩
      rw [unhide P]
      have b3 := hide ((unhide b2).trans (hb3.mono (unhide b2).size))
      clear hb3 b2
      go_wp2_with fail
      refine (impl_Pub b _).mono ?_
      rintro e w4 ⟨rfl, hb4⟩
      rw [unhide Q]
      have b4 := hide ((unhide b3).trans (hb4.mono (unhide b3).size))
      clear hb4 b3
      go_wp2_with fail
      refine (spec_Pub a _).mono ?_
      rintro e w5 ⟨rfl, hb5⟩
      rw [unhide P]
      have b5 := hide ((unhide b4).trans (hb5.mono (unhide b4).size))
      clear hb5 b4
      go_wp2_with fail
      refine (impl_Sec a (multB b nineB) _).mono ?_
      rintro e w6 ⟨rfl, hb6⟩
      rw [unhide X]
      have b6 := hide ((unhide b5).trans (hb6.mono (unhide b5).size))
      clear hb6 b5
      go_wp2_with fail
      refine (impl_Sec b (multB a nineB) _).mono ?_
      rintro e w7 ⟨rfl, hb7⟩
      rw [unhide Y, ← unhide E]
      have b7 := hide ((unhide b6).trans (hb7.mono (unhide b6).size))
      clear hb7 b6
      go_wp2_with fail
      refine (impl_Clamp a _).mono ?_
      rintro e w8 ⟨rfl, hb8⟩
      rw [unhide C]
      have b8 := hide ((unhide b7).trans (hb8.mono (unhide b7).size))
      clear hb8 b7
      go_wp2_with fail
      refine (impl_Pub (clampB a) _).mono ?_
      rintro e w9 ⟨rfl, hb9⟩
      rw [unhide K, unhide T]
      have b9 := hide ((unhide b8).trans (hb9.mono (unhide b8).size))
      clear hb9 b8
      go_wp2
      go_ret
      exact ⟨rfl, unhide b9⟩
    · go_enter Try.func6, Try.ntmps6
      go_wp2
      go_ret
      exact ⟨rfl, Below.refl _ _⟩
  · go_enter Try.func6, Try.ntmps6
    go_wp2
    go_ret
    exact ⟨rfl, Below.refl _ _⟩
end Go.Proofs.Ytncplefjokbbjaa
