/- StreamXor on both sides. -/
import Derived.Test.YtcikpcehdfnhfaaDoorHlp
import Derived.Test.YtcikpcehdfnhfaaDoorXor
namespace Go.Proofs.YtcikpcehdfnhfaaDoor
open Go.RowKit
set_option maxHeartbeats 4000000
set_option maxRecDepth 20000
/-- the bytes and the code that StreamXor answers -/
def sxC (key nonce : ByteArray) (c : Int) (n : Nat) : Int := if scode key nonce (decide (65536 < n)) ≠ 0 then scode key nonce (decide (65536 < n)) else if 0 ≤ c ∧ c ≤ 4294966271 then 0 else 4
def sxL (key nonce : ByteArray) (c : Int) (xs : List Int) : List Int := if sxC key nonce c xs.length = 0 then xorL key nonce c xs else []
theorem sx_nil {key nonce : ByteArray} {c : Int} {xs : List Int} {e : Int} (h : sxC key nonce c xs.length = e) (he : e ≠ 0) : sxL key nonce c xs = [] := by
  unfold sxL; rw [if_neg (by rw [h]; exact he)]
theorem own_nil (base : Nat) (w : World) : ownB base w (.slice none 0 0) [] := ⟨(fun x hx => by cases hx), .inl ⟨rfl, rfl⟩⟩
theorem own_none (w : World) : ownB w.heap.size (w.alloc (.cells #[] 5)) (.slice (some ⟨w.heap.size, 0, none⟩) 0 0) [] :=
  ⟨(fun x hx => by cases hx), .inr ⟨_, _, [], rfl, Nat.le_refl _, heap_at _ _ _ rfl, Nat.le_refl _⟩⟩
theorem impl_SX (key nonce : ByteArray) (c : Int) (xs : List Int) (v : Value) (w : World) (hv : bytesV w v xs) (t : TypeId) (fr : Nat × Nat) (hq : w.heap[0]? = some (.cells qArr t fr)) :
    Calls Tryd.prog 9 #[.string key, .string nonce, .int .i64 c, v] w fun e w' => ∃ r, e = .returned (.tuple #[r, .int .i64 (sxC key nonce c xs.length)]) ∧ ownB w.heap.size w' r (sxL key nonce c xs) ∧ Below w.heap.size w w' := by
  have h0 : 0 < w.heap.size := (Array.getElem?_eq_some_iff.1 hq).1
  have hA : ∃ A cap, v = .slice A xs.length cap := by obtain ⟨A, cap, h, _⟩ := hv; exact ⟨A, cap, h⟩
  obtain ⟨A, cap, rfl⟩ := hA
  have hb0 : Below w.heap.size w (w.alloc (.cells #[.slice A xs.length cap] 22)) := (Below.refl _ _).alloc (Nat.le_refl _) _
  have hs := scode_any key nonce (.slice (some ⟨w.heap.size, 0, none⟩) 1 1) (decide (65536 < xs.length)) (w.alloc (.cells #[.slice A xs.length cap] 22)) (fun w1 hb1 => long_list A xs.length cap _ rfl w1 w.heap.size (by
    rw [cell_below hb1 (by simp), Go.cell_of_row _ _ _ _ _ _ (heap_alloc_new w _)]; rfl))
  have HS := hide hs
  have HV := hide hv
  have HQ := hide hq
  have H0 := hide h0
  have HB0 := hide hb0
  clear hs hv hq h0 hb0
  rcases scode_cases key nonce (decide (65536 < xs.length)) with e0 | e0 | e0
  · obtain ⟨h1, h2, h3⟩ := scode_ok e0
    have hn : xs.length ≤ 65536 := by simpa using h3
    by_cases h4 : 0 ≤ c ∧ c ≤ 4294966271
    · have eC : sxC key nonce c xs.length = 0 := by unfold sxC; rw [if_neg (by simp [e0]), if_pos h4]
      have eL : sxL key nonce c xs = xorL key nonce c xs := by unfold sxL; rw [if_pos eC]
      rw [e0] at HS
      rw [eC, eL]
      have hst := hide (start23 key nonce h1 h2)
      have hxo := hide (fun W (hb : Below w.heap.size w W) => xored24 key nonce c h4.1 h4.2 xs hn (.slice A xs.length cap) W ((unhide HV).below hb) t fr ((hb.block 0 (unhide H0)).trans (unhide HQ)))
      obtain ⟨c0, c1⟩ := h4
      clear h1 h2 h3 e0 eC eL
      generalize ((startW key nonce 0).map wV).toArray = S at *
      generalize xorL key nonce c xs = R at *
      generalize xs.length = n at *
      go_enter Tryd.func9, Tryd.ntmps9
      go_wp2_with fail
      refine (unhide HS).mono ?_
      rintro e w1 ⟨rfl, hb1⟩
      have hb1' := (unhide HB0).trans (hb1.mono (by simp))
      clear hb1
      go_wp2_with fail
      refine (unhide hst w1).mono ?_
      rintro e w2 ⟨rfl, hb2⟩
      have hb2' := hb1'.trans (hb2.mono hb1'.size)
      clear hb2 hb1'
      have H2 := hide hb2'
      clear hb2'
      go_wp2_with fail
      refine (unhide hxo w2 (unhide H2)).mono ?_
      rintro e w3 ⟨r, rfl, ho, hb3⟩
      have H3 := hide ((unhide H2).trans (hb3.mono (unhide H2).size))
      have HO := hide (ho.lower (unhide H2).size)
      clear ho hb3
      go_wp2
      go_returns
      exact ⟨_, rfl, unhide HO, unhide H3⟩
    · have eC : sxC key nonce c xs.length = 4 := by unfold sxC; rw [if_neg (by simp [e0]), if_neg h4]
      rw [sx_nil eC (by decide), eC]
      rw [e0] at HS
      clear h1 h2 h3 e0 eC
      generalize xs.length = n at *
      by_cases h5 : c < 0
      · clear h4
        go_enter Tryd.func9, Tryd.ntmps9
        go_wp2_with fail
        refine (unhide HS).mono ?_
        rintro e w1 ⟨rfl, hb1⟩
        have hb1' := (unhide HB0).trans (hb1.mono (by simp))
        clear hb1
        go_wp2
        go_returns
        exact ⟨_, rfl, own_nil _ _, hb1'⟩
      · have h6 : 0 ≤ c := by omega
        have h7 : 4294966271 < c := by omega
        clear h4 h5
        go_enter Tryd.func9, Tryd.ntmps9
        go_wp2_with fail
        refine (unhide HS).mono ?_
        rintro e w1 ⟨rfl, hb1⟩
        have hb1' := (unhide HB0).trans (hb1.mono (by simp))
        clear hb1
        go_wp2
        go_returns
        exact ⟨_, rfl, own_nil _ _, hb1'⟩
  all_goals
    have eC : sxC key nonce c xs.length = scode key nonce (decide (65536 < xs.length)) := by unfold sxC; rw [if_pos (by simp [e0])]
    rw [sx_nil eC (by simp [e0]), eC]
    rw [e0] at HS ⊢
    clear e0 eC
    generalize xs.length = n at *
    go_enter Tryd.func9, Tryd.ntmps9
    go_wp2_with fail
    refine (unhide HS).mono ?_
    rintro e w1 ⟨rfl, hb1⟩
    have hb1' := (unhide HB0).trans (hb1.mono (by simp))
    clear hb1
    go_wp2
    go_returns
    exact ⟨_, rfl, own_nil _ _, hb1'⟩
theorem spec_SX (key nonce : ByteArray) (c : Int) (xs : List Int) (v : Value) (w : World) (hv : bytesV w v xs) :
    Calls Tryd.prog 10 #[.string key, .string nonce, .int .i64 c, v] w fun e w' => ∃ r, e = .returned (.tuple #[r, .int .i64 (sxC key nonce c xs.length)]) ∧ ownB w.heap.size w' r (sxL key nonce c xs) ∧ Below w.heap.size w w' := by
  have hA : ∃ A cap, v = .slice A xs.length cap := by obtain ⟨A, cap, h, _⟩ := hv; exact ⟨A, cap, h⟩
  obtain ⟨A, cap, rfl⟩ := hA
  have HV := hide hv
  have ON := hide (own_none w)
  have BN := hide ((Below.refl w.heap.size w).alloc (Nat.le_refl _) (.cells #[] 5))
  clear hv
  by_cases h1 : 65536 < key.size
  · have e0 : scode key nonce (decide (65536 < xs.length)) = 2 := by unfold scode; rw [if_pos (by omega)]
    have eC : sxC key nonce c xs.length = 2 := by unfold sxC; rw [if_pos (by simp [e0]), e0]
    rw [sx_nil eC (by decide), eC]
    have h1' : (65536 : Int) < (key.size : Int) := by omega
    clear h1 e0 eC
    generalize xs.length = n at *
    go_enter Tryd.func10, Tryd.ntmps10
    go_wp2
    go_returns
    exact ⟨_, rfl, unhide ON, unhide BN⟩
  · by_cases h2 : 65536 < nonce.size
    · have e0 : scode key nonce (decide (65536 < xs.length)) = 2 := by unfold scode; rw [if_pos (by omega)]
      have eC : sxC key nonce c xs.length = 2 := by unfold sxC; rw [if_pos (by simp [e0]), e0]
      rw [sx_nil eC (by decide), eC]
      have h1' : (key.size : Int) ≤ 65536 := by omega
      have h2' : (65536 : Int) < (nonce.size : Int) := by omega
      clear h1 h2 e0 eC
      generalize xs.length = n at *
      go_enter Tryd.func10, Tryd.ntmps10
      go_wp2
      go_returns
      exact ⟨_, rfl, unhide ON, unhide BN⟩
    · have h1' : (key.size : Int) ≤ 65536 := by omega
      have h2' : (nonce.size : Int) ≤ 65536 := by omega
      by_cases h3 : 65536 < xs.length
      · have e0 : scode key nonce (decide (65536 < xs.length)) = 2 := by unfold scode; rw [if_pos (by simp [h3])]
        have eC : sxC key nonce c xs.length = 2 := by unfold sxC; rw [if_pos (by simp [e0]), e0]
        rw [sx_nil eC (by decide), eC]
        have h3' : (65536 : Int) < (xs.length : Int) := by omega
        clear h1 h2 h3 e0 eC
        generalize xs.length = n at *
        go_enter Tryd.func10, Tryd.ntmps10
        go_wp2
        go_returns
        exact ⟨_, rfl, unhide ON, unhide BN⟩
      · have h3' : (xs.length : Int) ≤ 65536 := by omega
        have hlb : decide (65536 < xs.length) = false := by simpa using h3
        have hk := hide (keys_any key nonce w)
        have hi := hide (in_any c 0 4294966271 w)
        by_cases h4 : key.size = 32 ∧ nonce.size = 12
        · have e0 : scode key nonce (decide (65536 < xs.length)) = 0 := by rw [hlb]; unfold scode; rw [if_neg (by simp; omega), if_neg (by omega)]
          rw [show (decide (key.size = 32) && decide (nonce.size = 12)) = true by simp [h4]] at hk
          by_cases h5 : 0 ≤ c ∧ c ≤ 4294966271
          · have eC : sxC key nonce c xs.length = 0 := by unfold sxC; rw [if_neg (by simp [e0]), if_pos h5]
            have eL : sxL key nonce c xs = xorL key nonce c xs := by unfold sxL; rw [if_pos eC]
            rw [eC, eL]
            rw [show (decide (0 ≤ c) && decide (c ≤ 4294966271)) = true by simp [h5]] at hi
            have hx := hide (xor27 key nonce h4.1 h4.2 c h5.1 h5.2 xs (by omega) (.slice A xs.length cap) w (unhide HV))
            clear h1 h2 h3 h4 h5 e0 eC eL hlb
            generalize xorL key nonce c xs = R at *
            generalize xs.length = n at *
            go_enter Tryd.func10, Tryd.ntmps10
            go_wp2_with fail
            refine (unhide hk).mono ?_
            rintro e w1 ⟨rfl, rfl⟩
            go_wp2_with fail
            refine (unhide hi).mono ?_
            rintro e w1 ⟨rfl, rfl⟩
            go_wp2_with fail
            refine (unhide hx).mono ?_
            rintro e w1 ⟨r, rfl, ho, hb⟩
            have HO := hide ho
            have HB := hide hb
            clear ho hb
            go_wp2
            go_returns
            exact ⟨_, rfl, unhide HO, unhide HB⟩
          · have eC : sxC key nonce c xs.length = 4 := by unfold sxC; rw [if_neg (by simp [e0]), if_neg h5]
            rw [sx_nil eC (by decide), eC]
            rw [show (decide (0 ≤ c) && decide (c ≤ 4294966271)) = false by rw [Bool.eq_false_iff]; simpa using h5] at hi
            clear h1 h2 h3 h4 h5 e0 eC hlb
            generalize xs.length = n at *
            go_enter Tryd.func10, Tryd.ntmps10
            go_wp2_with fail
            refine (unhide hk).mono ?_
            rintro e w1 ⟨rfl, rfl⟩
            go_wp2_with fail
            refine (unhide hi).mono ?_
            rintro e w1 ⟨rfl, rfl⟩
            go_wp2
            go_returns
            exact ⟨_, rfl, unhide ON, unhide BN⟩
        · have e0 : scode key nonce (decide (65536 < xs.length)) = 1 := by rw [hlb]; unfold scode; rw [if_neg (by simp; omega), if_pos (by omega)]
          have eC : sxC key nonce c xs.length = 1 := by unfold sxC; rw [if_pos (by simp [e0]), e0]
          rw [sx_nil eC (by decide), eC]
          rw [show (decide (key.size = 32) && decide (nonce.size = 12)) = false by rw [Bool.eq_false_iff]; simpa using h4] at hk
          clear h1 h2 h3 h4 e0 eC hlb hi
          generalize xs.length = n at *
          go_enter Tryd.func10, Tryd.ntmps10
          go_wp2_with fail
          refine (unhide hk).mono ?_
          rintro e w1 ⟨rfl, rfl⟩
          go_wp2
          go_returns
          exact ⟨_, rfl, unhide ON, unhide BN⟩
end Go.Proofs.YtcikpcehdfnhfaaDoor
