/- The contract of a number's decimal text, in limbs. -/
import Derived.Test.YtdhjjjoakcmknaaDoorDecA
import Derived.Test.YtdhjjjoakcmknaaDoorRowTwo
import Derived.Test.YtdhjjjoakcmknaaDoorEqFive
namespace Go.Proofs.YtdhjjjoakcmknaaDoor
open Go.RowKit
set_option maxHeartbeats 4000000
set_option maxRecDepth 20000
def sizeOfV (v : Value) : Nat := match v with | .string s => 79 - s.size | _ => 0
theorem dec_pow {m k : Nat} (h : m < 10 ^ (k + 1)) : m / 10 < 10 ^ k := by
  rw [Nat.div_lt_iff_lt_mul (by omega)]
  rw [Nat.pow_succ] at h
  exact h
theorem empty_nums : ∀ {ds : List Int}, ds = [] → (strOfNums ds).toList.isEmpty = true := fun h => by subst h; decide +kernel
theorem full_nums {ds : List Int} (h : ds ≠ []) : (strOfNums ds).toList.isEmpty = false := by
  cases e : (strOfNums ds).toList.isEmpty with
  | false => rfl
  | true =>
    exfalso
    apply h
    rw [← nums_nil, ByteArray.size]
    have := List.isEmpty_iff.1 e
    rw [Go.ByteArray.toList_eq] at this
    have := congrArg List.length this
    simpa using this
theorem decimal_any (a0 a1 a2 a3 a4 : Int) (w : World) (h : Car a0 a1 a2 a3 a4) (N : Nat) (hN : V5 a0 a1 a2 a3 a4 % pInt = (N : Int)) (hN2 : N < 10 ^ 78) :
    Calls Tryd.prog 22 #[L5 a0 a1 a2 a3 a4] w fun e w' => e = .returned (.string (strOfNums (decL N))) ∧ Below w.heap.size w w' := by
  have H := hide h
  have HN := hide hN
  have HP := hide hN2
  clear h hN hN2
  go_enter Tryd.func22, Tryd.ntmps22
  go_wp2_with fail
  refine (settled_any a0 a1 a2 a3 a4 _ (unhide H)).mono ?_
  rintro e w1 ⟨⟨m0, m1, m2, m3, m4, rfl, hin, hv⟩, hb⟩
  have hA : A5 w1 w.heap.size a0 a1 a2 a3 a4 := (A5.new (W := w) rfl).kept hb
  have hb1 := hide (((Below.refl w.heap.size w).alloc (Nat.le_refl _) _).trans (hb.mono (by simp)))
  have hz : w.heap.size < w1.heap.size := hA.lt
  rw [hA.row]
  have HI := hide hin
  have HV := hide (hv.trans (unhide HN))
  clear hb hA hin hv HN H
  go_wp2
  go_loopw [3] (fun o wr => ∃ (q0 q1 q2 q3 q4 : Int) (m k : Nat) (ds : List Int), o = .string (strOfNums ds) ∧ Hid (In51 q0 q1 q2 q3 q4) ∧ Hid (V5 q0 q1 q2 q3 q4 = (m : Int)) ∧ Hid (DecSt N m ds) ∧ Hid (m < 10 ^ k) ∧ ds.length + k = 78 ∧ Hid (A5 wr w.heap.size q0 q1 q2 q3 q4) ∧ Hid (Below w.heap.size w wr)) (fun o _ => sizeOfV o)
  case atStart => exact ⟨m0, m1, m2, m3, m4, N, 78, [], rfl, HI, HV, hide (dec_start N), HP, rfl, hide (A5.put hz), hide (below_row _ _ _ _ _ _ (unhide hb1) (Nat.le_refl _))⟩
  case round =>
    clear HI HV hb1 hz HP
    obtain ⟨q0, q1, q2, q3, q4, m, k, ds, rfl, HI, HV, HD, HK, hlen, HA, hB⟩ := hrel
    have hz := (unhide HA).lt
    obtain ⟨c0, c1, c2, c3, c4⟩ := (unhide HA).cells
    have he := eq5 q0 q1 q2 q3 q4
    have hsz : (strOfNums ds).size = ds.length := strOfNums_size ds
    have hzero := zero5 (unhide HI) (unhide HV)
    by_cases hd : ds = [] ∨ m ≠ 0
    · have hk : ∃ k', k = k' + 1 := by
        rcases Nat.eq_zero_or_pos k with rfl | h
        · exfalso
          have := unhide HK
          simp at this
          rcases hd with rfl | h
          · simp at hlen
          · exact h this
        · exact ⟨k - 1, by omega⟩
      obtain ⟨k', rfl⟩ := hk
      have S := hide (dec_step (unhide HD) hd)
      have K' := hide (dec_pow (unhide HK))
      have D := fun W => divided_any q0 q1 q2 q3 q4 W (unhide HI)
      have D2 : ∀ W : World, Calls Tryd.prog 31 #[L5 q0 q1 q2 q3 q4, .int .u64 10] W fun e w' => (∃ m0 m1 m2 m3 m4 : Int, e = .returned (.tuple #[L5 m0 m1 m2 m3 m4, .int .u64 ((m % 10 : Nat) : Int)]) ∧ In51 m0 m1 m2 m3 m4 ∧ V5 m0 m1 m2 m3 m4 = ((m / 10 : Nat) : Int)) ∧ Below W.heap.size W w' := fun W => by
        refine (D W).mono ?_
        rintro e w' ⟨⟨m0, m1, m2, m3, m4, r, rfl, hin, hv, hr⟩, hb⟩
        rw [unhide HV] at hv hr
        exact ⟨⟨m0, m1, m2, m3, m4, by rw [hr]; simp, hin, by rw [hv]; simp⟩, hb⟩
      have HD2 := hide D2
      have hm10 : m % 10 < 10 := Nat.mod_lt _ (by omega)
      clear D D2
      generalize m % 10 = dg at *
      generalize m / 10 = mq at *
      have hone : (strOfNums [48 + (dg : Int)]).size = 1 := strOfNums_size _
      have hle : ds.length ≤ 77 := by omega
      have hlen2 := hide hlen
      have hsz2 : (strOfNums ds).size ≤ 77 := by omega
      clear hlen
      rcases Classical.em (ds = []) with hnil | hnil
      · have hem : (strOfNums ds).toList.isEmpty = true := empty_nums hnil
        clear hnil hd
        go_wp2_with fail
        refine (unhide HD2 wr).mono ?_
        rintro e w2 ⟨⟨n0, n1, n2, n3, n4, rfl, hin, hv⟩, hb⟩
        have HI2 := hide hin
        have HV2 := hide hv
        have hA2 := (unhide HA).kept hb
        have hB2 := hide ((unhide hB).trans (hb.mono (unhide hB).size))
        have hz2 := hA2.lt
        have hr2 := hA2.row
        clear hin hv c0 c1 c2 c3 c4 hb HA hB hz
        rw [hr2]
        clear hr2 hA2
        go_wp2_with fail
        refine (itoa_any dg hm10 _).mono ?_
        rintro e w3 ⟨rfl, rfl⟩
        go_wp2
        rw [nums_cons]
        go_roundw
        case rel => exact ⟨n0, n1, n2, n3, n4, mq, k', _, rfl, HI2, HV2, S, K', by have := unhide hlen2; simp; omega, hide (A5.put hz2), hide (below_row _ _ _ _ _ _ (unhide hB2) (Nat.le_refl _))⟩
        case measure => simp [sizeOfV, strOfNums_size]; omega
      · have hem : (strOfNums ds).toList.isEmpty = false := full_nums hnil
        have hm0 : decide (m = 0) = false := by simpa using hd.resolve_left hnil
        rw [hm0] at hzero
        clear hm0 hnil hd
        go_wp2_with fail
        refine (unhide HD2 wr).mono ?_
        rintro e w2 ⟨⟨n0, n1, n2, n3, n4, rfl, hin, hv⟩, hb⟩
        have HI2 := hide hin
        have HV2 := hide hv
        have hA2 := (unhide HA).kept hb
        have hB2 := hide ((unhide hB).trans (hb.mono (unhide hB).size))
        have hz2 := hA2.lt
        have hr2 := hA2.row
        clear hin hv c0 c1 c2 c3 c4 hb HA hB hz
        rw [hr2]
        clear hr2 hA2
        go_wp2_with fail
        refine (itoa_any dg hm10 _).mono ?_
        rintro e w3 ⟨rfl, rfl⟩
        go_wp2
        rw [nums_cons]
        go_roundw
        case rel => exact ⟨n0, n1, n2, n3, n4, mq, k', _, rfl, HI2, HV2, S, K', by have := unhide hlen2; simp; omega, hide (A5.put hz2), hide (below_row _ _ _ _ _ _ (unhide hB2) (Nat.le_refl _))⟩
        case measure => simp [sizeOfV, strOfNums_size]; omega
    · have hne : ds ≠ [] := fun h => hd (.inl h)
      have hm0 : m = 0 := by
        rcases Nat.eq_zero_or_pos m with h | h
        · exact h
        · exact absurd (.inr (by omega)) hd
      have hem : (strOfNums ds).toList.isEmpty = false := full_nums hne
      have ht : decide (m = 0) = true := by simpa using hm0
      rw [ht] at hzero
      subst hm0
      have E := hide (dec_end (unhide HD) hne)
      clear hd
      go_wp2
      go_ret
      exact ⟨by rw [unhide E]; rfl, unhide hB⟩
end Go.Proofs.YtdhjjjoakcmknaaDoor
