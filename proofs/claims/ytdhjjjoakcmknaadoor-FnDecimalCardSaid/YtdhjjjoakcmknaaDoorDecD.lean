/- The specification's decimal text, walked. -/
import Derived.Test.YtdhjjjoakcmknaaDoorDecC
import Derived.Test.YtdhjjjoakcmknaaDoorDecB
import Derived.Test.YtdhjjjoakcmknaaDoorCodeOne
namespace Go.Proofs.YtdhjjjoakcmknaaDoor
open Go.RowKit
set_option maxHeartbeats 8000000
set_option maxRecDepth 20000
def RM (W : World) (b : Nat) (xs : List Int) (rest : List Value) : Prop := W.heap[b]? = some (.cells (xs.map (Value.int .u8) ++ rest).toArray 5 (xs.length + rest.length, xs.length + rest.length + 1))
theorem RM.row {W : World} {b : Nat} {xs : List Int} {rest : List Value} (h : RM W b xs rest) : rowM W b 5 .u8 xs rest = W := rowM_same W b 5 .u8 xs rest h
theorem RM.put (W : World) (b : Nat) (xs : List Int) (rest : List Value) (h : b < W.heap.size) : RM (rowM W b 5 .u8 xs rest) b xs rest := get_rowM W b 5 .u8 xs rest h
theorem RM.alloc {W : World} {b : Nat} {xs : List Int} {rest : List Value} (h : RM W b xs rest) (o : Obj) : RM (W.alloc o) b xs rest := by
  unfold RM at *
  rw [Below.heap_alloc _ _ _ (Array.getElem?_eq_some_iff.1 h).1]; exact h
def DecV (a : ByteArray) : Value := if 65536 < a.size then .tuple #[.string ⟨#[]⟩, .int .i64 2] else if okB a then .tuple #[.string (strOfNums (decL (numN a))), .int .i64 0] else .tuple #[.string ⟨#[]⟩, .int .i64 1]
theorem ten_big : 57896044618658097711785492504343953926634992332820282019728792003956564819949 < 10 ^ 78 := by decide
theorem conv_one (Y : World) (b : Nat) (x : Int) (h : Y.heap[b]? = some (.cells #[.int .u8 x] 5)) : (convert 22 9 (.slice (some ⟨b, 0, none⟩) 1 1)).run Tryd.prog Y = .ok (.string (strOfNums [x])) Y := by
  refine run_convert_bytes_arg _ 22 5 Tryd.underlying22 Tryd.underlying5 b 0 1 1 [x] rfl ?_ 9 Tryd.underlying9
  intro i hi
  obtain rfl : i = 0 := by omega
  unfold World.cell?
  rw [show (⟨b, 0 + 0, none⟩ : Addr).block = b from rfl, h]
  rfl
theorem spec_Dec (a : ByteArray) (ha : a.size ≤ maxLen) (w : World) : Calls Tryd.prog 10 #[.string a] w fun e w' => e = .returned (DecV a) ∧ Below w.heap.size w w' := by
  by_cases hl : 65536 < a.size
  · rw [DecV, if_pos hl]
    go_enter Tryd.func10, Tryd.ntmps10
    go_wp2
    go_ret2
    exact ⟨rfl, Below.refl _ _⟩
  · rw [DecV, if_neg hl]
    cases ho : okB a with
    | false =>
      rw [if_neg (by simp)]
      go_enter Tryd.func10, Tryd.ntmps10
      go_wp2_with fail
      refine (spec_ok a ha _).mono ?_
      rintro e w1 ⟨rfl, hb⟩
      rw [ho]
      go_wp2
      go_ret2
      exact ⟨rfl, hb⟩
    | true =>
      rw [if_pos rfl]
      have hok := ho
      simp only [okB, decide_eq_true_eq] at hok
      obtain ⟨h32, hlt⟩ := hok
      have HP : Hid (numN a < 10 ^ 78) := Nat.lt_trans (by unfold pN at hlt; exact hlt) ten_big
      clear hlt
      go_enter Tryd.func10, Tryd.ntmps10
      go_wp2_with fail
      refine (spec_ok a ha _).mono ?_
      rintro e w1 ⟨rfl, hb⟩
      rw [ho]
      obtain ⟨cp, rest, hcap, hcv⟩ := str_bytes a w1
      have hlen := byteI_len a
      have HV := hide (leV_byteI a)
      have HB := hide (byteI_bd a)
      rw [h32] at hcap hcv hlen
      generalize hNe : numN a = N at *
      have HNe := hide hNe
      clear hNe
      generalize byteI a = bs at *
      have b1 := hide hb
      have hz : w1.heap.size < (w1.alloc (.cells #[] 5)).drew.heap.size := by show w1.heap.size < (w1.alloc (.cells #[] 5)).heap.size; simp
      have b2 : Hid (Below w.heap.size w (w1.alloc (.cells #[] 5)).drew) := hide ((hb.alloc hb.size _).drew)
      have hge : w.heap.size ≤ w1.heap.size := hb.size
      clear hb
      go_wp2
      clear hcv
      generalize (w1.alloc (.cells #[] 5)).drew = w2 at *
      generalize w1.heap.size = b at *
      go_loopw [5] (fun o wr => ∃ (xs ds : List Int) (m k : Nat), o = .string (strOfNums ds) ∧ xs.length = 32 ∧ Hid (∀ i, 0 ≤ xs.getD i 0 ∧ xs.getD i 0 < 256) ∧ Hid (leV xs = (m : Int)) ∧ Hid (DecSt N m ds) ∧ (ds = [] ∨ m ≠ 0) ∧ Hid (m < 10 ^ k) ∧ ds.length + k = 78 ∧ Hid (RM wr b xs rest) ∧ Hid (Below w.heap.size w wr)) (fun o _ => sizeOfV o)
      case atStart => exact ⟨bs, [], N, 78, rfl, hlen, HB, HV, hide (dec_start N), .inl rfl, HP, rfl, hide (RM.put _ _ _ _ hz), hide (below_rowM _ _ _ _ _ _ (unhide b2) hge)⟩
      case round =>
        clear HP HB HV hlen hz b2 b1
        obtain ⟨xs, ds, m, k, rfl, hx, HB, HV, HD, hd, HK, hlen, HR, hB⟩ := hrel
        have hzb : b < wr.heap.size := (Array.getElem?_eq_some_iff.1 (unhide HR)).1
        rw [← (unhide HR).row]
        go_wp2
        go_loopw [6, 7, 8] (fun r z c wr2 => ∃ (k' : Nat) (q : List Int) (rv : Int) (zv : Bool), k' ≤ 32 ∧ c = .int .i64 ((k' : Int) - 1) ∧ r = .int .i64 rv ∧ z = .bool zv ∧ Hid (Div xs k' q rv zv) ∧ wr2 = rowM wr b 5 .u8 (xs.take k' ++ q) rest) (fun _ _ c _ => (intOf c + 1).toNat)
        case atStart => exact ⟨32, [], 0, true, by omega, rfl, rfl, rfl, hide (div_start xs hx), by rw [List.take_of_length_le (by omega), List.append_nil]⟩
        case round =>
          obtain ⟨k', q, rv, zv, hk', rfl, rfl, rfl, HDv, rfl⟩ := hrel
          rcases k' with _ | j
          · obtain ⟨hq, rfl, rfl, hql⟩ := div_end (unhide HDv) (unhide HV)
            have HQ := hide hq
            have hbd : Hid (∀ i, 0 ≤ q.getD i 0 ∧ q.getD i 0 < 256) := fun i => by
              rw [List.getD_eq_getElem?_getD]
              rcases Nat.lt_or_ge i q.length with h | h
              · rw [List.getElem?_eq_getElem h]; exact (unhide HDv).bd _ (List.getElem_mem h)
              · rw [List.getElem?_eq_none h]; simp
            have S := hide (dec_step (unhide HD) hd)
            have hk : ∃ k2, k = k2 + 1 := by
              rcases Nat.eq_zero_or_pos k with rfl | h
              · exfalso
                have := unhide HK
                simp at this
                rcases hd with rfl | h
                · simp at hlen
                · exact h this
              · exact ⟨k - 1, by omega⟩
            obtain ⟨k2, rfl⟩ := hk
            have K2 := hide (dec_pow (unhide HK))
            have hm10 : m % 10 < 10 := Nat.mod_lt _ (by omega)
            have hm10' : ((m % 10 : Nat) : Int) < 10 := by omega
            generalize m % 10 = dg at *
            generalize m / 10 = mq at *
            have hone : (strOfNums [48 + (dg : Int)]).size = 1 := strOfNums_size _
            have hsz2 : (strOfNums ds).size ≤ 77 := by rw [strOfNums_size]; omega
            have hlen2 := hide hlen
            clear hlen hd hq HDv HV HB HD HK
            have hR2 : RM (rowM wr b 5 .u8 (xs.take 0 ++ q) rest) b q rest := RM.put wr b q rest hzb
            have hB2 := below_rowM wr b 5 .u8 (xs.take 0 ++ q) rest (unhide hB) hge
            have hz2 : b < (rowM wr b 5 .u8 (xs.take 0 ++ q) rest).heap.size := by rw [size_rowM]; exact hzb
            generalize rowM wr b 5 .u8 (xs.take 0 ++ q) rest = w4 at *
            clear HR hB hzb
            have hcv := fun x : Int => conv_one (w4.alloc (.cells #[.int .u8 x] 5)) w4.heap.size x (heap_alloc_new w4 _)
            by_cases hm0 : mq = 0
            · have ht : decide (mq = 0) = true := by simpa using hm0
              rw [ht]
              clear ht
              subst hm0
              have E := hide (dec_end (unhide S) (by simp))
              go_wp2
              go_ret2
              refine ⟨?_, hB2.alloc hB2.size _⟩
              rw [unhide HNe, unhide E, ← nums_cons]
              rfl
            · have ht : decide (mq = 0) = false := by simpa using hm0
              rw [ht]
              clear ht
              go_wp2
              rw [nums_cons]
              go_roundw
              case rel => exact ⟨q, _, mq, k2, rfl, hql, hbd, HQ, S, .inr hm0, K2, by have := unhide hlen2; simp; omega, hide (hR2.alloc _), hide (hB2.alloc hB2.size _)⟩
              case measure => have := unhide hlen2; simp [sizeOfV, strOfNums_size]; omega
          · have hbj := unhide HB j
            have hN := hide (div_next hx (unhide HDv) (xs.getD j 0) rfl hbj.1 hbj.2)
            have hr0 := (unhide HDv).r0
            have hr1 := (unhide HDv).r1
            have hql := (unhide HDv).len
            have hyl : (xs.take (j + 1) ++ q).length = 32 := by simp; omega
            have hyg : (xs.take (j + 1) ++ q).getD j 0 = xs.getD j 0 := by
              rw [List.getD_eq_getElem?_getD, List.getD_eq_getElem?_getD, List.getElem?_append_left (by simp; omega), List.getElem?_take_of_lt (by omega)]
            have hyg' : (xs.take (j + 1) ++ q)[j]?.getD 0 = xs.getD j 0 := by rw [← List.getD_eq_getElem?_getD]; exact hyg
            have hys := fun v : Int => hide (show (xs.take (j + 1) ++ q).set j v = xs.take j ++ (v :: q) by
              rw [List.take_succ_eq_append_getElem (by omega), List.append_assoc, List.set_append_right _ _ (by simp; omega)]
              simp [show j - min j xs.length = 0 by omega])
            generalize xs.take (j + 1) ++ q = ys at *
            generalize xs.getD j 0 = bj at *
            obtain ⟨hb0, hb1⟩ := hbj
            have hj : j < ys.length := by omega
            have hcell : (rowM wr b 5 .u8 ys rest).cell? ⟨b, j, none⟩ = some (.int .u8 bj) := by rw [cell_rowM _ _ _ _ _ _ _ hj hzb, hyg]
            have hj2 : (j : Int) < 32 := by omega
            have hfz : (rowM wr b 5 .u8 ys rest).frozen? ⟨b, j, none⟩ = false := frozen_rowM _ _ _ _ _ _ _ hj hzb
            have hset : ∀ v : Int, (rowM wr b 5 .u8 ys rest).setCell ⟨b, j, none⟩ (.int .u8 v) = rowM wr b 5 .u8 (ys.set j v) rest := fun v => set_rowM _ _ _ _ _ _ _ v hj hzb
            have hcell2 : ∀ v : Int, (rowM wr b 5 .u8 (ys.set j v) rest).cell? ⟨b, j, none⟩ = some (.int .u8 v) := fun v => by rw [cell_rowM _ _ _ _ _ _ _ (by simpa using hj) hzb]; simp [List.getD, hj]
            clear hyg hyg'
            cases zv with
            | false =>
              go_wp2
              go_roundw
              case rel => exact ⟨j, (rv * 256 + bj) / 10 :: q, (rv * 256 + bj) % 10, false, by omega, rfl, rfl, rfl, hN, by rw [unhide (hys _)]⟩
              case measure => simp [intOf]
            | true =>
              go_wp2
              go_roundw
              case rel => exact ⟨j, (rv * 256 + bj) / 10 :: q, (rv * 256 + bj) % 10, _, by omega, rfl, rfl, rfl, hN, by rw [unhide (hys _)]⟩
              case measure => simp [intOf]
theorem impl_Dec (a : ByteArray) (w : World) : Calls Tryd.prog 9 #[.string a] w fun e w' => e = .returned (DecV a) ∧ Below w.heap.size w w' := by
  cases hL : longB a with
  | true =>
    have hl : 65536 < a.size := by simpa [longB] using hL
    rw [DecV, if_pos hl]
    have hc : code1 a = 2 := by simp [code1, hL]
    go_enter Tryd.func9, Tryd.ntmps9
    go_wp2_with fail
    refine (code_one a _ _ (by simp)).mono ?_
    rintro e w1 ⟨rfl, hb1⟩
    rw [hc]
    go_wp2
    go_ret2
    exact ⟨rfl, ((Below.refl _ _).alloc (Nat.le_refl _) _).trans (hb1.mono (by simp))⟩
  | false =>
    have hl : ¬ 65536 < a.size := by simpa [longB] using hL
    rw [DecV, if_neg hl]
    cases ho : okB a with
    | false =>
      rw [if_neg (by simp)]
      have hc : code1 a = 1 := by simp [code1, hL, ho]
      go_enter Tryd.func9, Tryd.ntmps9
      go_wp2_with fail
      refine (code_one a _ _ (by simp)).mono ?_
      rintro e w1 ⟨rfl, hb1⟩
      rw [hc]
      go_wp2
      go_ret2
      exact ⟨rfl, ((Below.refl _ _).alloc (Nat.le_refl _) _).trans (hb1.mono (by simp))⟩
    | true =>
      rw [if_pos rfl]
      have hok := ho
      simp only [okB, decide_eq_true_eq] at hok
      obtain ⟨h32, hlt⟩ := hok
      have hc : code1 a = 0 := by simp [code1, hL, ho]
      have HP : Hid (numN a < 10 ^ 78) := Nat.lt_trans (by unfold pN at hlt; exact hlt) ten_big
      have HM : Hid (((numN a : Nat) : Int) % 57896044618658097711785492504343953926634992332820282019728792003956564819968 % pInt = ((numN a : Nat) : Int)) := by
        unfold pN at hlt
        unfold pInt
        show _ = _
        omega
      clear hlt
      go_enter Tryd.func9, Tryd.ntmps9
      go_wp2_with fail
      refine (code_one a _ _ (by simp)).mono ?_
      rintro e w1 ⟨rfl, hb1⟩
      rw [hc]
      have b1 := hide (((Below.refl w.heap.size w).alloc (Nat.le_refl _) _).trans (hb1.mono (by simp)))
      clear hb1
      go_wp2_with fail
      refine (limbsOf_any a h32 _).mono ?_
      rintro e w2 ⟨⟨m0, m1, m2, m3, m4, rfl, hin, hv⟩, hb2⟩
      have b2 := hide ((unhide b1).trans (hb2.mono (unhide b1).size))
      have HC := hide (in_car hin)
      have HV := hide hv
      clear hb2 b1 hin hv
      go_wp2_with fail
      refine (decimal_any m0 m1 m2 m3 m4 _ (unhide HC) (numN a) (by rw [unhide HV]; exact unhide HM) (unhide HP)).mono ?_
      rintro e w3 ⟨rfl, hb3⟩
      go_wp2
      go_ret2
      exact ⟨rfl, (unhide b2).trans (hb3.mono (unhide b2).size)⟩
theorem law_Dec (a : ByteArray) (ha : a.size ≤ maxLen) (w : World) : Calls Tryd.prog 6 #[.string a] w fun e w' => e = .returned (.bool true) ∧ Below w.heap.size w w' := by
  have HM := hide ha
  unfold maxLen at ha
  by_cases h1 : a.size ≤ 1048576
  · obtain ⟨x, y, hx⟩ : ∃ (x : ByteArray) (y : Int), DecV a = .tuple #[.string x, .int .i64 y] := by
      unfold DecV; split
      · exact ⟨_, _, rfl⟩
      · split <;> exact ⟨_, _, rfl⟩
    have HX := hide hx
    clear hx
    go_enter Tryd.func6, Tryd.ntmps6
    go_wp2_with fail
    refine (spec_Dec a (unhide HM) _).mono ?_
    rintro e w1 ⟨rfl, hb1⟩
    rw [unhide HX]
    go_wp2_with fail
    refine (impl_Dec a _).mono ?_
    rintro e w2 ⟨rfl, hb2⟩
    rw [unhide HX]
    go_wp2
    go_ret
    exact ⟨rfl, hb1.trans (hb2.mono hb1.size)⟩
  · go_enter Tryd.func6, Tryd.ntmps6
    go_wp2
    go_ret
    exact ⟨rfl, Below.refl _ _⟩
end Go.Proofs.YtdhjjjoakcmknaaDoor
