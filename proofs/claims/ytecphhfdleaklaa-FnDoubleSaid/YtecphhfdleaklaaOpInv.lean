/- Contracts of FieldInverse on both sides, and the law of it. -/
import Derived.Test.YtecphhfdleaklaaOpPow
import Derived.DeepKeys
namespace Go.Proofs.Ytecphhfdleaklaa
open Go.RowKit
set_option maxHeartbeats 3200000
theorem items_cons (xs ys : Array Value) (i : Nat) (is : List Nat) (a b : Int) (w : World) (hx : xs[i]? = some (.int .u64 a)) (hy : ys[i]? = some (.int .u64 b)) :
    (Op.eqItems 9999 38 1 xs ys (i :: is)).run Try.prog w = if (a == b) = true then (Op.eqItems 9999 38 1 xs ys is).run Try.prog w else .ok false w := by
  have he : Try.prog.plainKey 38 = true := by kernel_rfl
  simp only [Op.eqItems, Sem.run_bind, Nat.mul_one, run_part_plain w he hx, run_part_plain w he hy, Result.andThen_ok, run_equalIn_int w 9998 38 .u64 .u64 a b Try.underlying38]
  cases (a == b) <;> simp
theorem eq5 (m0 m1 m2 m3 m4 : Int) (w : World) : (Op.equalIn 10000 40 (L5 m0 m1 m2 m3 m4) (L5 0 0 0 0 0)).run Try.prog w = .ok (m0 == 0 && (m1 == 0 && (m2 == 0 && (m3 == 0 && m4 == 0)))) w := by
  obtain ⟨i, hi⟩ := info_of_underlying Try.underlying38
  have hc : Try.prog.cellsOf 38 = 1 := by kernel_rfl
  rw [run_equalIn_array w 9999 _ _ Try.underlying40 hi, hc, show List.range 5 = [0, 1, 2, 3, 4] from rfl,
    items_cons _ _ 0 _ m0 0 w rfl rfl, items_cons _ _ 1 _ m1 0 w rfl rfl, items_cons _ _ 2 _ m2 0 w rfl rfl, items_cons _ _ 3 _ m3 0 w rfl rfl, items_cons _ _ 4 _ m4 0 w rfl rfl]
  cases (m0 == 0) <;> cases (m1 == 0) <;> cases (m2 == 0) <;> cases (m3 == 0) <;> cases (m4 == 0) <;> simp [Op.eqItems]
theorem zero5 {m0 m1 m2 m3 m4 : Int} {n : Nat} (h : In51 m0 m1 m2 m3 m4) (hv : V5 m0 m1 m2 m3 m4 = (n : Int)) : (m0 == 0 && (m1 == 0 && (m2 == 0 && (m3 == 0 && m4 == 0)))) = decide (n = 0) := by
  obtain ⟨h0, h1, h2, h3, h4⟩ := h
  unfold V5 at hv
  rw [Bool.eq_iff_iff]
  simp only [Bool.and_eq_true, beq_iff_eq, decide_eq_true_eq]
  omega
def lessTwo : ByteArray := ⟨#[235, 255, 255, 255, 255, 255, 255, 255, 255, 255, 255, 255, 255, 255, 255, 255, 255, 255, 255, 255, 255, 255, 255, 255, 255, 255, 255, 255, 255, 255, 255, 127]⟩
theorem less_size : lessTwo.size = 32 := rfl
theorem less_num : numN lessTwo = 57896044618658097711785492504343953926634992332820282019728792003956564819947 := by decide +kernel
theorem less_nums : strOfNums [235, 255, 255, 255, 255, 255, 255, 255, 255, 255, 255, 255, 255, 255, 255, 255, 255, 255, 255, 255, 255, 255, 255, 255, 255, 255, 255, 255, 255, 255, 255, 127] = lessTwo := by decide +kernel
theorem zero_num (a : ByteArray) (h : a.size = 32) : (a.toList == (strOfNums [0, 0, 0, 0, 0, 0, 0, 0, 0, 0, 0, 0, 0, 0, 0, 0, 0, 0, 0, 0, 0, 0, 0, 0, 0, 0, 0, 0, 0, 0, 0, 0]).toList) = decide (numN a = 0) := by
  have hz : strOfNums [0, 0, 0, 0, 0, 0, 0, 0, 0, 0, 0, 0, 0, 0, 0, 0, 0, 0, 0, 0, 0, 0, 0, 0, 0, 0, 0, 0, 0, 0, 0, 0] = enc ((0 : Nat) : Int) := by decide +kernel
  rw [hz, Bool.eq_iff_iff]
  simp only [beq_iff_eq, decide_eq_true_eq]
  constructor
  · intro e
    rw [text_eq e, numN_enc 0 (by decide)]
  · intro e
    rw [← e, enc_numN a h]
theorem lless_any (w : World) : Calls Try.prog 98 #[.int .i64 21] w fun e w' => e = .returned (.string lessTwo) ∧ Below w.heap.size w w' := by
  have hm := make32
  have HL := hide less_nums
  go_enter Try.func98, Try.ntmps98
  go_wp2
  clear hm
  refine wp_loop_rounds 33 ?_
  rw [rounds_succ]; go_wp2
  rw [rounds_succ]; go_wp2
  rw [rounds_succ]; go_wp2
  rw [rounds_succ]; go_wp2
  rw [rounds_succ]; go_wp2
  rw [rounds_succ]; go_wp2
  rw [rounds_succ]; go_wp2
  rw [rounds_succ]; go_wp2
  rw [rounds_succ]; go_wp2
  rw [rounds_succ]; go_wp2
  rw [rounds_succ]; go_wp2
  rw [rounds_succ]; go_wp2
  rw [rounds_succ]; go_wp2
  rw [rounds_succ]; go_wp2
  rw [rounds_succ]; go_wp2
  rw [rounds_succ]; go_wp2
  rw [rounds_succ]; go_wp2
  rw [rounds_succ]; go_wp2
  rw [rounds_succ]; go_wp2
  rw [rounds_succ]; go_wp2
  rw [rounds_succ]; go_wp2
  rw [rounds_succ]; go_wp2
  rw [rounds_succ]; go_wp2
  rw [rounds_succ]; go_wp2
  rw [rounds_succ]; go_wp2
  rw [rounds_succ]; go_wp2
  rw [rounds_succ]; go_wp2
  rw [rounds_succ]; go_wp2
  rw [rounds_succ]; go_wp2
  rw [rounds_succ]; go_wp2
  rw [rounds_succ]; go_wp2
  rw [rounds_succ]; go_wp2
  rw [rounds_succ]; go_wp2
  go_ret
  refine ⟨?_, by go_grown⟩
  rw [← unhide HL]
  rfl
theorem linv_any (w : World) (ba ca : Nat) (A : Int) (ha : Row10 w ba A) :
    Calls Try.prog 80 #[.slice (some ⟨ba, 0, none⟩) 10 ca] w fun e w' => ∃ k, e = .returned (.slice (some ⟨k, 0, none⟩) 10 10) ∧ Below w.heap.size w w' ∧ Row10 w' k (A ^ numN lessTwo) := by
  have HA := hide ha
  clear ha
  go_enter Try.func80, Try.ntmps80
  go_wp2_with fail
  refine (lless_any _).mono ?_
  rintro e w1 ⟨rfl, hb1⟩
  go_wp2_with fail
  refine (lpower_any w1 ba ca A lessTwo less_size ((unhide HA).kept hb1)).mono ?_
  rintro e w2 ⟨k, rfl, hb2, hr2⟩
  have HR := hide hr2
  clear hr2
  go_wp2
  go_ret
  exact ⟨k, rfl, hb1.trans (hb2.mono hb1.size), unhide HR⟩
def code1 (a : ByteArray) : Int := if longB a then 2 else if okB a then 0 else 1
theorem code_one (a : ByteArray) (w : World) (k : Nat) (hc : w.cell? ⟨k, 0, none⟩ = some (.string a)) :
    Calls Try.prog 57 #[.slice (some ⟨k, 0, none⟩) 1 1] w fun e w' => e = .returned (.int .i64 (code1 a)) ∧ Below w.heap.size w w' := by
  cases hl : longB a with
  | true =>
    rw [show code1 a = 2 by simp [code1, hl]]
    go_enter Try.func57, Try.ntmps57
    go_wp2_with fail
    refine (long_one a _ _ hc).mono ?_
    rintro e w1 ⟨rfl, rfl⟩
    rw [hl]
    go_wp2
    go_ret
    exact ⟨rfl, Below.refl _ _⟩
  | false =>
    cases ha : okB a with
    | false =>
      rw [show code1 a = 1 by simp [code1, hl, ha]]
      go_enter Try.func57, Try.ntmps57
      go_wp2_with fail
      refine (long_one a _ _ hc).mono ?_
      rintro e w1 ⟨rfl, rfl⟩
      rw [hl]
      go_wp2
      refine wp_loop_rounds 2 ?_
      rw [rounds_succ]
      go_wp2_with fail
      refine (impl_ok a _).mono ?_
      rintro e w1 ⟨rfl, hb⟩
      rw [ha]
      go_wp2
      go_ret
      exact ⟨rfl, hb⟩
    | true =>
      rw [show code1 a = 0 by simp [code1, hl, ha]]
      go_enter Try.func57, Try.ntmps57
      go_wp2_with fail
      refine (long_one a _ _ hc).mono ?_
      rintro e w1 ⟨rfl, rfl⟩
      rw [hl]
      go_wp2
      refine wp_loop_rounds 2 ?_
      rw [rounds_succ]
      go_wp2_with fail
      refine (impl_ok a _).mono ?_
      rintro e w1 ⟨rfl, hb⟩
      rw [ha]
      go_wp2
      rw [rounds_succ]
      go_wp2
      go_ret
      exact ⟨rfl, hb⟩
def InvV (a : ByteArray) : Value := if longB a then .tuple #[.string ⟨#[]⟩, .int .i64 2] else if okB a then (if numN a = 0 then .tuple #[.string ⟨#[]⟩, .int .i64 19] else .tuple #[.string (enc (((numN a : Int) ^ numN lessTwo) % pInt)), .int .i64 0]) else .tuple #[.string ⟨#[]⟩, .int .i64 1]
theorem spec_Inv (a : ByteArray) (ha : a.size ≤ maxLen) (w : World) : Calls Try.prog 49 #[.string a] w fun e w' => e = .returned (InvV a) ∧ Below w.heap.size w w' := by
  have hm := make32
  by_cases hl : 65536 < a.size
  · rw [show InvV a = .tuple #[.string ⟨#[]⟩, .int .i64 2] by unfold InvV; rw [if_pos (long_t hl)]]
    go_enter Try.func49, Try.ntmps49
    go_wp2
    go_ret2
    exact ⟨rfl, Below.refl _ _⟩
  · have hL := long_f hl
    cases ho : okB a with
    | false =>
      rw [show InvV a = .tuple #[.string ⟨#[]⟩, .int .i64 1] by simp [InvV, hL, ho]]
      go_enter Try.func49, Try.ntmps49
      go_wp2_with fail
      refine (spec_ok a ha _).mono ?_
      rintro e w1 ⟨rfl, hb1⟩
      rw [ho]
      go_wp2
      go_ret2
      exact ⟨rfl, hb1⟩
    | true =>
      obtain ⟨sa, va⟩ := ok_parts ho
      have VA := hide va
      clear va
      have hzn := zero_num a sa
      by_cases hz : numN a = 0
      · rw [show InvV a = .tuple #[.string ⟨#[]⟩, .int .i64 19] by simp [InvV, hL, ho, hz]]
        have hzt : (a.toList == (strOfNums [0, 0, 0, 0, 0, 0, 0, 0, 0, 0, 0, 0, 0, 0, 0, 0, 0, 0, 0, 0, 0, 0, 0, 0, 0, 0, 0, 0, 0, 0, 0, 0]).toList) = true := by rw [hzn]; simpa using hz
        clear hzn hz
        go_enter Try.func49, Try.ntmps49
        go_wp2_with fail
        refine (spec_ok a ha _).mono ?_
        rintro e w1 ⟨rfl, hb1⟩
        rw [ho]
        go_wp2
        go_ret2
        exact ⟨rfl, hb1.trans (((Below.refl _ _).alloc (Nat.le_refl _) _).mono hb1.size)⟩
      · rw [show InvV a = .tuple #[.string (enc (((numN a : Int) ^ numN lessTwo) % pInt)), .int .i64 0] by simp [InvV, hL, ho, hz]]
        have hzt : (a.toList == (strOfNums [0, 0, 0, 0, 0, 0, 0, 0, 0, 0, 0, 0, 0, 0, 0, 0, 0, 0, 0, 0, 0, 0, 0, 0, 0, 0, 0, 0, 0, 0, 0, 0]).toList) = false := by rw [hzn]; simpa using hz
        clear hzn hz
        go_enter Try.func49, Try.ntmps49
        go_wp2_with fail
        refine (spec_ok a ha _).mono ?_
        rintro e w1 ⟨rfl, hb1⟩
        rw [ho]
        go_wp2_with fail
        obtain ⟨wz, hwz⟩ : ∃ wz, wz = w1.alloc (.cells #[.int .u8 0, .int .u8 0, .int .u8 0, .int .u8 0, .int .u8 0, .int .u8 0, .int .u8 0, .int .u8 0, .int .u8 0, .int .u8 0, .int .u8 0, .int .u8 0, .int .u8 0, .int .u8 0, .int .u8 0, .int .u8 0, .int .u8 0, .int .u8 0, .int .u8 0, .int .u8 0, .int .u8 0, .int .u8 0, .int .u8 0, .int .u8 0, .int .u8 0, .int .u8 0, .int .u8 0, .int .u8 0, .int .u8 0, .int .u8 0, .int .u8 0, .int .u8 0] 5) := ⟨_, rfl⟩
        rw [← hwz]
        have HZ := hide (show Below w.heap.size w wz by rw [hwz]; exact hb1.trans (((Below.refl _ _).alloc (Nat.le_refl _) _).mono hb1.size))
        clear hwz hm hb1
        refine (load_any a sa _).mono ?_
        rintro e w2 ⟨rfl, hw2⟩
        have R1 := load_row a wz
        rw [← hw2] at R1
        have hb2 : Below wz.heap.size wz w2 := by rw [hw2]; exact (Below.refl _ _).alloc (Nat.le_refl _) _
        have H2 := hide hb2
        have HR1 := hide R1
        clear hw2 R1 hb2
        go_wp2_with fail
        refine (linv_any w2 wz.heap.size 10 _ (unhide HR1)).mono ?_
        rintro e w4 ⟨k4, rfl, hb4, hr4⟩
        have H4 := hide hb4
        have HR4 := hide hr4
        clear hb4 hr4
        go_wp2_with fail
        refine (store_row w4 k4 10 _ (unhide HR4)).mono ?_
        rintro e w5 ⟨rfl, hb5⟩
        rw [unhide VA]
        go_wp2
        go_ret2
        have b1 := unhide HZ
        have b2 := unhide H2
        have b4 := unhide H4
        exact ⟨rfl, b1.trans ((b2.trans ((b4.trans (hb5.mono b4.size)).mono b2.size)).mono b1.size)⟩
theorem impl_Inv (a : ByteArray) (w : World) : Calls Try.prog 30 #[.string a] w fun e w' => e = .returned (InvV a) ∧ Below w.heap.size w w' := by
  cases hL : longB a with
  | true =>
    rw [show InvV a = .tuple #[.string ⟨#[]⟩, .int .i64 2] by simp [InvV, hL]]
    have hc : code1 a = 2 := by simp [code1, hL]
    go_enter Try.func30, Try.ntmps30
    go_wp2_with fail
    refine (code_one a _ _ (by simp)).mono ?_
    rintro e w1 ⟨rfl, hb1⟩
    rw [hc]
    go_wp2
    go_ret2
    exact ⟨rfl, ((Below.refl _ _).alloc (Nat.le_refl _) _).trans (hb1.mono (by simp))⟩
  | false =>
    cases ho : okB a with
    | false =>
      rw [show InvV a = .tuple #[.string ⟨#[]⟩, .int .i64 1] by simp [InvV, hL, ho]]
      have hc : code1 a = 1 := by simp [code1, hL, ho]
      go_enter Try.func30, Try.ntmps30
      go_wp2_with fail
      refine (code_one a _ _ (by simp)).mono ?_
      rintro e w1 ⟨rfl, hb1⟩
      rw [hc]
      go_wp2
      go_ret2
      exact ⟨rfl, ((Below.refl _ _).alloc (Nat.le_refl _) _).trans (hb1.mono (by simp))⟩
    | true =>
      have hc : code1 a = 0 := by simp [code1, hL, ho]
      obtain ⟨sa, va⟩ := ok_parts ho
      have VA := hide va
      have HO := hide ho
      have HL := hide hL
      clear va ho hL
      go_enter Try.func30, Try.ntmps30
      go_wp2_with fail
      refine (code_one a _ _ (by simp)).mono ?_
      rintro e w1 ⟨rfl, hb1⟩
      rw [hc]
      have H1 : Hid (Below w.heap.size w w1) := hide (((Below.refl _ _).alloc (Nat.le_refl _) _).trans (hb1.mono (by simp)))
      clear hb1 hc
      go_wp2_with fail
      refine (limbsOf_any a sa _).mono ?_
      rintro e w2 ⟨⟨m0, m1, m2, m3, m4, rfl, hin, hv⟩, hb2⟩
      have H2 := hide hb2
      have HI := hide hin
      have HV := hide hv
      clear hb2 hin hv
      by_cases hz : numN a = 0
      · have HX := hide (show InvV a = .tuple #[.string ⟨#[]⟩, .int .i64 19] by simp [InvV, unhide HL, unhide HO, hz])
        have hd : decide (numN a = 0) = true := by simpa using hz
        have hE : ∀ wx, (Op.equalIn 10000 40 (.agg #[.int .u64 m0, .int .u64 m1, .int .u64 m2, .int .u64 m3, .int .u64 m4]) (.agg #[.int .u64 0, .int .u64 0, .int .u64 0, .int .u64 0, .int .u64 0])).run Try.prog wx = .ok true wx := fun wx => (eq5 m0 m1 m2 m3 m4 wx).trans (by rw [zero5 (unhide HI) ((unhide HV).trans (unhide VA)), hd])
        clear hz hd
        go_wp2
        go_ret2
        have b1 := unhide H1
        have b2 := unhide H2
        exact ⟨ret_val (unhide HX).symm, b1.trans (((b2.alloc b2.size _)).mono b1.size)⟩
      · have HX := hide (show InvV a = .tuple #[.string (enc (((numN a : Int) ^ numN lessTwo) % pInt)), .int .i64 0] by simp [InvV, unhide HL, unhide HO, hz])
        have hd : decide (numN a = 0) = false := by simpa using hz
        have hE : ∀ wx, (Op.equalIn 10000 40 (.agg #[.int .u64 m0, .int .u64 m1, .int .u64 m2, .int .u64 m3, .int .u64 m4]) (.agg #[.int .u64 0, .int .u64 0, .int .u64 0, .int .u64 0, .int .u64 0])).run Try.prog wx = .ok false wx := fun wx => (eq5 m0 m1 m2 m3 m4 wx).trans (by rw [zero5 (unhide HI) ((unhide HV).trans (unhide VA)), hd])
        clear hz hd
        go_wp2_with fail
        refine (power_any m0 m1 m2 m3 m4 lessTwo less_size _ (in_car (unhide HI))).mono ?_
        rintro e w4 ⟨⟨r0, r1, r2, r3, r4, rfl, hcar, hrv⟩, hb4⟩
        have H4 := hide hb4
        have HR := hide hrv
        have HC := hide hcar
        clear hb4 hrv hcar
        go_wp2_with fail
        refine (text_any r0 r1 r2 r3 r4 _ (unhide HC)).mono ?_
        rintro e w5 ⟨rfl, hb5⟩
        rw [unhide HR, unhide HV, unhide VA]
        go_wp2
        go_ret2
        have b1 := unhide H1
        have b2 := unhide H2
        have b4 := unhide H4
        have b3 := b2.alloc b2.size (.cells #[.int .u64 m0, .int .u64 m1, .int .u64 m2, .int .u64 m3, .int .u64 m4] 40)
        exact ⟨ret_val (unhide HX).symm, b1.trans ((b3.trans ((b4.trans (hb5.mono b4.size)).mono b3.size)).mono b1.size)⟩
theorem law_Inv (a : ByteArray) (ha : a.size ≤ maxLen) (w : World) : Calls Try.prog 15 #[.string a] w fun e w' => e = .returned (.bool true) ∧ Below w.heap.size w w' := by
  by_cases h1 : a.size ≤ 1048576
  · obtain ⟨x, y, hx⟩ : ∃ (x : ByteArray) (y : Int), InvV a = .tuple #[.string x, .int .i64 y] := by
      unfold InvV; split
      · exact ⟨_, _, rfl⟩
      · split
        · split <;> exact ⟨_, _, rfl⟩
        · exact ⟨_, _, rfl⟩
    have HX := hide hx
    clear hx
    go_enter Try.func15, Try.ntmps15
    go_wp2_with fail
    refine (spec_Inv a ha _).mono ?_
    rintro e w1 ⟨rfl, hb1⟩
    rw [unhide HX]
    go_wp2_with fail
    refine (impl_Inv a _).mono ?_
    rintro e w2 ⟨rfl, hb2⟩
    rw [unhide HX]
    go_wp2
    go_ret
    exact ⟨rfl, hb1.trans (hb2.mono hb1.size)⟩
  · unfold maxLen at ha
    go_enter Try.func15, Try.ntmps15
    go_wp2
    go_ret
    exact ⟨rfl, Below.refl _ _⟩
end Go.Proofs.Ytecphhfdleaklaa
