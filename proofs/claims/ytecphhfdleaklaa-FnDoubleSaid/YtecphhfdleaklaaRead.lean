/- Contracts of FieldRead on both sides, of anyLong and of fieldCode. -/
import Derived.Test.YtecphhfdleaklaaOk
namespace Go.Proofs.Ytecphhfdleaklaa
open Go.RowKit
set_option maxHeartbeats 800000
def longB (s : ByteArray) : Bool := decide (65536 < s.size)
theorem long_t {s : ByteArray} (h : 65536 < s.size) : longB s = true := by simp [longB, h]
theorem long_f {s : ByteArray} (h : ¬ 65536 < s.size) : longB s = false := by simp [longB]; omega
theorem long_one (s : ByteArray) (w : World) (b : Nat) (hc : w.cell? ⟨b, 0, none⟩ = some (.string s)) : Calls Try.prog 69 #[.slice (some ⟨b, 0, none⟩) 1 1] w fun e w' => e = .returned (.bool (longB s)) ∧ w' = w := by
  by_cases h : 65536 < s.size
  · rw [long_t h]
    go_enter Try.func69, Try.ntmps69
    go_wp2
    refine wp_loop_rounds 2 ?_
    rw [rounds_succ]; go_wp2
    go_ret
    exact ⟨rfl, rfl⟩
  · rw [long_f h]
    go_enter Try.func69, Try.ntmps69
    go_wp2
    refine wp_loop_rounds 2 ?_
    rw [rounds_succ]; go_wp2
    rw [rounds_succ]; go_wp2
    go_ret
    exact ⟨rfl, rfl⟩
theorem long_two (s t : ByteArray) (w : World) (b : Nat) (hc : w.cell? ⟨b, 0, none⟩ = some (.string s)) (hd : w.cell? ⟨b, 1, none⟩ = some (.string t)) : Calls Try.prog 69 #[.slice (some ⟨b, 0, none⟩) 2 2] w fun e w' => e = .returned (.bool (longB s || longB t)) ∧ w' = w := by
  by_cases h : 65536 < s.size
  · rw [long_t h]
    go_enter Try.func69, Try.ntmps69
    go_wp2
    refine wp_loop_rounds 3 ?_
    rw [rounds_succ]; go_wp2
    go_ret
    exact ⟨rfl, rfl⟩
  · rw [long_f h]
    by_cases h2 : 65536 < t.size
    · rw [long_t h2]
      go_enter Try.func69, Try.ntmps69
      go_wp2
      refine wp_loop_rounds 3 ?_
      rw [rounds_succ]; go_wp2
      rw [rounds_succ]; go_wp2
      go_ret
      exact ⟨rfl, rfl⟩
    · rw [long_f h2]
      go_enter Try.func69, Try.ntmps69
      go_wp2
      refine wp_loop_rounds 3 ?_
      rw [rounds_succ]; go_wp2
      rw [rounds_succ]; go_wp2
      rw [rounds_succ]; go_wp2
      go_ret
      exact ⟨rfl, rfl⟩
/-- what a text is read as, and the code -/
def readV (s : ByteArray) : Value := if 65536 < s.size then .tuple #[.string ⟨#[]⟩, .int .i64 2] else if s.size = 32 then .tuple #[.string (redB s), .int .i64 0] else .tuple #[.string ⟨#[]⟩, .int .i64 1]
theorem ret_val {a b : Value} (h : a = b) : Ending.returned a = .returned b := by rw [h]
theorem spec_read (s : ByteArray) (w : World) : Calls Try.prog 46 #[.string s] w fun e w' => e = .returned (readV s) ∧ Below w.heap.size w w' := by
  by_cases hl : 65536 < s.size
  · rw [readV, if_pos hl]
    go_enter Try.func46, Try.ntmps46
    go_wp2
    go_ret2
    exact ⟨rfl, Below.refl _ _⟩
  · by_cases h : s.size = 32
    · rw [readV, if_neg hl, if_pos h]
      go_enter Try.func46, Try.ntmps46
      go_wp2_with fail
      refine (load_any s h _).mono ?_
      rintro e w1 ⟨rfl, hw⟩
      have HW := hide hw
      clear hw
      go_wp2_with fail
      refine (store_load s w _ (unhide HW)).mono ?_
      rintro e w2 ⟨rfl, hb⟩
      clear HW
      go_wp2
      go_ret2
      exact ⟨rfl, hb⟩
    · rw [readV, if_neg hl, if_neg h]
      have hd : ((s.size : Int) != 32) = true := by simp; omega
      go_enter Try.func46, Try.ntmps46
      go_wp2
      go_ret2
      exact ⟨rfl, Below.refl _ _⟩
/-- the code of texts that must have thirty-two bytes -/
def scode1 (s : ByteArray) : Int := if longB s then 2 else if s.size = 32 then 0 else 1
def scode2 (a b : ByteArray) : Int := if longB a || longB b then 2 else if a.size = 32 ∧ b.size = 32 then 0 else 1
theorem size_one (s : ByteArray) (w : World) (k : Nat) (hc : w.cell? ⟨k, 0, none⟩ = some (.string s)) :
    Calls Try.prog 72 #[.slice (some ⟨k, 0, none⟩) 1 1] w fun e w' => e = .returned (.int .i64 (scode1 s)) ∧ w' = w := by
  cases hl : longB s with
  | true =>
    rw [show scode1 s = 2 by simp [scode1, hl]]
    go_enter Try.func72, Try.ntmps72
    go_wp2_with fail
    refine (long_one s _ _ hc).mono ?_
    rintro e w1 ⟨rfl, rfl⟩
    rw [hl]
    go_wp2
    go_ret
    exact ⟨rfl, rfl⟩
  | false =>
    by_cases h : s.size = 32
    · rw [show scode1 s = 0 by simp [scode1, hl, h]]
      have hd : ((s.size : Int) != 32) = false := by simp; omega
      go_enter Try.func72, Try.ntmps72
      go_wp2_with fail
      refine (long_one s _ _ hc).mono ?_
      rintro e w1 ⟨rfl, rfl⟩
      rw [hl]
      go_wp2
      refine wp_loop_rounds 2 ?_
      rw [rounds_succ]; go_wp2
      rw [rounds_succ]; go_wp2
      go_ret
      exact ⟨rfl, rfl⟩
    · rw [show scode1 s = 1 by simp [scode1, hl, h]]
      have hd : ((s.size : Int) != 32) = true := by simp; omega
      go_enter Try.func72, Try.ntmps72
      go_wp2_with fail
      refine (long_one s _ _ hc).mono ?_
      rintro e w1 ⟨rfl, rfl⟩
      rw [hl]
      go_wp2
      refine wp_loop_rounds 2 ?_
      rw [rounds_succ]; go_wp2
      go_ret
      exact ⟨rfl, rfl⟩
theorem size_two (a b : ByteArray) (w : World) (k : Nat) (hc : w.cell? ⟨k, 0, none⟩ = some (.string a)) (hd : w.cell? ⟨k, 1, none⟩ = some (.string b)) :
    Calls Try.prog 72 #[.slice (some ⟨k, 0, none⟩) 2 2] w fun e w' => e = .returned (.int .i64 (scode2 a b)) ∧ w' = w := by
  cases hl : (longB a || longB b) with
  | true =>
    rw [show scode2 a b = 2 by simp [scode2, hl]]
    go_enter Try.func72, Try.ntmps72
    go_wp2_with fail
    refine (long_two a b _ _ hc hd).mono ?_
    rintro e w1 ⟨rfl, rfl⟩
    rw [hl]
    go_wp2
    go_ret
    exact ⟨rfl, rfl⟩
  | false =>
    by_cases h : a.size = 32
    · have hda : ((a.size : Int) != 32) = false := by simp; omega
      by_cases h2 : b.size = 32
      · rw [show scode2 a b = 0 by simp [scode2, hl, h, h2]]
        have hdb : ((b.size : Int) != 32) = false := by simp; omega
        go_enter Try.func72, Try.ntmps72
        go_wp2_with fail
        refine (long_two a b _ _ hc hd).mono ?_
        rintro e w1 ⟨rfl, rfl⟩
        rw [hl]
        go_wp2
        refine wp_loop_rounds 3 ?_
        rw [rounds_succ]; go_wp2
        rw [rounds_succ]; go_wp2
        rw [rounds_succ]; go_wp2
        go_ret
        exact ⟨rfl, rfl⟩
      · rw [show scode2 a b = 1 by simp [scode2, hl, h2]]
        have hdb : ((b.size : Int) != 32) = true := by simp; omega
        go_enter Try.func72, Try.ntmps72
        go_wp2_with fail
        refine (long_two a b _ _ hc hd).mono ?_
        rintro e w1 ⟨rfl, rfl⟩
        rw [hl]
        go_wp2
        refine wp_loop_rounds 3 ?_
        rw [rounds_succ]; go_wp2
        rw [rounds_succ]; go_wp2
        go_ret
        exact ⟨rfl, rfl⟩
    · have hda : ((a.size : Int) != 32) = true := by simp; omega
      rw [show scode2 a b = 1 by simp [scode2, hl, h]]
      go_enter Try.func72, Try.ntmps72
      go_wp2_with fail
      refine (long_two a b _ _ hc hd).mono ?_
      rintro e w1 ⟨rfl, rfl⟩
      rw [hl]
      go_wp2
      refine wp_loop_rounds 3 ?_
      rw [rounds_succ]; go_wp2
      go_ret
      exact ⟨rfl, rfl⟩
theorem impl_read (s : ByteArray) (w : World) : Calls Try.prog 47 #[.string s] w fun e w' => e = .returned (readV s) ∧ Below w.heap.size w w' := by
  by_cases hl : 65536 < s.size
  · rw [readV, if_pos hl]
    have hL : scode1 s = 2 := by simp [scode1, long_t hl]
    go_enter Try.func47, Try.ntmps47
    go_wp2_with fail
    refine (size_one s _ _ (by simp)).mono ?_
    rintro e w1 ⟨rfl, rfl⟩
    rw [hL]
    go_wp2
    go_ret2
    exact ⟨rfl, by go_grown⟩
  · by_cases h : s.size = 32
    · rw [readV, if_neg hl, if_pos h]
      have hL : scode1 s = 0 := by simp [scode1, long_f hl, h]
      go_enter Try.func47, Try.ntmps47
      go_wp2_with fail
      refine (size_one s _ _ (by simp)).mono ?_
      rintro e w1 ⟨rfl, rfl⟩
      rw [hL]
      go_wp2_with fail
      refine (limbsOf_any s h _).mono ?_
      rintro e w1 ⟨⟨m0, m1, m2, m3, m4, rfl, hin, hv⟩, hb⟩
      have HV := hide hv
      clear hv
      go_wp2_with fail
      refine (text_any m0 m1 m2 m3 m4 _ (in_car hin)).mono ?_
      rintro e w2 ⟨rfl, hb2⟩
      rw [unhide HV, show enc (((numN s : Nat) : Int) % 57896044618658097711785492504343953926634992332820282019728792003956564819968 % pInt) = redB s from rfl]
      clear HV
      go_wp2
      go_ret2
      exact ⟨rfl, ((Below.refl _ _).alloc (Nat.le_refl _) _).trans ((hb.trans (hb2.mono hb.size)).mono (by simp))⟩
    · rw [readV, if_neg hl, if_neg h]
      have hL : scode1 s = 1 := by simp [scode1, long_f hl, h]
      go_enter Try.func47, Try.ntmps47
      go_wp2_with fail
      refine (size_one s _ _ (by simp)).mono ?_
      rintro e w1 ⟨rfl, rfl⟩
      rw [hL]
      go_wp2
      go_ret2
      exact ⟨rfl, by go_grown⟩
theorem read_law (s : ByteArray) (hs : s.size ≤ maxLen) (w : World) : Calls Try.prog 10 #[.string s] w fun e w' => e = .returned (.bool true) ∧ Below w.heap.size w w' := by
  unfold maxLen at hs
  by_cases h1 : s.size ≤ 1048576
  · obtain ⟨x, y, hx⟩ : ∃ (x : ByteArray) (y : Int), readV s = .tuple #[.string x, .int .i64 y] := by
      unfold readV; split
      · exact ⟨_, _, rfl⟩
      · split <;> exact ⟨_, _, rfl⟩
    have HX := hide hx
    clear hx
    go_enter Try.func10, Try.ntmps10
    go_wp2_with fail
    refine (spec_read s _).mono ?_
    rintro e w1 ⟨rfl, hb1⟩
    rw [unhide HX]
    go_wp2_with fail
    refine (impl_read s _).mono ?_
    rintro e w2 ⟨rfl, hb2⟩
    rw [unhide HX]
    go_wp2
    go_ret
    exact ⟨rfl, hb1.trans (hb2.mono hb1.size)⟩
  · go_enter Try.func10, Try.ntmps10
    go_wp2
    go_ret
    exact ⟨rfl, Below.refl _ _⟩
end Go.Proofs.Ytecphhfdleaklaa
