/- Contracts of FieldRead on both sides, of anyLong and of fieldCode. -/
import Derived.Test.YtncplefjokbbjaaOk
namespace Go.Proofs.Ytncplefjokbbjaa
open Go.RowKit
set_option maxHeartbeats 800000
def longB (s : ByteArray) : Bool := decide (65536 < s.size)
theorem long_t {s : ByteArray} (h : 65536 < s.size) : longB s = true := by simp [longB, h]
theorem long_f {s : ByteArray} (h : ¬ 65536 < s.size) : longB s = false := by simp [longB]; omega
theorem long_one (s : ByteArray) (w : World) (b : Nat) (hc : w.cell? ⟨b, 0, none⟩ = some (.string s)) : Calls Try.prog 45 #[.slice (some ⟨b, 0, none⟩) 1 1] w fun e w' => e = .returned (.bool (longB s)) ∧ w' = w := by
  by_cases h : 65536 < s.size
  · rw [long_t h]
    go_enter Try.func45, Try.ntmps45
    go_wp2
    refine wp_loop_rounds 2 ?_
    rw [rounds_succ]; go_wp2
    go_ret
    exact ⟨rfl, rfl⟩
  · rw [long_f h]
    go_enter Try.func45, Try.ntmps45
    go_wp2
    refine wp_loop_rounds 2 ?_
    rw [rounds_succ]; go_wp2
    rw [rounds_succ]; go_wp2
    go_ret
    exact ⟨rfl, rfl⟩
theorem long_two (s t : ByteArray) (w : World) (b : Nat) (hc : w.cell? ⟨b, 0, none⟩ = some (.string s)) (hd : w.cell? ⟨b, 1, none⟩ = some (.string t)) : Calls Try.prog 45 #[.slice (some ⟨b, 0, none⟩) 2 2] w fun e w' => e = .returned (.bool (longB s || longB t)) ∧ w' = w := by
  by_cases h : 65536 < s.size
  · rw [long_t h]
    go_enter Try.func45, Try.ntmps45
    go_wp2
    refine wp_loop_rounds 3 ?_
    rw [rounds_succ]; go_wp2
    go_ret
    exact ⟨rfl, rfl⟩
  · rw [long_f h]
    by_cases h2 : 65536 < t.size
    · rw [long_t h2]
      go_enter Try.func45, Try.ntmps45
      go_wp2
      refine wp_loop_rounds 3 ?_
      rw [rounds_succ]; go_wp2
      rw [rounds_succ]; go_wp2
      go_ret
      exact ⟨rfl, rfl⟩
    · rw [long_f h2]
      go_enter Try.func45, Try.ntmps45
      go_wp2
      refine wp_loop_rounds 3 ?_
      rw [rounds_succ]; go_wp2
      rw [rounds_succ]; go_wp2
      rw [rounds_succ]; go_wp2
      go_ret
      exact ⟨rfl, rfl⟩
/-- what a text is read as, and the code -/
def readV (s : ByteArray) : Value := if 65536 < s.size then .tuple #[.string ⟨#[]⟩, .int .i64 2] else if s.size = 32 then .tuple #[.string (redB s), .int .i64 0] else .tuple #[.string ⟨#[]⟩, .int .i64 1]
theorem ret_val {a b : Value} (h : a = b) : Ending.returned a = .returned b := by rw [h]
/-- the code of texts that must have thirty-two bytes -/
def scode1 (s : ByteArray) : Int := if longB s then 2 else if s.size = 32 then 0 else 1
def scode2 (a b : ByteArray) : Int := if longB a || longB b then 2 else if a.size = 32 ∧ b.size = 32 then 0 else 1
theorem size_one (s : ByteArray) (w : World) (k : Nat) (hc : w.cell? ⟨k, 0, none⟩ = some (.string s)) :
    Calls Try.prog 21 #[.slice (some ⟨k, 0, none⟩) 1 1] w fun e w' => e = .returned (.int .i64 (scode1 s)) ∧ w' = w := by
  cases hl : longB s with
  | true =>
    rw [show scode1 s = 2 by simp [scode1, hl]]
    go_enter Try.func21, Try.ntmps21
    go_wp2_with fail
    refine (long_one s _ _ hc).mono ?_
    rintro e w1 ⟨rfl, rfl⟩
    rw [hl]
    go_wp2
    go_ret
    exact ⟨rfl, rfl⟩
  | false =>
    by_cases h : s.size = 32
    · rw [show scode1 s = 0 by simp [scode1, hl, h]]
      have hd : ((s.size : Int) != 32) = false := by simp; omega
      go_enter Try.func21, Try.ntmps21
      go_wp2_with fail
      refine (long_one s _ _ hc).mono ?_
      rintro e w1 ⟨rfl, rfl⟩
      rw [hl]
      go_wp2
      refine wp_loop_rounds 2 ?_
      rw [rounds_succ]; go_wp2
      rw [rounds_succ]; go_wp2
      go_ret
      exact ⟨rfl, rfl⟩
    · rw [show scode1 s = 1 by simp [scode1, hl, h]]
      have hd : ((s.size : Int) != 32) = true := by simp; omega
      go_enter Try.func21, Try.ntmps21
      go_wp2_with fail
      refine (long_one s _ _ hc).mono ?_
      rintro e w1 ⟨rfl, rfl⟩
      rw [hl]
      go_wp2
      refine wp_loop_rounds 2 ?_
      rw [rounds_succ]; go_wp2
      go_ret
      exact ⟨rfl, rfl⟩
theorem size_two (a b : ByteArray) (w : World) (k : Nat) (hc : w.cell? ⟨k, 0, none⟩ = some (.string a)) (hd : w.cell? ⟨k, 1, none⟩ = some (.string b)) :
    Calls Try.prog 21 #[.slice (some ⟨k, 0, none⟩) 2 2] w fun e w' => e = .returned (.int .i64 (scode2 a b)) ∧ w' = w := by
  cases hl : (longB a || longB b) with
  | true =>
    rw [show scode2 a b = 2 by simp [scode2, hl]]
    go_enter Try.func21, Try.ntmps21
    go_wp2_with fail
    refine (long_two a b _ _ hc hd).mono ?_
    rintro e w1 ⟨rfl, rfl⟩
    rw [hl]
    go_wp2
    go_ret
    exact ⟨rfl, rfl⟩
  | false =>
    by_cases h : a.size = 32
    · have hda : ((a.size : Int) != 32) = false := by simp; omega
      by_cases h2 : b.size = 32
      · rw [show scode2 a b = 0 by simp [scode2, hl, h, h2]]
        have hdb : ((b.size : Int) != 32) = false := by simp; omega
        go_enter Try.func21, Try.ntmps21
        go_wp2_with fail
        refine (long_two a b _ _ hc hd).mono ?_
        rintro e w1 ⟨rfl, rfl⟩
        rw [hl]
        go_wp2
        refine wp_loop_rounds 3 ?_
        rw [rounds_succ]; go_wp2
        rw [rounds_succ]; go_wp2
        rw [rounds_succ]; go_wp2
        go_ret
        exact ⟨rfl, rfl⟩
      · rw [show scode2 a b = 1 by simp [scode2, hl, h2]]
        have hdb : ((b.size : Int) != 32) = true := by simp; omega
        go_enter Try.func21, Try.ntmps21
        go_wp2_with fail
        refine (long_two a b _ _ hc hd).mono ?_
        rintro e w1 ⟨rfl, rfl⟩
        rw [hl]
        go_wp2
        refine wp_loop_rounds 3 ?_
        rw [rounds_succ]; go_wp2
        rw [rounds_succ]; go_wp2
        go_ret
        exact ⟨rfl, rfl⟩
    · have hda : ((a.size : Int) != 32) = true := by simp; omega
      rw [show scode2 a b = 1 by simp [scode2, hl, h]]
      go_enter Try.func21, Try.ntmps21
      go_wp2_with fail
      refine (long_two a b _ _ hc hd).mono ?_
      rintro e w1 ⟨rfl, rfl⟩
      rw [hl]
      go_wp2
      refine wp_loop_rounds 3 ?_
      rw [rounds_succ]; go_wp2
      go_ret
      exact ⟨rfl, rfl⟩
end Go.Proofs.Ytncplefjokbbjaa
