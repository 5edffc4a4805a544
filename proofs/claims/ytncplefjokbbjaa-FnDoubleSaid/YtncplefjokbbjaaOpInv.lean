/- Contracts of FieldInverse on both sides, and the law of it. -/
import Derived.Test.YtncplefjokbbjaaOpPow
import Derived.DeepKeys
namespace Go.Proofs.Ytncplefjokbbjaa
open Go.RowKit
set_option maxHeartbeats 3200000
theorem items_cons (xs ys : Array Value) (i : Nat) (is : List Nat) (a b : Int) (w : World) (hx : xs[i]? = some (.int .u64 a)) (hy : ys[i]? = some (.int .u64 b)) :
    (Op.eqItems 9999 40 1 xs ys (i :: is)).run Try.prog w = if (a == b) = true then (Op.eqItems 9999 40 1 xs ys is).run Try.prog w else .ok false w := by
  have he : Try.prog.plainKey 40 = true := by kernel_rfl
  simp only [Op.eqItems, Sem.run_bind, Nat.mul_one, run_part_plain w he hx, run_part_plain w he hy, Result.andThen_ok, run_equalIn_int w 9998 40 .u64 .u64 a b Try.underlying40]
  cases (a == b) <;> simp
theorem eq5 (m0 m1 m2 m3 m4 : Int) (w : World) : (Op.equalIn 10000 42 (L5 m0 m1 m2 m3 m4) (L5 0 0 0 0 0)).run Try.prog w = .ok (m0 == 0 && (m1 == 0 && (m2 == 0 && (m3 == 0 && m4 == 0)))) w := by
  obtain ⟨i, hi⟩ := info_of_underlying Try.underlying40
  have hc : Try.prog.cellsOf 40 = 1 := by kernel_rfl
  rw [run_equalIn_array w 9999 _ _ Try.underlying42 hi, hc, show List.range 5 = [0, 1, 2, 3, 4] from rfl,
    items_cons _ _ 0 _ m0 0 w rfl rfl, items_cons _ _ 1 _ m1 0 w rfl rfl, items_cons _ _ 2 _ m2 0 w rfl rfl, items_cons _ _ 3 _ m3 0 w rfl rfl, items_cons _ _ 4 _ m4 0 w rfl rfl]
  cases (m0 == 0) <;> cases (m1 == 0) <;> cases (m2 == 0) <;> cases (m3 == 0) <;> cases (m4 == 0) <;> simp [Op.eqItems]
theorem zero5 {m0 m1 m2 m3 m4 : Int} {n : Nat} (h : In51 m0 m1 m2 m3 m4) (hv : V5 m0 m1 m2 m3 m4 = (n : Int)) : (m0 == 0 && (m1 == 0 && (m2 == 0 && (m3 == 0 && m4 == 0)))) = decide (n = 0) := by
  obtain ⟨h0, h1, h2, h3, h4⟩ := h
  unfold V5 at hv
  rw [Bool.eq_iff_iff]
  simp only [Bool.and_eq_true, beq_iff_eq, decide_eq_true_eq]
  omega
def lessTwo : ByteArray := ⟨#[235, 255, 255, 255, 255, 255, 255, 255, 255, 255, 255, 255, 255, 255, 255, 255, 255, 255, 255, 255, 255, 255, 255, 255, 255, 255, 255, 255, 255, 255, 255, 127]⟩
theorem less_size : lessTwo.size = 32 := rfl
theorem less_num : numN lessTwo = 57896044618658097711785492504343953926634992332820282019728792003956564819947 := by decide +kernel
theorem less_nums : strOfNums [235, 255, 255, 255, 255, 255, 255, 255, 255, 255, 255, 255, 255, 255, 255, 255, 255, 255, 255, 255, 255, 255, 255, 255, 255, 255, 255, 255, 255, 255, 255, 127] = lessTwo := by decide +kernel
theorem zero_num (a : ByteArray) (h : a.size = 32) : (a.toList == (strOfNums [0, 0, 0, 0, 0, 0, 0, 0, 0, 0, 0, 0, 0, 0, 0, 0, 0, 0, 0, 0, 0, 0, 0, 0, 0, 0, 0, 0, 0, 0, 0, 0]).toList) = decide (numN a = 0) := by
  have hz : strOfNums [0, 0, 0, 0, 0, 0, 0, 0, 0, 0, 0, 0, 0, 0, 0, 0, 0, 0, 0, 0, 0, 0, 0, 0, 0, 0, 0, 0, 0, 0, 0, 0] = enc ((0 : Nat) : Int) := by decide +kernel
  rw [hz, Bool.eq_iff_iff]
  simp only [beq_iff_eq, decide_eq_true_eq]
  constructor
  · intro e
    rw [text_eq e, numN_enc 0 (by decide)]
  · intro e
    rw [← e, enc_numN a h]
theorem lless_any (w : World) : Calls Try.prog 59 #[.int .i64 21] w fun e w' => e = .returned (.string lessTwo) ∧ Below w.heap.size w w' := by
  have hm := make32
  have HL := hide less_nums
  go_enter Try.func59, Try.ntmps59
  go_wp2
  clear hm
  refine wp_loop_rounds 33 ?_
  rw [rounds_succ]; go_wp2
  rw [rounds_succ]; go_wp2
  rw [rounds_succ]; go_wp2
  rw [rounds_succ]; go_wp2
  rw [rounds_succ]; go_wp2
  rw [rounds_succ]; go_wp2
  rw [rounds_succ]; go_wp2
  rw [rounds_succ]; go_wp2
  rw [rounds_succ]; go_wp2
  rw [rounds_succ]; go_wp2
  rw [rounds_succ]; go_wp2
  rw [rounds_succ]; go_wp2
  rw [rounds_succ]; go_wp2
  rw [rounds_succ]; go_wp2
  rw [rounds_succ]; go_wp2
  rw [rounds_succ]; go_wp2
  rw [rounds_succ]; go_wp2
  rw [rounds_succ]; go_wp2
  rw [rounds_succ]; go_wp2
  rw [rounds_succ]; go_wp2
  rw [rounds_succ]; go_wp2
  rw [rounds_succ]; go_wp2
  rw [rounds_succ]; go_wp2
  rw [rounds_succ]; go_wp2
  rw [rounds_succ]; go_wp2
  rw [rounds_succ]; go_wp2
  rw [rounds_succ]; go_wp2
  rw [rounds_succ]; go_wp2
  rw [rounds_succ]; go_wp2
  rw [rounds_succ]; go_wp2
  rw [rounds_succ]; go_wp2
  rw [rounds_succ]; go_wp2
  rw [rounds_succ]; go_wp2
  go_ret
  refine ⟨?_, by go_grown⟩
  rw [← unhide HL]
  rfl
theorem linv_any (w : World) (ba ca : Nat) (A : Int) (ha : Row10 w ba A) :
    Calls Try.prog 42 #[.slice (some ⟨ba, 0, none⟩) 10 ca] w fun e w' => ∃ k, e = .returned (.slice (some ⟨k, 0, none⟩) 10 10) ∧ Below w.heap.size w w' ∧ Row10 w' k (A ^ numN lessTwo) := by
  have HA := hide ha
  clear ha
  go_enter Try.func42, Try.ntmps42
  go_wp2_with fail
  refine (lless_any _).mono ?_
  rintro e w1 ⟨rfl, hb1⟩
  go_wp2_with fail
  refine (lpower_any w1 ba ca A lessTwo less_size ((unhide HA).kept hb1)).mono ?_
  rintro e w2 ⟨k, rfl, hb2, hr2⟩
  have HR := hide hr2
  clear hr2
  go_wp2
  go_ret
  exact ⟨k, rfl, hb1.trans (hb2.mono hb1.size), unhide HR⟩
def code1 (a : ByteArray) : Int := if longB a then 2 else if okB a then 0 else 1
theorem code_one (a : ByteArray) (w : World) (k : Nat) (hc : w.cell? ⟨k, 0, none⟩ = some (.string a)) :
    Calls Try.prog 32 #[.slice (some ⟨k, 0, none⟩) 1 1] w fun e w' => e = .returned (.int .i64 (code1 a)) ∧ Below w.heap.size w w' := by
  cases hl : longB a with
  | true =>
    rw [show code1 a = 2 by simp [code1, hl]]
    go_enter Try.func32, Try.ntmps32
    go_wp2_with fail
    refine (long_one a _ _ hc).mono ?_
    rintro e w1 ⟨rfl, rfl⟩
    rw [hl]
    go_wp2
    go_ret
    exact ⟨rfl, Below.refl _ _⟩
  | false =>
    cases ha : okB a with
    | false =>
      rw [show code1 a = 1 by simp [code1, hl, ha]]
      go_enter Try.func32, Try.ntmps32
      go_wp2_with fail
      refine (long_one a _ _ hc).mono ?_
      rintro e w1 ⟨rfl, rfl⟩
      rw [hl]
      go_wp2
      refine wp_loop_rounds 2 ?_
      rw [rounds_succ]
      go_wp2_with fail
      refine (impl_ok a _).mono ?_
      rintro e w1 ⟨rfl, hb⟩
      rw [ha]
      go_wp2
      go_ret
      exact ⟨rfl, hb⟩
    | true =>
      rw [show code1 a = 0 by simp [code1, hl, ha]]
      go_enter Try.func32, Try.ntmps32
      go_wp2_with fail
      refine (long_one a _ _ hc).mono ?_
      rintro e w1 ⟨rfl, rfl⟩
      rw [hl]
      go_wp2
      refine wp_loop_rounds 2 ?_
      rw [rounds_succ]
      go_wp2_with fail
      refine (impl_ok a _).mono ?_
      rintro e w1 ⟨rfl, hb⟩
      rw [ha]
      go_wp2
      rw [rounds_succ]
      go_wp2
      go_ret
      exact ⟨rfl, hb⟩
def InvV (a : ByteArray) : Value := if longB a then .tuple #[.string ⟨#[]⟩, .int .i64 2] else if okB a then (if numN a = 0 then .tuple #[.string ⟨#[]⟩, .int .i64 19] else .tuple #[.string (enc (((numN a : Int) ^ numN lessTwo) % pInt)), .int .i64 0]) else .tuple #[.string ⟨#[]⟩, .int .i64 1]
end Go.Proofs.Ytncplefjokbbjaa
