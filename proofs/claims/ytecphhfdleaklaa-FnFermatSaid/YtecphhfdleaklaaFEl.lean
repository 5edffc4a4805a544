/- The field's answers, of numbers in their one form. -/
import Derived.Test.YtecphhfdleaklaaOpAdd
import Derived.Test.YtecphhfdleaklaaOpSub
import Derived.Test.YtecphhfdleaklaaOpInv
import Derived.Test.YtecphhfdleaklaaPrime
namespace Go.Proofs.Ytecphhfdleaklaa
open Go.RowKit
/-- any number, as a text -/
def El (v : Int) : ByteArray := enc (v % pInt)
theorem p_ne : pInt ≠ 0 := by unfold pInt; decide
theorem p_pos : 0 < pInt := by unfold pInt; decide
theorem El_nat (v : Int) : ∃ n : Nat, v % pInt = (n : Int) ∧ n < pN := by
  have h0 : 0 ≤ v % pInt := Int.emod_nonneg _ p_ne
  have h1 : v % pInt < pInt := Int.emod_lt_of_pos _ p_pos
  exact ⟨(v % pInt).toNat, by omega, by unfold pN; unfold pInt at h0 h1 ⊢; omega⟩
theorem El_num (v : Int) : (numN (El v) : Int) = v % pInt := by
  obtain ⟨n, e, hn⟩ := El_nat v
  unfold El
  rw [e, numN_enc n (by unfold pN at hn; omega)]
theorem El_size (v : Int) : (El v).size = 32 := by
  obtain ⟨n, e, _⟩ := El_nat v
  unfold El
  rw [e, enc_size]
theorem El_ok (v : Int) : okB (El v) = true := by
  obtain ⟨n, e, hn⟩ := El_nat v
  unfold okB El
  rw [decide_eq_true_iff, e, numN_enc n (by unfold pN at hn; omega)]
  exact ⟨enc_size n, hn⟩
theorem El_long (v : Int) : longB (El v) = false := long_f (by rw [El_size]; omega)
theorem El_max (v : Int) : (El v).size ≤ maxLen := by rw [El_size]; unfold maxLen; omega
theorem El_eq {u v : Int} (h : u % pInt = v % pInt) : El u = El v := by unfold El; rw [h]
theorem addV_El (u v : Int) : AddV (El u) (El v) = .tuple #[.string (El (u + v)), .int .i64 0] := by
  rw [AddV, El_long, El_long, if_neg (by simp), El_ok, El_ok, if_pos (by simp), El_num, El_num, Int.add_emod_emod, Int.emod_add_emod]
  rfl
theorem subV_El (u v : Int) : SubV (El u) (El v) = .tuple #[.string (El (u - v)), .int .i64 0] := by
  rw [SubV, El_long, El_long, if_neg (by simp), El_ok, El_ok, if_pos (by simp), El_num, El_num, Int.sub_emod_emod, Int.emod_sub_emod]
  rfl
theorem mulV_El (u v : Int) : MulV (El u) (El v) = .tuple #[.string (El (u * v)), .int .i64 0] := by
  rw [MulV, El_long, El_long, if_neg (by simp), El_ok, El_ok, if_pos (by simp), El_num, El_num, ← Int.mul_emod]
  rfl
theorem pow_mod (a m : Int) : ∀ e : Nat, (a % m) ^ e % m = a ^ e % m
  | 0 => by simp
  | e + 1 => by rw [Int.pow_succ, Int.pow_succ, Int.mul_emod, pow_mod a m e, Int.emod_emod_of_dvd _ (Int.dvd_refl _), ← Int.mul_emod]
theorem powV_El (u : Int) (b : ByteArray) (hb : b.size = 32) : PowV (El u) b = .tuple #[.string (El (u ^ numN b)), .int .i64 0] := by
  rw [PowV, El_long, long_f (by omega), if_neg (by simp), El_ok, if_pos (by simp [hb]), El_num, pow_mod]
  rfl
theorem invV_zero (u : Int) (h : u % pInt = 0) : InvV (El u) = .tuple #[.string ⟨#[]⟩, .int .i64 19] := by
  have : numN (El u) = 0 := by have := El_num u; omega
  rw [InvV, El_long, if_neg (by simp), El_ok, if_pos rfl, if_pos this]
theorem invV_El (u : Int) (h : u % pInt ≠ 0) : InvV (El u) = .tuple #[.string (El (u ^ numN lessTwo)), .int .i64 0] := by
  have : numN (El u) ≠ 0 := fun e => h (by have := El_num u; omega)
  rw [InvV, El_long, if_neg (by simp), El_ok, if_pos rfl, if_neg this, El_num, pow_mod]
  rfl
theorem fermatI (u : Int) (h : u % pInt ≠ 0) : u ^ 57896044618658097711785492504343953926634992332820282019728792003956564819948 % pInt = 1 := by
  obtain ⟨n, e, hn⟩ := El_nat u
  have hnd : ¬ 57896044618658097711785492504343953926634992332820282019728792003956564819949 ∣ n := fun hd => by
    obtain ⟨k, rfl⟩ := hd
    rcases Nat.eq_zero_or_pos k with rfl | hk
    · exact h (by rw [e]; rfl)
    · unfold pN at hn; omega
  have hf := fermat prm_p hnd
  rw [← pow_mod, e]
  generalize hE : (57896044618658097711785492504343953926634992332820282019728792003956564819948 : Nat) = E at *
  have hE' : 57896044618658097711785492504343953926634992332820282019728792003956564819949 - 1 = E := by omega
  rw [hE'] at hf
  rw [← Int.natCast_pow, show pInt = ((57896044618658097711785492504343953926634992332820282019728792003956564819949 : Nat) : Int) from rfl, ← Int.natCast_emod, hf]
  rfl
theorem inv_one (u : Int) (h : u % pInt ≠ 0) : El (u * u ^ numN lessTwo) = El 1 := by
  apply El_eq
  rw [less_num, Int.mul_comm, ← Int.pow_succ, fermatI u h]
  rfl
theorem fermat_all (u : Int) : El (u ^ 57896044618658097711785492504343953926634992332820282019728792003956564819949) = El u := by
  apply El_eq
  rw [show (57896044618658097711785492504343953926634992332820282019728792003956564819949 : Nat) = 57896044618658097711785492504343953926634992332820282019728792003956564819948 + 1 from rfl, Int.pow_succ, Int.mul_emod]
  by_cases h : u % pInt = 0
  · rw [h, Int.mul_zero]; rfl
  · rw [fermatI u h, Int.one_mul, Int.emod_emod_of_dvd _ (Int.dvd_refl _)]
end Go.Proofs.Ytecphhfdleaklaa
