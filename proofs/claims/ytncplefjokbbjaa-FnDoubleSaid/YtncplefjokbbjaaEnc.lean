/- Bytes of a number and the number of bytes: one is the other's inverse. -/
import Derived.Test.YtncplefjokbbjaaLe
import Derived.Test.YtncplefjokbbjaaBytes
namespace Go.Proofs.Ytncplefjokbbjaa
/-- the bytes of a natural number -/
def bytesN (L n : Nat) : List UInt8 := (List.range L).map fun i => UInt8.ofNat (n / 256 ^ i % 256)
theorem bytesN_succ (L n : Nat) : bytesN (L + 1) n = UInt8.ofNat (n % 256) :: bytesN L (n / 256) := by
  unfold bytesN
  rw [List.range_succ_eq_map, List.map_cons, List.map_map]
  congr 1
  · simp
  · apply List.map_congr_left
    intro i _
    simp only [Function.comp]
    rw [Nat.pow_succ, Nat.mul_comm, ← Nat.div_div_eq_div_mul]
theorem leN_bytesN : ∀ L n, leN (bytesN L n) = n % 256 ^ L
  | 0, n => by simp [bytesN, leN, Nat.mod_one]
  | L + 1, n => by
    rw [bytesN_succ, leN, leN_bytesN L, Nat.pow_succ, Nat.mul_comm (256 ^ L), Nat.mod_mul]
    congr 1
    rw [UInt8.toNat_ofNat']
    omega
theorem bytesN_leN : ∀ l : List UInt8, bytesN l.length (leN l) = l
  | [] => rfl
  | b :: r => by
    have hb : b.toNat < 256 := UInt8.toNat_lt b
    rw [List.length_cons, bytesN_succ]
    have e1 : leN (b :: r) % 256 = b.toNat := by simp only [leN]; omega
    have e2 : leN (b :: r) / 256 = leN r := by simp only [leN]; omega
    rw [e1, e2, bytesN_leN r, UInt8.ofNat_toNat]
theorem enc_nat (n : Nat) : enc (n : Int) = ⟨(bytesN 32 n).toArray⟩ := by
  unfold enc strOfNums bytesN
  rw [List.map_map]
  congr 2
theorem enc_size (n : Nat) : (enc (n : Int)).size = 32 := by
  rw [enc_nat]; simp [ByteArray.size, bytesN]
theorem numN_enc (n : Nat) (h : n < 256 ^ 32) : numN (enc (n : Int)) = n := by
  rw [enc_nat]
  unfold numN
  show leN (bytesN 32 n) = n
  rw [leN_bytesN, Nat.mod_eq_of_lt h]
theorem enc_numN (s : ByteArray) (h : s.size = 32) : enc (numN s : Int) = s := by
  rw [enc_nat]
  obtain ⟨⟨l⟩⟩ := s
  have hl : l.length = 32 := h
  show (⟨(bytesN 32 (leN l)).toArray⟩ : ByteArray) = _
  rw [← hl, bytesN_leN]
def pN : Nat := 57896044618658097711785492504343953926634992332820282019728792003956564819949
/-- the texts that are field numbers -/
def okB (s : ByteArray) : Bool := decide (s.size = 32 ∧ numN s < pN)
theorem red_lt (n : Nat) : ∃ m : Nat, ((n : Int) % 57896044618658097711785492504343953926634992332820282019728792003956564819968) % pInt = (m : Int) ∧ m < pN ∧ (n < pN → m = n) := by
  refine ⟨n % 57896044618658097711785492504343953926634992332820282019728792003956564819968 % pN, ?_, ?_, ?_⟩
  · unfold pInt pN; omega
  · unfold pN; omega
  · unfold pN; omega
/-- a text is a field number just where its reduced form is itself -/
theorem same_iff (s : ByteArray) (h : s.size = 32) : enc (((numN s : Nat) : Int) % 57896044618658097711785492504343953926634992332820282019728792003956564819968 % pInt) = s ↔ numN s < pN := by
  obtain ⟨m, e, hm, hn⟩ := red_lt (numN s)
  rw [e]
  constructor
  · intro h2
    have := numN_enc m (by unfold pN at hm; omega)
    rw [h2] at this
    omega
  · intro h2
    rw [hn h2, enc_numN s h]
end Go.Proofs.Ytncplefjokbbjaa
