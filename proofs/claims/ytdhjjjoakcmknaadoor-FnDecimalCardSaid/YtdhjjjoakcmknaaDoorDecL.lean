/- The decimal digits of a number, with no program in them. -/
import Derived.WalkKit
import Derived.Laws.BytesArg
namespace Go.Proofs.YtdhjjjoakcmknaaDoor
def decF : Nat → Nat → List Int
  | 0, _ => []
  | f + 1, n => if n < 10 then [48 + (n : Int)] else decF f (n / 10) ++ [48 + ((n % 10 : Nat) : Int)]
def decL (n : Nat) : List Int := decF (n + 1) n
theorem decF_more : ∀ (f g n : Nat), n < f → n < g → decF f n = decF g n
  | 0, _, _, h, _ => absurd h (Nat.not_lt_zero _)
  | _ + 1, 0, _, _, h => absurd h (Nat.not_lt_zero _)
  | f + 1, g + 1, n, h1, h2 => by
    rw [decF, decF]
    by_cases h : n < 10
    · rw [if_pos h, if_pos h]
    · rw [if_neg h, if_neg h, decF_more f g (n / 10) (by omega) (by omega)]
/-- digits so far, and what is left of the number -/
def DecSt (N m : Nat) (ds : List Int) : Prop := (ds = [] ∧ m = N) ∨ (ds ≠ [] ∧ decL N = (if m = 0 then [] else decL m) ++ ds)
theorem decL_eq (m : Nat) : decL m = (if m / 10 = 0 then [] else decL (m / 10)) ++ [48 + ((m % 10 : Nat) : Int)] := by
  by_cases h : m < 10
  · rw [decL, decF, if_pos h, if_pos (by omega), Nat.mod_eq_of_lt h]; rfl
  · rw [decL, decF, if_neg h, if_neg (by omega), decL, decF_more m (m / 10 + 1) (m / 10) (by omega) (by omega)]
theorem dec_start (N : Nat) : DecSt N N [] := .inl ⟨rfl, rfl⟩
theorem dec_step {N m : Nat} {ds : List Int} (h : DecSt N m ds) (hm : ds = [] ∨ m ≠ 0) : DecSt N (m / 10) ((48 + ((m % 10 : Nat) : Int)) :: ds) := by
  right
  refine ⟨by simp, ?_⟩
  rcases h with ⟨rfl, rfl⟩ | ⟨hne, e⟩
  · exact decL_eq m
  · have hm' : m ≠ 0 := hm.resolve_left hne
    rw [e, if_neg hm', decL_eq m, List.append_assoc]
    rfl
theorem dec_end {N : Nat} {ds : List Int} (h : DecSt N 0 ds) (hd : ds ≠ []) : decL N = ds := by
  rcases h with ⟨rfl, _⟩ | ⟨_, e⟩
  · exact absurd rfl hd
  · rw [e, if_pos rfl]; rfl
theorem nums_cons (x : Int) (xs : List Int) : strOfNums [x] ++ strOfNums xs = strOfNums (x :: xs) := by
  apply ByteArray.ext
  rw [ByteArray.data_append]
  simp [strOfNums]
theorem nums_nil {xs : List Int} : (strOfNums xs).size = 0 ↔ xs = [] := by rw [strOfNums_size, List.length_eq_zero_iff]
end Go.Proofs.YtdhjjjoakcmknaaDoor
