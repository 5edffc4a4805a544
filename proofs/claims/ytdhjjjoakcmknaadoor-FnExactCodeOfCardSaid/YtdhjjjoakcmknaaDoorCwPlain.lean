/- Plain facts: the words of the codes, with no program in them. -/
import Derived.WalkKit
namespace Go.Proofs.YtdhjjjoakcmknaaDoor
open Go.RowKit
theorem hide {p : Prop} (h : p) : Hid p := h
theorem unhide {p : Prop} (h : Hid p) : p := h
/-- the words of the codes, in their order, as bytes -/
def codeWords : List (List UInt8) := [[111, 107], [98, 97, 100], [108, 111, 110, 103], [102, 111, 114, 109], [114, 97, 110, 103, 101], [110, 111, 110, 101], [109, 97, 110, 121], [102, 117, 108, 108], [115, 117, 109], [116, 119, 105, 99, 101], [115, 101, 97, 108, 101, 100], [114, 111, 111, 116], [114, 101, 112, 108, 97, 121], [108, 97, 116, 101], [109, 105, 115, 115, 105, 110, 103], [97, 98, 111, 114, 116, 101, 100], [115, 105, 108, 101, 110, 116], [113, 117, 101, 117, 101], [97, 103, 97, 105, 110], [122, 101, 114, 111]]
def wordAt (i : Nat) : ByteArray := ⟨(codeWords.getD i []).toArray⟩
theorem words_at (i : Nat) (hi : i < 20) : (codeWords.map fun b => Value.string ⟨b.toArray⟩)[i]'(by simpa [codeWords] using hi) = .string (wordAt i) := by
  have h : i < codeWords.length := by simpa [codeWords] using hi
  simp [wordAt, h]
/-- r is the code of the word s -/
def IsCode (s : ByteArray) (r : Int) : Prop := (∃ k : Nat, k < 20 ∧ r = k ∧ s = wordAt k ∧ ∀ j, j < k → s ≠ wordAt j) ∨ (r = -1 ∧ ∀ j, j < 20 → s ≠ wordAt j)
theorem isCode_one {s : ByteArray} {a b : Int} (ha : IsCode s a) (hb : IsCode s b) : a = b := by
  rcases ha with ⟨k, hk, rfl, e, n⟩ | ⟨rfl, n⟩ <;> rcases hb with ⟨m, hm, rfl, f, n2⟩ | ⟨rfl, n2⟩
  · rcases Nat.lt_trichotomy k m with h | h | h
    · exact absurd e (n2 k h)
    · rw [h]
    · exact absurd f (n m h)
  · exact absurd e (n2 k hk)
  · exact absurd f (n m hm)
  · rfl
theorem ret_str {a b : ByteArray} (h : a = b) : Ending.returned (.string a) = .returned (.string b) := by rw [h]
end Go.Proofs.YtdhjjjoakcmknaaDoor
