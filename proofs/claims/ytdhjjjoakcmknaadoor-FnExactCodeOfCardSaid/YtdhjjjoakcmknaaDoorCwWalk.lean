/- Contracts of the functions of the codes. -/
import Derived.Test.YtdhjjjoakcmknaaDoorRows
import Derived.Test.YtdhjjjoakcmknaaDoorCwPlain
import Derived.WalkKit
import Derived.WalkSpells
import Derived.Outline
namespace Go.Proofs.YtdhjjjoakcmknaaDoor
open Go.RowKit
set_option maxHeartbeats 400000
theorem impl_word_in (i : Nat) (hi : i < 20) (w : World) (hc : ∀ j, j < 20 → w.cell? ⟨0, j, none⟩ = some (.string (wordAt j))) :
    Calls Tryd.prog 16 #[.int .i64 i] w fun e w' => e = .returned (.string (wordAt i)) ∧ w' = w := by
  have h := hc i hi
  clear hc
  go_enter Tryd.func16, Tryd.ntmps16
  go_wp2
  go_ret
  exact ⟨rfl, rfl⟩
theorem spec_word_in (i : Nat) (hi : i < 20) (w : World) :
    Calls Tryd.prog 15 #[.int .i64 i] w fun e w' => e = .returned (.string (wordAt i)) ∧ Below w.heap.size w w' := by
  go_enter Tryd.func15, Tryd.ntmps15
  go_wp2
  go_ret
  exact ⟨congrArg Ending.returned (words_at i hi), (Below.refl _ _).alloc (Nat.le_refl _) _⟩
theorem impl_word_out (i : Int) (hi : i < 0 ∨ 20 ≤ i) (w : World) : Calls Tryd.prog 16 #[.int .i64 i] w fun e w' => e = .returned (.string ⟨#[]⟩) ∧ w' = w := by
  rcases hi with hi | hi <;> go_enter Tryd.func16, Tryd.ntmps16 <;> go_wp2 <;> go_ret <;> exact ⟨rfl, rfl⟩
theorem spec_word_out (i : Int) (hi : i < 0 ∨ 20 ≤ i) (w : World) : Calls Tryd.prog 15 #[.int .i64 i] w fun e w' => e = .returned (.string ⟨#[]⟩) ∧ Below w.heap.size w w' := by
  rcases hi with hi | hi <;> go_enter Tryd.func15, Tryd.ntmps15 <;> go_wp2 <;> go_ret <;> exact ⟨rfl, (Below.refl _ _).alloc (Nat.le_refl _) _⟩
theorem codeWord_law (i : Int) (w : World) (hc : ∀ j, j < 20 → w.cell? ⟨0, j, none⟩ = some (.string (wordAt j))) (h0 : 0 < w.heap.size) :
    Calls Tryd.prog 4 #[.int .i64 i] w fun e w' => e = .returned (.bool true) ∧ Below w.heap.size w w' := by
  by_cases hi : i < 0 ∨ 20 ≤ i
  · clear hc
    go_enter Tryd.func4, Tryd.ntmps4
    go_wp2_with fail
    refine (spec_word_out _ hi _).mono ?_
    rintro e w1 ⟨rfl, hb⟩
    go_wp2_with fail
    refine (impl_word_out _ hi _).mono ?_
    rintro e w2 ⟨rfl, rfl⟩
    go_wp2
    go_ret
    exact ⟨rfl, hb⟩
  · obtain ⟨n, rfl⟩ := Int.eq_ofNat_of_zero_le (show 0 ≤ i by omega)
    have hn : n < 20 := by omega
    have HC := hide hc
    clear hc
    go_enter Tryd.func4, Tryd.ntmps4
    go_wp2_with fail
    refine (spec_word_in n hn _).mono ?_
    rintro e w1 ⟨rfl, hb⟩
    go_wp2_with fail
    refine (impl_word_in n hn _ (fun j hj => by rw [hb.cell (p := ⟨0, j, none⟩) h0]; exact unhide HC j hj)).mono ?_
    rintro e w2 ⟨rfl, rfl⟩
    go_wp2
    go_ret
    exact ⟨rfl, hb⟩
end Go.Proofs.YtdhjjjoakcmknaaDoor
