/- The law FnExactConsole. -/
import Derived.Test.YtbkcgkffafjbgaaGreatDoorCns
namespace Go.Proofs.YtbkcgkffafjbgaaGreatDoor
open Go.RowKit
set_option maxHeartbeats 4000000
set_option maxRecDepth 20000
set_option linter.unusedVariables false
theorem conV_shape (l : By) : ∃ (s : ByteArray) (c : Int), conV l = .tuple #[.string s, .int .i64 c] := by
  unfold conV
  split
  · exact ⟨_, _, rfl⟩
  · split
    · exact ⟨_, _, rfl⟩
    · exact ⟨_, _, rfl⟩
theorem law_console (t : ByteArray) (m : Int) (w : World) (hg : Gl w) (hm : w.cell? ⟨2, 0, none⟩ = some (.int .i64 m)) (ht : t.size ≤ maxLen) :
    Calls Tryz.prog 4 #[.string t] w fun e w' => e = .returned (.bool true) ∧ Below w.heap.size w w' := by
  obtain ⟨l, rfl⟩ : ∃ l, t = bs l := ⟨_, (bs_of t).symm⟩
  have hl : l.length ≤ maxLen := by rw [bs_size] at ht; exact ht
  have q9 : ((bs l).size : Int) ≤ 9223372036854775807 := by unfold maxLen at ht; omega
  by_cases h : 1048576 < (bs l).size
  · have q1 : (1048576 : Int) < ((bs l).size : Int) := by omega
    clear hg hm ht h hl
    go_enter Tryz.func4, Tryz.ntmps4
    go_wp2_with fail
    go_ret
    exact ⟨rfl, Below.refl _ _⟩
  have q1 : ((bs l).size : Int) ≤ 1048576 := by omega
  have h2 := World.block_lt_of_cell? w _ hm
  have K10 := con10 l w hl
  have K9 := hide (fun W (b : Below w.heap.size w W) => con9 l m W (hg.below b) ((World.cell?_of_block (b.block _ h2)).trans hm) hl)
  obtain ⟨s, c, hr⟩ := conV_shape l
  rw [hr] at K10 K9
  clear hr hg hm ht h hl h2
  generalize bs l = lt at *
  go_enter Tryz.func4, Tryz.ntmps4
  go_wp2_with (first | (go_at_call 10; refine K10.mono ?_; rintro e w1 ⟨rfl, b1⟩; have HB1 := hide b1; clear b1) | (go_at_call 9; refine (unhide K9 _ (unhide HB1)).mono ?_; rintro e w2 ⟨rfl, b2⟩; have HB2 := hide (bl_st b2 (unhide HB1)); clear b2))
  go_ret
  exact ⟨rfl, unhide HB2⟩
end Go.Proofs.YtbkcgkffafjbgaaGreatDoor
