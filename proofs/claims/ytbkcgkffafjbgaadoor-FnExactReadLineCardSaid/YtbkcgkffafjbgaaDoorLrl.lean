/- The law FnExactReadLine. -/
import Derived.Test.YtbkcgkffafjbgaaDoorRdr
namespace Go.Proofs.YtbkcgkffafjbgaaDoor
open Go.RowKit
set_option maxHeartbeats 4000000
set_option maxRecDepth 20000
theorem readV_shape (l : By) : ∃ (a : At) (c : Int), readV l = .tuple #[atV a, .int .i64 c] := by
  unfold readV
  split
  · exact ⟨⟨0, 0, [], false, false⟩, 2, rfl⟩
  · cases actR l with
    | none => exact ⟨⟨0, 0, [], false, false⟩, 3, rfl⟩
    | some a => exact ⟨a, 0, rfl⟩
theorem law_line (t : ByteArray) (w : World) (hn : Nm w) (ht : t.size ≤ maxLen) :
    Calls Tryd.prog 3 #[.string t] w fun e w' => e = .returned (.bool true) ∧ Below w.heap.size w w' := by
  obtain ⟨l, rfl⟩ : ∃ l, t = bs l := ⟨_, (bs_of t).symm⟩
  have hl : l.length ≤ maxLen := by rw [bs_size] at ht; exact ht
  have q9 : ((bs l).size : Int) ≤ 9223372036854775807 := by unfold maxLen at ht; omega
  by_cases h : 1048576 < (bs l).size
  · have q1 : (1048576 : Int) < ((bs l).size : Int) := by omega
    clear hn ht h hl
    go_enter Tryd.func3, Tryd.ntmps3
    go_wp2_with fail
    go_ret
    exact ⟨rfl, Below.refl _ _⟩
  have q1 : ((bs l).size : Int) ≤ 1048576 := by omega
  have K4 := hide (fun W => read4 l W hl)
  have K5 := hide (fun W a => read5 l W a hl)
  have HN := hide hn
  obtain ⟨a, c, hr⟩ := readV_shape l
  rw [hr] at K4 K5
  have K6 := hide (fun W => eq6 a W)
  obtain ⟨k, wh, x, la, lb⟩ := a
  unfold atV atA at K4 K5 K6
  simp only [] at K4 K5 K6
  generalize bs x = x' at *
  clear hr hn ht h hl
  go_enter Tryd.func3, Tryd.ntmps3
  go_wp2_with (first | (go_at_call 4; refine (unhide K4 _).mono ?_; rintro e w1 ⟨rfl, hb⟩; have HB1 := hide (bl_al (o := .cells #[.int .i64 k, .int .i64 wh, .string x', .bool la, .bool lb] 23) hb); have HN1 := hide ((unhide HN).below (bl_al (o := .cells #[.int .i64 k, .int .i64 wh, .string x', .bool la, .bool lb] 23) hb)); have C1 := hide (heap_alloc_new w1 (.cells #[.int .i64 k, .int .i64 wh, .string x', .bool la, .bool lb] 23)); clear hb K4) | (go_at_call 5; refine (unhide K5 _ (unhide HN1)).mono ?_; rintro e w2 ⟨rfl, hb⟩; have HB2 := hide (bl_al (o := .cells #[.int .i64 k, .int .i64 wh, .string x', .bool la, .bool lb] 23) (bl_st hb (unhide HB1))); have C2 := ((bl_al (o := .cells #[.int .i64 k, .int .i64 wh, .string x', .bool la, .bool lb] 23) hb).block _ (Array.getElem?_eq_some_iff.1 (unhide C1)).1).trans (unhide C1); have d0 := row_cell (i := 0) C2; have d1 := row_cell (i := 1) C2; have d2 := row_cell (i := 2) C2; have d3 := row_cell (i := 3) C2; have d4 := row_cell (i := 4) C2; simp at d0 d1 d2 d3 d4; clear hb K5 C2) | (go_at_call 6; refine (unhide K6 _).mono ?_; rintro e w3 ⟨rfl, hb⟩; have HB3 := hide (bl_st hb (unhide HB2)); clear hb))
  go_ret
  exact ⟨rfl, unhide HB3⟩
end Go.Proofs.YtbkcgkffafjbgaaDoor
