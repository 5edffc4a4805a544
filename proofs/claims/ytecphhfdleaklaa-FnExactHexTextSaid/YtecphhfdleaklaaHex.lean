/- Contracts of HexText on both sides, and its law's walk. -/
import Derived.Test.YtecphhfdleaklaaRows
import Derived.Test.YtecphhfdleaklaaRow
import Derived.WalkKit
import Derived.WalkSpells
import Derived.WalkLawsBesides
import Derived.Handy
import Derived.Outline
import Derived.Laws.AppendOwn
import Derived.Laws.BitsAllLaws
import Derived.Deep.AppendLies
import Derived.OwnWalk
import Derived.Deep.RegionHeld3
namespace Go.Proofs.Ytecphhfdleaklaa
open Go.RowKit
set_option maxHeartbeats 1600000
set_option maxRecDepth 20000
theorem info5 : (Try.prog.info? 5).map (fun i => (i.zero, i.size, i.bytes)) = some (some (.int .u8 0), 1, 1) := by kernel_rfl
def hexS : ByteArray := ⟨#[48, 49, 50, 51, 52, 53, 54, 55, 56, 57, 97, 98, 99, 100, 101, 102]⟩
def hexD (n : Nat) : Int := ((hexS.data.getD n 0).toNat : Int)
def hexN (s : ByteArray) (k : Nat) : List Int := (s.data.toList.take k).flatMap fun c => [hexD (c.toNat / 16), hexD (c.toNat % 16)]
theorem hex_at (n : Nat) (hn : n < 16) (w : World) : (Instr.index 9 (.string ⟨#[48, 49, 50, 51, 52, 53, 54, 55, 56, 57, 97, 98, 99, 100, 101, 102]⟩) (.int .u8 (n : Int))).run Try.prog w = .ok (.int .u8 (hexD n)) w := by
  have : n = 0 ∨ n = 1 ∨ n = 2 ∨ n = 3 ∨ n = 4 ∨ n = 5 ∨ n = 6 ∨ n = 7 ∨ n = 8 ∨ n = 9 ∨ n = 10 ∨ n = 11 ∨ n = 12 ∨ n = 13 ∨ n = 14 ∨ n = 15 := by omega
  rcases this with rfl | rfl | rfl | rfl | rfl | rfl | rfl | rfl | rfl | rfl | rfl | rfl | rfl | rfl | rfl | rfl <;> rfl
theorem hide {p : Prop} (h : p) : Hid p := h
theorem unhide {p : Prop} (h : Hid p) : p := h
theorem hexN_len (s : ByteArray) (k : Nat) (h : k ≤ s.size) : (hexN s k).length = 2 * k := by
  have hl : (s.data.toList.take k).length = k := by rw [List.length_take]; have : s.data.toList.length = s.size := Array.length_toList; omega
  unfold hexN
  rw [List.length_flatMap]
  simp only [List.length_cons, List.length_nil]
  rw [List.map_const', List.sum_replicate_nat, hl]
  omega
theorem hexN_step (s : ByteArray) (k : Nat) (h : k < s.size) : hexN s (k + 1) = hexN s k ++ [hexD (s[k].toNat / 16), hexD (s[k].toNat % 16)] := by
  unfold hexN
  have hl : k < s.data.toList.length := by rw [Array.length_toList]; exact h
  rw [List.take_succ_eq_append_getElem hl, List.flatMap_append]
  rfl
theorem hex_str {w : World} {base n : Nat} {v : Value} {xs : List Int} (h : w.ownsRow base 5 1 v n (xs.map (Value.int .u8))) (hn : xs.length = n) : (convert 22 9 v).run Try.prog w = .ok (.string (strOfNums xs)) w := by
  rcases h.2 with ⟨rfl, h0⟩ | ⟨g, cap, cur, rfl, hb, hg, h1, h2, h3, ht⟩
  · obtain rfl : xs = [] := List.length_eq_zero_iff.1 (by omega)
    exact run_convert_bytes_nil _ 22 5 Try.underlying22 Try.underlying5 0 0 9 Try.underlying9
  · refine run_convert_bytes_arg _ 22 5 Try.underlying22 Try.underlying5 g 0 n cap xs hn ?_ 9 Try.underlying9
    intro i hi
    rw [Nat.zero_add, Go.cell_of_row _ _ _ _ _ _ hg, ← Array.getElem?_toList]
    have e : (cur.toList.take (n * 1))[i]? = (xs.map (Value.int .u8))[i]? := by rw [ht]
    rw [List.getElem?_take_of_lt (by omega)] at e
    rw [e, List.getElem?_map, List.getD_eq_getElem?_getD, List.getElem?_eq_getElem (by omega)]
    rfl
theorem hexS_any (s : ByteArray) (hs : s.size ≤ 65536) (w : World) : Calls Try.prog 88 #[.string s] w fun e w' => e = .returned (.string (strOfNums (hexN s s.size))) ∧ Below w.heap.size w w' := by
  obtain ⟨i0, hi0, hz0, hz1, hz2⟩ := info_parts info5
  go_enter Try.func88, Try.ntmps88
  go_wp2
  go_loopw [3, 4] (fun o c wr => ∃ k : Nat, k ≤ s.size ∧ c = .int .i64 k ∧ wr.ownsRow w.heap.size 5 1 o (2 * k) ((hexN s k).map (Value.int .u8)) ∧ Below w.heap.size w wr) (fun _ c _ => s.size - (intOf c).toNat)
  case atStart => exact ⟨0, Nat.zero_le _, rfl, World.ownsRow_made w #[] 0 (Nat.le_refl _) (Nat.zero_le _) rfl, (Below.refl _ _).alloc (Nat.le_refl _) _⟩
  case round =>
    obtain ⟨k, hk, rfl, hown, hbl⟩ := hrel
    by_cases hlt : k < s.size
    · have hb := UInt8.toNat_lt s[k]
      have h1 : (0 : Int) ≤ (k : Int) := by omega
      have b0 : (0 : Int) ≤ (s[k].toNat : Int) := by omega
      have b1 : (s[k].toNat : Int) < 256 := by omega
      have x0 : ∀ w', (Instr.index 9 (.string s) (.int .i64 (k : Int))).run Try.prog w' = .ok (.int .u8 (s[k].toNat : Int)) w' := fun w' => by go_simp
      have h2 : (k : Int) < (s.size : Int) := by omega
      have x1 : ∀ w', (Instr.index 9 (.string ⟨#[48, 49, 50, 51, 52, 53, 54, 55, 56, 57, 97, 98, 99, 100, 101, 102]⟩) (.int .u8 (IntKind.u8.wrap ((s[k].toNat : Int) / 16)))).run Try.prog w' = .ok (.int .u8 (hexD (s[k].toNat / 16))) w' := fun w' => by
        have := hex_at (s[k].toNat / 16) (by omega) w'
        rwa [show ((s[k].toNat / 16 : Nat) : Int) = IntKind.u8.wrap ((s[k].toNat : Int) / 16) by rw [IntKind.wrap_u8']; omega] at this
      have x2 : ∀ w', (Instr.index 9 (.string ⟨#[48, 49, 50, 51, 52, 53, 54, 55, 56, 57, 97, 98, 99, 100, 101, 102]⟩) (.int .u8 ((s[k].toNat : Int).tmod 16))).run Try.prog w' = .ok (.int .u8 (hexD (s[k].toNat % 16))) w' := fun w' => by
        have := hex_at (s[k].toNat % 16) (by omega) w'
        rwa [show ((s[k].toNat % 16 : Nat) : Int) = (s[k].toNat : Int).tmod 16 by rw [Int.tmod_eq_emod_of_nonneg b0]; omega] at this
      have E := hide (hexN_step s k hlt)
      generalize hexD (s[k].toNat / 16) = p at *
      generalize hexD (s[k].toNat % 16) = q at *
      go_wp2
      go_region_held3 (fun _ => True) (trivial)
        ((refine step_append_lies _ (by rfl) _ _ _ (by rfl) w.heap.size 5 i0 _ 1 1 Try.underlying22 hi0 hz0 hz1 hz2 rfl (by omega) u3 (2 * k) ((hexN s k).map (Value.int .u8)) (by rfl) ((hown.alloc _).drew)
              ⟨wr.heap.size, 0, none⟩ 2 2 [.int .u8 p, .int .u8 q] (by rfl) (by rfl) (World.news_of_block (cs := #[.int .u8 p, .int .u8 q]) (t := 5) (fr := (0, 0)) (heap_alloc_new wr _)) (by simp [Value.oneCell'])
              (by omega) (by unfold maxLen; omega) (by omega) (by simp; have := hbl.size; omega) (wr.heap.size + 1) (by simp) ?_; intro gg cap w1 hown1 hgrow hat hltg))
      all_goals
        clear x0 x1 x2
        go_wp2
        go_roundw
        case rel =>
          refine ⟨k + 1, by omega, by go_num, ?_, ?_⟩
          · rw [unhide E, List.map_append]
            exact hown1
          · refine Below.grown (((hbl.alloc hbl.size _)).drew) hgrow (by have := hbl.size; simp; omega) fun j hj => (hown.lt j hj).1
        case measure => simp [intOf]; omega
    · obtain rfl : k = s.size := by omega
      have hc := hex_str hown (hexN_len s s.size (Nat.le_refl _))
      go_wp2
      go_ret
      exact ⟨rfl, hbl⟩
def longB (s : ByteArray) : Bool := decide (65536 < s.size)
theorem long_t {s : ByteArray} (h : 65536 < s.size) : longB s = true := by simp [longB, h]
theorem long_f {s : ByteArray} (h : ¬ 65536 < s.size) : longB s = false := by simp [longB]; omega
theorem long_one (s : ByteArray) (w : World) (b : Nat) (hc : w.cell? ⟨b, 0, none⟩ = some (.string s)) : Calls Try.prog 69 #[.slice (some ⟨b, 0, none⟩) 1 1] w fun e w' => e = .returned (.bool (longB s)) ∧ w' = w := by
  by_cases h : 65536 < s.size
  · rw [long_t h]
    go_enter Try.func69, Try.ntmps69
    go_wp2
    refine wp_loop_rounds 2 ?_
    rw [rounds_succ]; go_wp2
    go_ret
    exact ⟨rfl, rfl⟩
  · rw [long_f h]
    go_enter Try.func69, Try.ntmps69
    go_wp2
    refine wp_loop_rounds 2 ?_
    rw [rounds_succ]; go_wp2
    rw [rounds_succ]; go_wp2
    go_ret
    exact ⟨rfl, rfl⟩
def HexV (s : ByteArray) : Value := if 65536 < s.size then .tuple #[.string ⟨#[]⟩, .int .i64 2] else .tuple #[.string (strOfNums (hexN s s.size)), .int .i64 0]
theorem spec_Hex (s : ByteArray) (w : World) : Calls Try.prog 53 #[.string s] w fun e w' => e = .returned (HexV s) ∧ Below w.heap.size w w' := by
  by_cases hl : 65536 < s.size
  · rw [HexV, if_pos hl]
    go_enter Try.func53, Try.ntmps53
    go_wp2
    go_ret2
    exact ⟨rfl, Below.refl _ _⟩
  · rw [HexV, if_neg hl]
    go_enter Try.func53, Try.ntmps53
    go_wp2_with fail
    refine (hexS_any s (by omega) _).mono ?_
    rintro e w1 ⟨rfl, hb⟩
    go_wp2
    go_ret2
    exact ⟨rfl, hb⟩
theorem impl_Hex (s : ByteArray) (w : World) : Calls Try.prog 54 #[.string s] w fun e w' => e = .returned (HexV s) ∧ Below w.heap.size w w' := by
  by_cases hl : 65536 < s.size
  · rw [HexV, if_pos hl]
    have hL := long_t hl
    go_enter Try.func54, Try.ntmps54
    go_wp2_with fail
    refine (long_one s _ _ (by simp)).mono ?_
    rintro e w1 ⟨rfl, rfl⟩
    rw [hL]
    go_wp2
    go_ret2
    exact ⟨rfl, by go_grown⟩
  · rw [HexV, if_neg hl]
    have hL := long_f hl
    obtain ⟨i0, hi0, hz0, hz1, hz2⟩ := info_parts info5
    go_enter Try.func54, Try.ntmps54
    go_wp2_with fail
    refine (long_one s _ _ (by simp)).mono ?_
    rintro e w1 ⟨rfl, rfl⟩
    rw [hL]
    go_wp2_with (at_make; refine wpList_make_own _ rfl _ _ 22 rfl w.heap.size 5 i0 (.int .u8 0) 1 Try.underlying22 hi0 hz0 hz1 .i64 .i64 _ (2 * s.size) rfl rfl (by omega) (by rw [hz2]; omega) (by unfold maxLen; omega) (by simp) ?_; intro w2 hown0 hgrow0)
    have hbl0 : Below w.heap.size w w2 := Below.grown (((Below.refl _ _).alloc (Nat.le_refl _) _)) hgrow0 (by simp) (by simp)
    clear hgrow0
    rw [World.size_alloc] at hown0
    go_loopw [4, 15] (fun o c wr => ∃ k : Nat, k ≤ s.size ∧ c = .int .i64 k ∧ wr.ownsRow w.heap.size 5 1 o (2 * k) ((hexN s k).map (Value.int .u8)) ∧ Below w.heap.size w wr) (fun _ c _ => s.size - (intOf c).toNat)
    case atStart => exact ⟨0, Nat.zero_le _, rfl, hown0, hbl0⟩
    case round =>
      obtain ⟨k, hk, rfl, hown, hbl⟩ := hrel
      by_cases hlt : k < s.size
      · have hb := UInt8.toNat_lt s[k]
        have h1 : (0 : Int) ≤ (k : Int) := by omega
        have b0 : (0 : Int) ≤ (s[k].toNat : Int) := by omega
        have b1 : (s[k].toNat : Int) < 256 := by omega
        have x0 : ∀ w', (Instr.index 9 (.string s) (.int .i64 (k : Int))).run Try.prog w' = .ok (.int .u8 (s[k].toNat : Int)) w' := fun w' => by go_simp
        have h2 : (k : Int) < (s.size : Int) := by omega
        have x1 : ∀ w', (Instr.index 9 (.string ⟨#[48, 49, 50, 51, 52, 53, 54, 55, 56, 57, 97, 98, 99, 100, 101, 102]⟩) (.int .u8 ((s[k].toNat : Int) / 16))).run Try.prog w' = .ok (.int .u8 (hexD (s[k].toNat / 16))) w' := fun w' => by
          have := hex_at (s[k].toNat / 16) (by omega) w'
          rwa [show ((s[k].toNat / 16 : Nat) : Int) = (s[k].toNat : Int) / 16 by omega] at this
        have x2 : ∀ w', (Instr.index 9 (.string ⟨#[48, 49, 50, 51, 52, 53, 54, 55, 56, 57, 97, 98, 99, 100, 101, 102]⟩) (.int .u8 (bits .and .u8 (s[k].toNat : Int) 15))).run Try.prog w' = .ok (.int .u8 (hexD (s[k].toNat % 16))) w' := fun w' => by
          have := hex_at (s[k].toNat % 16) (by omega) w'
          rwa [show ((s[k].toNat % 16 : Nat) : Int) = bits .and .u8 (s[k].toNat : Int) 15 by rw [show (15 : Int) = ((15 : Nat) : Int) from rfl, u8_and_nat _ _ (by omega) (by decide), nat_mask4]] at this
        have E := hide (hexN_step s k hlt)
        generalize hexD (s[k].toNat / 16) = p at *
        generalize hexD (s[k].toNat % 16) = q at *
        go_wp2
        go_region_held3 (fun _ => True) (trivial)
          ((refine step_append_lies _ (by rfl) _ _ _ (by rfl) w.heap.size 5 i0 _ 1 1 Try.underlying22 hi0 hz0 hz1 hz2 rfl (by omega) u4 (2 * k) ((hexN s k).map (Value.int .u8)) (by rfl) ((hown.alloc _).drew)
                ⟨wr.heap.size, 0, none⟩ 2 2 [.int .u8 p, .int .u8 q] (by rfl) (by rfl) (World.news_of_block (cs := #[.int .u8 p, .int .u8 q]) (t := 5) (fr := (0, 0)) (heap_alloc_new wr _)) (by simp [Value.oneCell'])
                (by omega) (by unfold maxLen; omega) (by omega) (by simp; have := hbl.size; omega) (wr.heap.size + 1) (by simp) ?_; intro gg cap w1 hown1 hgrow hat hltg))
        all_goals
          clear x0 x1 x2
          go_wp2
          go_roundw
          case rel =>
            refine ⟨k + 1, by omega, by go_num, ?_, ?_⟩
            · rw [unhide E, List.map_append]
              exact hown1
            · refine Below.grown (((hbl.alloc hbl.size _)).drew) hgrow (by have := hbl.size; simp; omega) fun j hj => (hown.lt j hj).1
          case measure => simp [intOf]; omega
      · obtain rfl : k = s.size := by omega
        have hc := hex_str hown (hexN_len s s.size (Nat.le_refl _))
        go_wp2
        go_ret2
        exact ⟨rfl, hbl⟩
theorem law_Hex (s : ByteArray) (_hs : s.size ≤ maxLen) (w : World) : Calls Try.prog 21 #[.string s] w fun e w' => e = .returned (.bool true) ∧ Below w.heap.size w w' := by
  unfold maxLen at _hs
  by_cases h1 : s.size ≤ 1048576
  · obtain ⟨x, y, hx⟩ : ∃ (x : ByteArray) (y : Int), HexV s = .tuple #[.string x, .int .i64 y] := by
      unfold HexV; split <;> exact ⟨_, _, rfl⟩
    have HX := hide hx
    clear hx
    go_enter Try.func21, Try.ntmps21
    go_wp2_with fail
    refine (spec_Hex s _).mono ?_
    rintro e w1 ⟨rfl, hb1⟩
    rw [unhide HX]
    go_wp2_with fail
    refine (impl_Hex s _).mono ?_
    rintro e w2 ⟨rfl, hb2⟩
    rw [unhide HX]
    go_wp2
    go_ret
    exact ⟨rfl, hb1.trans (hb2.mono hb1.size)⟩
  · go_enter Try.func21, Try.ntmps21
    go_wp2
    go_ret
    exact ⟨rfl, Below.refl _ _⟩
end Go.Proofs.Ytecphhfdleaklaa
