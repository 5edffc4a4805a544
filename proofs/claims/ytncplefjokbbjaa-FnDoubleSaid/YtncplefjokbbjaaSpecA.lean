/- The contract of l01Load: ten limbs of thirty-two bytes. -/
import Derived.Test.YtncplefjokbbjaaRows
import Derived.Test.YtncplefjokbbjaaRow
import Derived.Test.YtncplefjokbbjaaDig
import Derived.Test.YtncplefjokbbjaaLe
import Derived.WalkKit
import Derived.WalkSpells
import Derived.WalkLawsBesides
import Derived.Handy
import Derived.Outline
namespace Go.Proofs.Ytncplefjokbbjaa
open Go.RowKit
set_option maxHeartbeats 800000
theorem make10 (w : World) : (Instr.makeSlice 51 (.int .i64 10) (.int .i64 10)).run Try.prog w = .ok (.slice (some ⟨w.heap.size, 0, none⟩) 10 10) (w.alloc (.cells #[.int .i64 0, .int .i64 0, .int .i64 0, .int .i64 0, .int .i64 0, .int .i64 0, .int .i64 0, .int .i64 0, .int .i64 0, .int .i64 0] 3)) := by kernel_rfl
theorem zero10 (w : World) : w.alloc (.cells #[.int .i64 0, .int .i64 0, .int .i64 0, .int .i64 0, .int .i64 0, .int .i64 0, .int .i64 0, .int .i64 0, .int .i64 0, .int .i64 0] 3) = rowL (w.alloc (.cells #[.int .i64 0, .int .i64 0, .int .i64 0, .int .i64 0, .int .i64 0, .int .i64 0, .int .i64 0, .int .i64 0, .int .i64 0, .int .i64 0] 3)) w.heap.size 3 .i64 (List.replicate 10 0) [] :=
  (row_same _ _ _ _ _ _ (by rw [heap_alloc_new]; rfl)).symm
theorem row_alloc (w : World) (o : Obj) (e : TypeId) (kd : IntKind) (xs : List Int) (rest : List Value) : rowL (w.alloc o) w.heap.size e kd xs rest = w.alloc (rowObj e kd xs rest) := by
  unfold rowL World.alloc
  simp only [World.mk.injEq, and_self, and_true]
  apply Array.ext_getElem?
  intro k
  rw [Array.getElem?_setIfInBounds, Array.getElem?_push, Array.getElem?_push]
  by_cases h : w.heap.size = k
  · subst h; simp
  · rw [if_neg h, if_neg (by omega), if_neg (by omega)]
set_option maxRecDepth 4000 in
theorem load_any (s : ByteArray) (hs : s.size = 32) (w : World) :
    Calls Try.prog 39 #[.string s] w fun e w' => e = .returned (.slice (some ⟨w.heap.size, 0, none⟩) 10 10) ∧ w' = w.alloc (rowObj 3 .i64 (digI 26 10 (numN s) 255) []) := by
  have hm := make10
  go_enter Try.func39, Try.ntmps39
  go_wp2
  clear hm
  rw [zero10]
  go_loopw [4] (fun c wr => ∃ k : Nat, k ≤ 255 ∧ c = .int .i64 k ∧ wr = rowL (w.alloc (.cells #[.int .i64 0, .int .i64 0, .int .i64 0, .int .i64 0, .int .i64 0, .int .i64 0, .int .i64 0, .int .i64 0, .int .i64 0, .int .i64 0] 3)) w.heap.size 3 .i64 (digI 26 10 (numN s) k) []) (fun c _ => 255 - (intOf c).toNat)
  case atStart => exact ⟨0, by omega, rfl, by rw [digI_zero]⟩
  case round =>
    obtain ⟨k, hk, rfl, rfl⟩ := hrel
    by_cases hlt : k < 255
    · have hq : k / 26 < 10 := by omega
      have hl := digI_len 26 10 (numN s) k
      have hb := bit_byte (s[k / 8]'(by omega)) (k % 8)
      rw [← numN_bit s k (by omega)] at hb
      have hd := digI_bd 26 10 (numN s) k hq
      have hp := pow_bd k 26 25 (by omega)
      cases ht : (numN s).testBit k with
      | true =>
        have S := hide (digI_step 26 10 (numN s) k (by omega) hq ht)
        rw [ht] at hb
        clear ht
        generalize digI 26 10 (numN s) k = xs at *
        have E : ∀ h : k / 26 < xs.length, wrap64 (xs[k / 26]'h + 2 ^ (k % 26)) = xs[k / 26]?.getD 0 + 2 ^ (k % 26) := by
          intro h
          rw [List.getElem?_eq_getElem h] at hd ⊢
          simp only [Option.getD_some] at hd ⊢
          have h25 : (2 : Int) ^ 25 = 33554432 := by decide
          rw [h25] at hp
          generalize (2 : Int) ^ (k % 26) = q at *
          exact IntWalk.wrap64_in _ (by omega)
        have EH := hide E
        clear E
        go_wp2_with fail
        go_roundw
        case rel => exact ⟨k + 1, by omega, by go_num, by rw [unhide S, unhide EH]⟩
        case measure => simp [intOf]; omega
      | false =>
        have S := hide (digI_stay 26 10 (numN s) k ht)
        rw [ht] at hb
        clear ht
        generalize digI 26 10 (numN s) k = xs at *
        go_wp2_with fail
        go_roundw
        case rel => exact ⟨k + 1, by omega, by go_num, by rw [unhide S]⟩
        case measure => simp [intOf]; omega
    · obtain rfl : k = 255 := by omega
      go_wp2
      go_ret
      exact ⟨rfl, row_alloc _ _ _ _ _ _⟩
end Go.Proofs.Ytncplefjokbbjaa
