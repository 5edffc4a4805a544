/- The contract of limbsOf: five limbs of thirty-two bytes. -/
import Derived.Test.YtncplefjokbbjaaImplB
import Derived.Test.YtncplefjokbbjaaFiftyTwo
import Derived.Test.YtncplefjokbbjaaLe
import Derived.Test.YtncplefjokbbjaaRow
namespace Go.Proofs.Ytncplefjokbbjaa
open Go.RowKit
set_option maxHeartbeats 1600000
abbrev Z5 : Obj := .cells #[.int .u64 0, .int .u64 0, .int .u64 0, .int .u64 0, .int .u64 0] 42
theorem start5 (w : World) : ((w.alloc Z5).alloc Z5) = rowL (adds ((w.alloc Z5).alloc Z5) #[] ((w.alloc Z5).alloc Z5).drawn) (w.heap.size + 1) 42 .u64 (List.replicate 5 0) [] := by
  rw [row_same _ _ _ _ _ _ (by rw [adds_none]; exact heap_alloc2_new w Z5 Z5), adds_none]
theorem five_of (n : Nat) : ∃ m0 m1 m2 m3 m4 : Int, digI 51 5 n (32 * 8) = [m0, m1, m2, m3, m4] ∧ In51 m0 m1 m2 m3 m4 ∧ V5 m0 m1 m2 m3 m4 = (n : Int) % 57896044618658097711785492504343953926634992332820282019728792003956564819968 := by
  refine ⟨((n % 2 ^ 256 / 1 % 2 ^ 51 : Nat) : Int), ((n % 2 ^ 256 / 2251799813685248 % 2 ^ 51 : Nat) : Int), ((n % 2 ^ 256 / 5070602400912917605986812821504 % 2 ^ 51 : Nat) : Int), ((n % 2 ^ 256 / 11417981541647679048466287755595961091061972992 % 2 ^ 51 : Nat) : Int), ((n % 2 ^ 256 / 25711008708143844408671393477458601640355247900524685364822016 % 2 ^ 51 : Nat) : Int), rfl, ?_, ?_⟩
  · unfold In51; omega
  · unfold V5; omega
theorem row_lit (w : World) (d : Nat) (m0 m1 m2 m3 m4 : Int) : rowL (adds ((w.alloc Z5).alloc Z5) #[] d) (w.heap.size + 1) 42 .u64 [m0, m1, m2, m3, m4] [] = adds ((w.alloc Z5).alloc (.cells #[.int .u64 m0, .int .u64 m1, .int .u64 m2, .int .u64 m3, .int .u64 m4] 42)) #[] d := by
  unfold rowL adds
  simp only [World.mk.injEq, World.alloc, and_self, and_true, Array.append_empty]
  apply Array.ext_getElem?
  intro k
  have hs : (w.heap.push Z5).size = w.heap.size + 1 := by simp
  rw [Array.getElem?_setIfInBounds, Array.getElem?_push, Array.getElem?_push (xs := w.heap.push Z5), hs]
  by_cases h : w.heap.size + 1 = k
  · subst h; simp [rowObj]
  · rw [if_neg h, if_neg (by omega), if_neg (by omega)]
set_option maxRecDepth 4000 in
theorem limbsOf_any (s : ByteArray) (hs : s.size = 32) (w : World) :
    Calls Try.prog 28 #[.string s] w fun e w' => (∃ m0 m1 m2 m3 m4 : Int, e = .returned (L5 m0 m1 m2 m3 m4) ∧ In51 m0 m1 m2 m3 m4 ∧ V5 m0 m1 m2 m3 m4 = (numN s : Int) % 57896044618658097711785492504343953926634992332820282019728792003956564819968) ∧ Below w.heap.size w w' := by
  go_enter Try.func28, Try.ntmps28
  go_wp2
  rw [start5]
  go_loopw [7] (fun c wr => ∃ k : Nat, k ≤ 32 ∧ c = .int .i64 k ∧ ∃ d, wr = rowL (adds ((w.alloc Z5).alloc Z5) #[] d) (w.heap.size + 1) 42 .u64 (digI 51 5 (numN s) (k * 8)) []) (fun c _ => 32 - (intOf c).toNat)
  case atStart => exact ⟨0, by omega, rfl, _, by rw [Nat.zero_mul, digI_zero]⟩
  case round =>
    obtain ⟨k, hk, rfl, d, rfl⟩ := hrel
    by_cases hlt : k < 32
    · have hq : k * 8 / 51 < 5 := by omega
      have hl := digI_len 51 5 (numN s) (k * 8)
      have hp := pow_bd (k * 8) 51 50 (by omega)
      have hB : ∀ d, w.heap.size + 1 < (adds ((w.alloc Z5).alloc Z5) #[] d).heap.size := fun d => by rw [size_adds]; simp
      have hf1 : ∀ d ys i, (rowL (adds ((w.alloc Z5).alloc Z5) #[] d) (w.heap.size + 1) 42 .u64 ys []).frozen? ⟨w.heap.size + 1, i, none⟩ = false := fun d ys i => frozen_row _ _ _ _ _ _ _ (hB d)
      by_cases hc : 43 < k * 8 % 51 ∧ k * 8 / 51 + 1 < 5
      · obtain ⟨hca, hcb⟩ := hc
        have S := hide (digI_two s k (by omega) hca hcb)
        have e8 : ((k * 8 % 51 : Nat) : Int) = (k : Int) * 8 % 51 := by simp
        have e9 : ((k * 8 / 51 : Nat) : Int) = (k : Int) * 8 / 51 := by simp
        have hcaI : (43 : Int) < (k : Int) * 8 % 51 := by rw [← e8]; omega
        have hcbI : (k : Int) * 8 / 51 + 1 < 5 := by rw [← e9]; omega
        clear e8 e9
        generalize digI 51 5 (numN s) (k * 8) = xs at *
        have hc1 : ∀ d, (rowL (adds ((w.alloc Z5).alloc Z5) #[] d) (w.heap.size + 1) 42 .u64 xs []).cell? ⟨w.heap.size + 1, k * 8 / 51, none⟩ = some (.int .u64 (xs.getD (k * 8 / 51) 0)) := fun d => cell_row _ _ _ _ _ _ _ (by omega) (hB d)
        have hs1 : ∀ d v, (rowL (adds ((w.alloc Z5).alloc Z5) #[] d) (w.heap.size + 1) 42 .u64 xs []).setCell ⟨w.heap.size + 1, k * 8 / 51, none⟩ (.int .u64 v) = rowL (adds ((w.alloc Z5).alloc Z5) #[] d) (w.heap.size + 1) 42 .u64 (xs.set (k * 8 / 51) v) [] := fun d v => set_row _ _ _ _ _ _ _ v (by omega) (hB d)
        have hc2 : ∀ d v, (rowL (adds ((w.alloc Z5).alloc Z5) #[] d) (w.heap.size + 1) 42 .u64 (xs.set (k * 8 / 51) v) []).cell? ⟨w.heap.size + 1, k * 8 / 51 + 1, none⟩ = some (.int .u64 (xs.getD (k * 8 / 51 + 1) 0)) := fun d v => by
          rw [cell_row _ _ _ _ _ _ _ (by rw [List.length_set]; omega) (hB d), List.getD_eq_getElem?_getD, List.getElem?_set_ne (by omega), ← List.getD_eq_getElem?_getD]
        have hs2 : ∀ d v u, (rowL (adds ((w.alloc Z5).alloc Z5) #[] d) (w.heap.size + 1) 42 .u64 (xs.set (k * 8 / 51) u) []).setCell ⟨w.heap.size + 1, k * 8 / 51 + 1, none⟩ (.int .u64 v) = rowL (adds ((w.alloc Z5).alloc Z5) #[] d) (w.heap.size + 1) 42 .u64 ((xs.set (k * 8 / 51) u).set (k * 8 / 51 + 1) v) [] := fun d v u => set_row _ _ _ _ _ _ _ v (by rw [List.length_set]; omega) (hB d)
        clear hB
        generalize xs.getD (k * 8 / 51) 0 = X at *
        generalize xs.getD (k * 8 / 51 + 1) 0 = Y at *
        go_wp2
        go_region
        go_wp2
        go_region
        go_wp2
        all_goals
          go_roundw
          case rel => exact ⟨k + 1, by omega, by go_num, d + 1 + 1, by rw [unhide S]⟩
          case measure => simp [intOf]; omega
      · have S := hide (digI_one s k (by omega) hq hc)
        generalize digI 51 5 (numN s) (k * 8) = xs at *
        have hc1 : ∀ d, (rowL (adds ((w.alloc Z5).alloc Z5) #[] d) (w.heap.size + 1) 42 .u64 xs []).cell? ⟨w.heap.size + 1, k * 8 / 51, none⟩ = some (.int .u64 (xs.getD (k * 8 / 51) 0)) := fun d => cell_row _ _ _ _ _ _ _ (by omega) (hB d)
        have hs1 : ∀ d v, (rowL (adds ((w.alloc Z5).alloc Z5) #[] d) (w.heap.size + 1) 42 .u64 xs []).setCell ⟨w.heap.size + 1, k * 8 / 51, none⟩ (.int .u64 v) = rowL (adds ((w.alloc Z5).alloc Z5) #[] d) (w.heap.size + 1) 42 .u64 (xs.set (k * 8 / 51) v) [] := fun d v => set_row _ _ _ _ _ _ _ v (by omega) (hB d)
        clear hB
        generalize xs.getD (k * 8 / 51) 0 = X at *
        by_cases hca : (43 : Int) < (k : Int) * 8 % 51
        · have e8 : ((k * 8 % 51 : Nat) : Int) = (k : Int) * 8 % 51 := by simp
          have hN : 43 < k * 8 % 51 := by omega
          have h31 : k = 31 := by
            have : ¬ k * 8 / 51 + 1 < 5 := fun h => hc ⟨hN, h⟩
            omega
          have hcb : (5 : Int) ≤ (k : Int) * 8 / 51 + 1 := by rw [h31]; decide
          clear hc e8 hN h31
          go_wp2
          go_region
          go_wp2
          all_goals
            go_roundw
            case rel => exact ⟨k + 1, by omega, by go_num, d + 1, by rw [unhide S]⟩
            case measure => simp [intOf]; omega
        · clear hc
          have hcc : (k : Int) * 8 % 51 ≤ 43 := by omega
          clear hca
          go_wp2
          go_region
          go_wp2
          all_goals
            go_roundw
            case rel => exact ⟨k + 1, by omega, by go_num, d + 1, by rw [unhide S]⟩
            case measure => simp [intOf]; omega
    · obtain rfl : k = 32 := by omega
      obtain ⟨m0, m1, m2, m3, m4, hm, hin, hv⟩ := five_of (numN s)
      have HI := hide hin
      have HV := hide hv
      clear hin hv
      rw [hm, row_lit]
      clear hm
      go_wp2
      refine bodyPost_ret (v := L5 m0 m1 m2 m3 m4) (by simp [results, Try.results28, go_sem]) rfl ⟨⟨_, _, _, _, _, rfl, unhide HI, unhide HV⟩, ?_⟩
      refine below_adds ?_ ?_ _ _ <;> go_grown
end Go.Proofs.Ytncplefjokbbjaa
