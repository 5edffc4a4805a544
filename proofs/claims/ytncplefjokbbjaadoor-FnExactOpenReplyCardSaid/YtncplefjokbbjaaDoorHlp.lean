/- The laws' own helpers over bytes: copies, comparisons, marks. -/
import Derived.Test.YtncplefjokbbjaaDoorXored
namespace Go.Proofs.YtncplefjokbbjaaDoor
open Go.RowKit
set_option maxHeartbeats 4000000
set_option maxRecDepth 20000
theorem copy15 (v : Value) (xs : List Int) (w : World) (hv : bytesV w v xs) (hn : xs.length ≤ 2097152) :
    Calls Tryd.prog 6 #[v] w fun e w' => ∃ r, e = .returned r ∧ ownB w.heap.size w' r xs ∧ Below w.heap.size w w' := by
  obtain ⟨A, cap, rfl, hB, hc⟩ := hv
  have HC := hide hc
  have HB := hide hB
  obtain ⟨n, hnx⟩ : ∃ n, n = xs.length := ⟨_, rfl⟩
  rw [← hnx] at hn HC ⊢
  have HN := hide hnx
  have mk := make_bytes n (by omega)
  clear hc hB hnx
  go_enter Tryd.func6, Tryd.ntmps6
  go_wp2
  clear mk
  go_loopw [4] (fun i wr => ∃ j : Nat, j ≤ n ∧ i = .int .i64 j ∧ wr.heap[w.heap.size]? = some (rowObj 5 .u8 (mixL xs (List.replicate n 0) j) []) ∧ Below w.heap.size w wr) (fun i _ => n - (intOf i).toNat)
  case atStart => exact ⟨0, by omega, rfl, by rw [mixL_zero, heap_at _ _ _ rfl], (Below.refl _ _).alloc (Nat.le_refl _) _⟩
  case round =>
    obtain ⟨j, hj, rfl, ho, hbl⟩ := hrel
    by_cases hlt : j < n
    · obtain ⟨b, off, hA, hbb, hcell⟩ := unhide HC (by omega)
      subst hA
      have q1 : (j : Int) < (n : Int) := by omega
      have q0 : (0 : Int) ≤ (j : Int) := by omega
      have hxl : j < xs.length := by rw [← unhide HN]; exact hlt
      have p0 : wr.cell? ⟨b, off + j, none⟩ = some (.int .u8 (xs.getD j 0)) := (cell_below hbl hbb).trans (hcell j hlt)
      have hl : (mixL xs (List.replicate n 0) j).length = n := by rw [mixL_len _ _ _ (by simp [unhide HN])]; simp
      have hgl : w.heap.size < wr.heap.size := (Array.getElem?_eq_some_iff.1 ho).1
      have hr := row_same wr w.heap.size 5 .u8 _ [] ho
      have p1 := cell_rowObj ho j (by omega)
      have p2 : wr.frozen? ⟨w.heap.size, j, none⟩ = false := by
        have := frozen_row wr w.heap.size 5 .u8 (mixL xs (List.replicate n 0) j) [] j hgl
        rwa [hr] at this
      have p3 : wr.setCell ⟨w.heap.size, j, none⟩ (.int .u8 (xs.getD j 0)) = rowL wr w.heap.size 5 .u8 (mixL xs (List.replicate n 0) (j + 1)) [] := by
        have := set_row wr w.heap.size 5 .u8 (mixL xs (List.replicate n 0) j) [] j (xs.getD j 0) (by omega) hgl
        rwa [hr, mixL_succ _ _ _ (by simp [unhide HN]) (by simpa using hlt)] at this
      have fin : Hid ((rowL wr w.heap.size 5 .u8 (mixL xs (List.replicate n 0) (j + 1)) []).heap[w.heap.size]? = some (rowObj 5 .u8 (mixL xs (List.replicate n 0) (j + 1)) []) ∧ Below w.heap.size w (rowL wr w.heap.size 5 .u8 (mixL xs (List.replicate n 0) (j + 1)) [])) := ⟨get_row _ _ _ _ _ _ hgl, below_row _ _ _ _ _ _ hbl (Nat.le_refl _)⟩
      have HJ := hide hlt
      clear ho hbl hcell hbb hxl hl hgl hr hlt hj
      generalize mixL xs (List.replicate n 0) j = m0 at *
      generalize xs.getD j 0 = xj at *
      go_wp2
      go_roundw
      case rel => exact ⟨j + 1, unhide HJ, by go_num, (unhide fin).1, (unhide fin).2⟩
      case measure => have := unhide HJ; simp [intOf]; omega
    · obtain rfl : j = n := by omega
      have hm := mixL_all xs (List.replicate j 0) (by simp [unhide HN])
      rw [List.length_replicate] at hm
      rw [hm] at ho
      have HO := hide ho
      have hbel := hide hbl
      clear ho hbl hm
      go_wp2
      go_ret
      refine ⟨_, rfl, ⟨unhide HB, .inr ⟨w.heap.size, j, [], ?_, Nat.le_refl _, unhide HO, by rw [← unhide HN]; exact Nat.le_refl _⟩⟩, unhide hbel⟩
      rw [← unhide HN]
      rfl
theorem eq16 (a b : Value) (xs : List Int) (w : World) (ha : bytesV w a xs) (hb : bytesV w b xs) (hn : xs.length ≤ 2097152) :
    Calls Tryd.prog 8 #[a, b] w fun e w' => e = .returned (.bool true) ∧ ∃ k, w' = w.drewN k := by
  obtain ⟨A, ca, rfl, hB, hc⟩ := ha
  obtain ⟨A2, cb, rfl, _, hd⟩ := hb
  have HC := hide hc
  have HD := hide hd
  obtain ⟨n, hnx⟩ : ∃ n, n = xs.length := ⟨_, rfl⟩
  rw [← hnx] at hn HC HD ⊢
  clear hc hd hB hnx
  go_enter Tryd.func8, Tryd.ntmps8
  go_wp2
  go_loopw [5] (fun i wr => ∃ j k : Nat, j ≤ n ∧ i = .int .i64 j ∧ wr = w.drewN k) (fun i _ => n - (intOf i).toNat)
  case atStart => exact ⟨0, 0, by omega, rfl, rfl⟩
  case round =>
    obtain ⟨j, k, hj, rfl, rfl⟩ := hrel
    by_cases hlt : j < n
    · obtain ⟨b1, o1, hA, _, hc1⟩ := unhide HC (by omega)
      obtain ⟨b2, o2, hA2, _, hc2⟩ := unhide HD (by omega)
      subst hA hA2
      have q1 : (j : Int) < (n : Int) := by omega
      have q0 : (0 : Int) ≤ (j : Int) := by omega
      have p1 : ∀ k, (w.drewN k).cell? ⟨b1, o1 + j, none⟩ = some (.int .u8 (xs.getD j 0)) := fun k => hc1 j hlt
      have p2 : ∀ k, (w.drewN k).cell? ⟨b2, o2 + j, none⟩ = some (.int .u8 (xs.getD j 0)) := fun k => hc2 j hlt
      have HJ := hide hlt
      clear hc1 hc2 hlt hj
      generalize xs.getD j 0 = xj at *
      go_wp2
      go_quiet (fail)
      rw [show (w.drewN k).drewN nq = w.drewN (k + nq) by simp [World.drewN, Nat.add_assoc]]
      go_wp2
      go_roundw
      case rel => exact ⟨j + 1, _, unhide HJ, by go_num, rfl⟩
      case measure => have := unhide HJ; simp [intOf]; omega
    · obtain rfl : j = n := by omega
      clear hlt
      go_wp2
      go_ret
      exact ⟨rfl, k, rfl⟩
def marks (n : Nat) : List Int := (List.range n).map fun i : Nat => ((1 : Int) + (i : Int)) % 256
theorem marks_len (n : Nat) : (marks n).length = n := by simp [marks]
theorem marks_at (n i : Nat) (h : i < n) : (marks n).getD i 0 = ((1 : Int) + (i : Int)) % 256 := by
  rw [List.getD_eq_getElem?_getD, marks, List.getElem?_map, List.getElem?_range h]; rfl
theorem marks_isB (n : Nat) : isB (marks n) := by
  intro x hx
  obtain ⟨i, _, rfl⟩ := List.mem_map.1 hx
  omega
/-- nothing but v's own block has turned -/
structure Touch (v : Value) (w w' : World) : Prop where
  os : w'.os = w.os
  tape : w'.tape = w.tape
  output : w'.output = w.output
  size : w'.heap.size = w.heap.size
  block : ∀ k, v.ownBlock ≠ some k → w'.heap[k]? = w.heap[k]?
theorem mark17 (base : Nat) (v : Value) (xs : List Int) (w : World) (hv : ownB base w v xs) (hn : xs.length ≤ 2097152) :
    Calls Tryd.prog 9 #[v, .int .i64 1] w fun e w' => e = .returned (.int .i64 (1 + (xs.length : Int))) ∧ ownB base w' v (marks xs.length) ∧ Touch v w w' := by
  obtain ⟨hB, ⟨rfl, rfl⟩ | ⟨g, cap, rest, rfl, hg, hc, hcp⟩⟩ := hv
  · go_enter Tryd.func9, Tryd.ntmps9
    go_wp2
    refine wp_loop_rounds 1 ?_
    rw [rounds_succ]; go_wp2
    go_ret
    exact ⟨rfl, ⟨marks_isB _, .inl ⟨rfl, rfl⟩⟩, ⟨rfl, rfl, rfl, rfl, fun _ _ => rfl⟩⟩
  · obtain ⟨n, hnx⟩ : ∃ n, n = xs.length := ⟨_, rfl⟩
    rw [← hnx] at hn hcp ⊢
    have HCP := hide hcp
    have HN := hide hnx
    have ho : Hid (w.heap[g]? = some (rowObj 5 .u8 (mixL (marks n) xs 0) rest)) := hide (by rw [mixL_zero]; exact hc)
    have hlt0 := hide (Array.getElem?_eq_some_iff.1 hc).1
    have HG := hide hg
    have hrr : Hid (w = rowL w g 5 .u8 (mixL (marks n) xs 0) rest) := hide (row_same w g 5 .u8 _ rest (unhide ho)).symm
    clear hc hB hnx hg hcp
    go_enter Tryd.func9, Tryd.ntmps9
    go_wp2
    go_loopw [1, 5] (fun k i wr => ∃ j : Nat, j ≤ n ∧ i = .int .i64 j ∧ k = .int .i64 (1 + (j : Int)) ∧ wr = rowL w g 5 .u8 (mixL (marks n) xs j) rest) (fun _ i _ => n - (intOf i).toNat)
    case atStart => exact ⟨0, by omega, rfl, rfl, unhide hrr⟩
    case round =>
      clear hrr ho
      obtain ⟨j, hj, rfl, rfl, rfl⟩ := hrel
      by_cases hlt : j < n
      · have q1 : (j : Int) < (n : Int) := by omega
        have q0 : (0 : Int) ≤ (j : Int) := by omega
        have hl : (mixL (marks n) xs j).length = n := by rw [mixL_len _ _ _ (by rw [marks_len]; exact unhide HN)]; exact (unhide HN).symm
        have p1 := cell_row w g 5 .u8 (mixL (marks n) xs j) rest j (by omega) (unhide hlt0)
        have p2 := frozen_row w g 5 .u8 (mixL (marks n) xs j) rest j (unhide hlt0)
        have p3 := set_row w g 5 .u8 (mixL (marks n) xs j) rest j ((1 + (j : Int)) % 256) (by omega) (unhide hlt0)
        rw [← marks_at n j hlt, mixL_succ _ _ _ (by rw [marks_len]; exact unhide HN) (by rw [← unhide HN]; exact hlt), marks_at n j hlt] at p3
        have HJ := hide hlt
        clear hl hlt hj
        generalize mixL (marks n) xs j = m0 at *
        go_wp2
        go_roundw
        case rel => exact ⟨j + 1, unhide HJ, by go_num, by go_num, rfl⟩
        case measure => have := unhide HJ; simp [intOf]; omega
      · obtain rfl : j = n := by omega
        have hm := mixL_all (marks j) xs (by rw [marks_len]; exact unhide HN)
        rw [← unhide HN] at hm
        rw [hm]
        clear hm
        go_wp2
        go_ret
        refine ⟨rfl, ⟨marks_isB _, .inr ⟨g, cap, rest, by rw [marks_len], unhide HG, get_row _ _ _ _ _ _ (unhide hlt0), by rw [marks_len]; exact unhide HCP⟩⟩, ⟨rfl, rfl, rfl, size_row _ _ _ _ _ _, fun k hk => get_row_other _ _ _ _ _ _ _ (fun e => hk (by rw [e]; rfl))⟩⟩
theorem held18 (v : Value) (n : Nat) (w : World) (hv : bytesV w v (marks n)) (hn : n ≤ 2097152) :
    Calls Tryd.prog 10 #[v, .int .i64 1] w fun e w' => e = .returned (.int .i64 (1 + (n : Int))) ∧ w' = w := by
  obtain ⟨A, cap, rfl, hB, hc⟩ := hv
  rw [marks_len] at hc ⊢
  have HC := hide hc
  clear hc hB
  go_enter Tryd.func10, Tryd.ntmps10
  go_wp2
  go_loopw [1, 5] (fun k i wr => ∃ j : Nat, j ≤ n ∧ i = .int .i64 j ∧ k = .int .i64 (1 + (j : Int)) ∧ wr = w) (fun _ i _ => n - (intOf i).toNat)
  case atStart => exact ⟨0, by omega, rfl, rfl, rfl⟩
  case round =>
    obtain ⟨j, hj, rfl, rfl, rfl⟩ := hrel
    by_cases hlt : j < n
    · obtain ⟨b, off, hA, _, hcell⟩ := unhide HC (by omega)
      subst hA
      have q1 : (j : Int) < (n : Int) := by omega
      have q0 : (0 : Int) ≤ (j : Int) := by omega
      have p0 := hcell j hlt
      rw [marks_at n j hlt] at p0
      have HJ := hide hlt
      clear hcell hlt hj
      go_wp2
      go_roundw
      case rel => exact ⟨j + 1, unhide HJ, by go_num, by go_num, by first | rfl | trivial⟩
      case measure => have := unhide HJ; simp [intOf]; omega
    · obtain rfl : j = n := by omega
      clear hlt
      go_wp2
      go_ret
      exact ⟨rfl, rfl⟩
end Go.Proofs.YtncplefjokbbjaaDoor
