/- Marks in lists of ints; lists that are the same. -/
import Derived.Test.YtfodcnnaeakhfaaClo
namespace Go.Proofs.Ytfodcnnaeakhfaa
open Go.RowKit
set_option maxHeartbeats 4000000
set_option maxRecDepth 20000
def marksI (k n : Nat) : List Int := (List.range n).map fun i : Nat => (k : Int) + (i : Int)
theorem marksI_len (k n : Nat) : (marksI k n).length = n := by simp [marksI]
theorem marksI_at (k n i : Nat) (h : i < n) : (marksI k n).getD i 0 = (k : Int) + (i : Int) := by
  rw [List.getD_eq_getElem?_getD, marksI, List.getElem?_map, List.getElem?_range h]; rfl
theorem ownI.touchS {lo hi : Nat} {w w' : World} {u v : Value} {xs : List Int} (h : ownI lo hi w u xs) (ht : TouchS v w w') (hd : ∀ g, u.ownBlock = some g → v.ownBlock ≠ some g) : ownI lo hi w' u xs := by
  obtain h | ⟨g, cap, rest, rfl, hg, hh, hc, hcp⟩ := h
  · exact .inl h
  · exact .inr ⟨g, cap, rest, rfl, hg, hh, (ht.block g (Array.getElem?_eq_some_iff.1 hc).1 (hd g rfl)).trans hc, hcp⟩
theorem mark21 (lo hi : Nat) (v : Value) (xs : List Int) (k : Nat) (w : World) (hv : ownI lo hi w v xs) (hn : xs.length ≤ 1048577) (hk : k ≤ 16777216) :
    Calls Try.prog 21 #[v, .int .i64 (k : Int)] w fun e w' => e = .returned (.int .i64 ((k : Int) + (xs.length : Int))) ∧ ownI lo hi w' v (marksI k xs.length) ∧ TouchS v w w' := by
  obtain ⟨rfl, rfl⟩ | ⟨g, cap, rest, rfl, hg, hh, hc, hcp⟩ := hv
  · go_enter Try.func21, Try.ntmps21
    go_wp2
    refine wp_loop_rounds 1 ?_
    rw [rounds_succ]; go_wp2
    go_ret
    exact ⟨by simp, .inl ⟨rfl, rfl⟩, ⟨rfl, rfl, rfl, Nat.le_refl _, fun _ _ _ => rfl⟩⟩
  · obtain ⟨n, hnx⟩ : ∃ n, n = xs.length := ⟨_, rfl⟩
    rw [← hnx] at hn hcp ⊢
    have HCP := hide hcp
    have HN := hide hnx
    have HG := hide hg
    have HH := hide hh
    have HC : Hid (w.heap[g]? = some (rowObj 3 .i64 (mixL (marksI k n) xs 0) rest)) := hide (by rw [mixL_zero]; exact hc)
    have k0 : (0 : Int) ≤ (k : Int) := by omega
    have k1 : (k : Int) ≤ 16777216 := by omega
    clear hc hnx hg hcp hh hk
    go_enter Try.func21, Try.ntmps21
    go_wp2
    go_loopw [1, 5] (fun m i wr => ∃ j : Nat, j ≤ n ∧ i = .int .i64 j ∧ m = .int .i64 ((k : Int) + (j : Int)) ∧ wr.heap[g]? = some (rowObj 3 .i64 (mixL (marksI k n) xs j) rest) ∧ Lone g w wr) (fun _ i _ => n - (intOf i).toNat)
    case atStart => exact ⟨0, by omega, rfl, by simp, unhide HC, Lone.refl _ _⟩
    case round =>
      obtain ⟨j, hj, rfl, rfl, ho, hlo⟩ := hrel
      by_cases hlt : j < n
      · have q1 : (j : Int) < (n : Int) := by omega
        have q0 : (0 : Int) ≤ (j : Int) := by omega
        have q2 : (n : Int) ≤ 1048577 := by omega
        have hl : (mixL (marksI k n) xs j).length = n := by rw [mixL_len _ _ _ (by rw [marksI_len]; exact unhide HN)]; exact (unhide HN).symm
        have HMS := hide (mixL_succ (marksI k n) xs j (by rw [marksI_len]; exact unhide HN) (by rw [← unhide HN]; exact hlt))
        rw [marksI_at k n j hlt] at HMS
        obtain ⟨z, hz⟩ : ∃ z : Int, (k : Int) + (j : Int) = z := ⟨_, rfl⟩
        rw [hz] at HMS ⊢
        have z0 : 0 ≤ z := by omega
        have z1 : z ≤ 17825793 := by omega
        have HZ := hide hz
        have p1 := cell_rowO ho j (by omega)
        have p2 := free_rowO ho j
        have p3 := set_rowO ho j z (by omega)
        have l1 := hlo.trans (lone_setCell g j wr (.int .i64 z))
        rw [unhide HMS] at p3
        have HJ := hide hlt
        have HO := hide p3
        have HL := hide l1
        clear hlt hj ho hlo HC p3 l1 hl HMS hz
        generalize (mixL (marksI k n) xs j).getD j 0 = m at *
        go_wp2
        go_roundw
        case rel => exact ⟨j + 1, unhide HJ, by go_num, by rw [← unhide HZ]; go_num, unhide HO, unhide HL⟩
        case measure => have := unhide HJ; simp [intOf]; omega
      · obtain rfl : j = n := by omega
        have hm := mixL_all (marksI k j) xs (by rw [marksI_len]; exact unhide HN)
        rw [← unhide HN] at hm
        rw [hm] at ho
        have HO := hide ho
        have HL := hide hlo
        clear hm ho hlo hlt
        go_wp2
        go_ret
        refine ⟨rfl, .inr ⟨g, cap, rest, by rw [marksI_len], unhide HG, unhide HH, unhide HO, by rw [marksI_len]; exact unhide HCP⟩, ⟨(unhide HL).os, (unhide HL).tape, (unhide HL).output, (unhide HL).size, fun k hk hne => (unhide HL).block k hk (fun e => hne (by rw [e]; rfl))⟩⟩
theorem held22 (v : Value) (k n : Nat) (w : World) (hv : intsV w v (marksI k n)) (hn : n ≤ 1048577) (hk : k ≤ 16777216) :
    Calls Try.prog 22 #[v, .int .i64 (k : Int)] w fun e w' => e = .returned (.int .i64 ((k : Int) + (n : Int))) ∧ w' = w := by
  obtain ⟨A, cap, rfl, hc⟩ := hv
  rw [marksI_len] at hc ⊢
  have HC := hide hc
  have k0 : (0 : Int) ≤ (k : Int) := by omega
  have k1 : (k : Int) ≤ 16777216 := by omega
  clear hc hk
  go_enter Try.func22, Try.ntmps22
  go_wp2
  go_loopw [1, 5] (fun m i wr => ∃ j : Nat, j ≤ n ∧ i = .int .i64 j ∧ m = .int .i64 ((k : Int) + (j : Int)) ∧ wr = w) (fun _ i _ => n - (intOf i).toNat)
  case atStart => exact ⟨0, by omega, rfl, by simp, rfl⟩
  case round =>
    obtain ⟨j, hj, rfl, rfl, rfl⟩ := hrel
    by_cases hlt : j < n
    · obtain ⟨b, off, hA, hlb, hcell⟩ := unhide HC (by omega)
      subst hA
      have q1 : (j : Int) < (n : Int) := by omega
      have q0 : (0 : Int) ≤ (j : Int) := by omega
      have q2 : (n : Int) ≤ 1048577 := by omega
      have pc := hcell j hlt
      rw [marksI_at k n j hlt] at pc
      obtain ⟨z, hz⟩ : ∃ z : Int, (k : Int) + (j : Int) = z := ⟨_, rfl⟩
      rw [hz] at pc ⊢
      have z0 : 0 ≤ z := by omega
      have z1 : z ≤ 17825793 := by omega
      have HZ := hide hz
      have HJ := hide hlt
      clear hcell hlt hj hlb hz
      go_wp2
      go_roundw
      case rel => exact ⟨j + 1, unhide HJ, by go_num, by rw [← unhide HZ]; go_num, by first | rfl | trivial⟩
      case measure => have := unhide HJ; simp [intOf]; omega
    · obtain rfl : j = n := by omega
      clear hlt
      go_wp2
      go_ret
      exact ⟨rfl, rfl⟩
theorem same14 (a b : Value) (xs : List Int) (w : World) (ha : intsV w a xs) (hb : intsV w b xs) (hn : xs.length ≤ 2097152) :
    Calls Try.prog 14 #[a, b] w fun e w' => e = .returned (.bool true) ∧ ∃ k, w' = w.drewN k := by
  obtain ⟨A, ca, rfl, hc⟩ := ha
  obtain ⟨A2, cb, rfl, hd⟩ := hb
  have HC := hide hc
  have HD := hide hd
  obtain ⟨n, hnx⟩ : ∃ n, n = xs.length := ⟨_, rfl⟩
  rw [← hnx] at hn HC HD ⊢
  clear hc hd hnx
  go_enter Try.func14, Try.ntmps14
  go_wp2
  go_loopw [5] (fun i wr => ∃ j k : Nat, j ≤ n ∧ i = .int .i64 j ∧ wr = w.drewN k) (fun i _ => n - (intOf i).toNat)
  case atStart => exact ⟨0, 0, by omega, rfl, rfl⟩
  case round =>
    obtain ⟨j, k, hj, rfl, rfl⟩ := hrel
    by_cases hlt : j < n
    · obtain ⟨b1, o1, hA, _, hc1⟩ := unhide HC (by omega)
      obtain ⟨b2, o2, hA2, _, hc2⟩ := unhide HD (by omega)
      subst hA hA2
      have q1 : (j : Int) < (n : Int) := by omega
      have q0 : (0 : Int) ≤ (j : Int) := by omega
      have p1 : ∀ k, (w.drewN k).cell? ⟨b1, o1 + j, none⟩ = some (.int .i64 (xs.getD j 0)) := fun k => hc1 j hlt
      have p2 : ∀ k, (w.drewN k).cell? ⟨b2, o2 + j, none⟩ = some (.int .i64 (xs.getD j 0)) := fun k => hc2 j hlt
      have HJ := hide hlt
      clear hc1 hc2 hlt hj
      generalize xs.getD j 0 = xj at *
      go_wp2
      go_quiet (fail)
      rw [show (w.drewN k).drewN nq = w.drewN (k + nq) by simp [World.drewN, Nat.add_assoc]]
      go_wp2
      go_roundw
      case rel => exact ⟨j + 1, _, unhide HJ, by go_num, rfl⟩
      case measure => have := unhide HJ; simp [intOf]; omega
    · obtain rfl : j = n := by omega
      clear hlt
      go_wp2
      go_ret
      exact ⟨rfl, k, rfl⟩
end Go.Proofs.Ytfodcnnaeakhfaa
