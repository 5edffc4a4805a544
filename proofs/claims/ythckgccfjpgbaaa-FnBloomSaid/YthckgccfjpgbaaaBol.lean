/- Lists of bools: what they read as, which of them a call made; the laws' helpers over them. -/
import Derived.Test.YthckgccfjpgbaaaSal
namespace Go.Proofs.Ythckgccfjpgbaaa
open Go.RowKit
set_option maxHeartbeats 4000000
set_option maxRecDepth 20000
/-- a slice that reads as these bools -/
def boolsV (w : World) (v : Value) (xs : List Bool) : Prop :=
  ∃ A cap, v = .slice A xs.length cap ∧ (0 < xs.length → ∃ b off, A = some ⟨b, off, none⟩ ∧ b < w.heap.size ∧ ∀ i, i < xs.length → w.cell? ⟨b, off + i, none⟩ = some (.bool (xs.getD i false)))
def bolO (xs : List Bool) (rest : List Value) : Obj := .cells (xs.map Value.bool ++ rest).toArray 4 (0, 0)
/-- bools in a block of their own, between lo and hi -/
def ownB (lo hi : Nat) (w : World) (v : Value) (xs : List Bool) : Prop :=
  (v = .slice none 0 0 ∧ xs = []) ∨ ∃ g cap rest, v = .slice (some ⟨g, 0, none⟩) xs.length cap ∧ lo ≤ g ∧ g < hi ∧ w.heap[g]? = some (bolO xs rest) ∧ xs.length ≤ cap
theorem cell_bolO {w : World} {g : Nat} {xs : List Bool} {rest : List Value} (h : w.heap[g]? = some (bolO xs rest)) (i : Nat) (hi : i < xs.length) : w.cell? ⟨g, i, none⟩ = some (.bool (xs.getD i false)) := by
  unfold World.cell?
  rw [show (⟨g, i, none⟩ : Addr).block = g from rfl, h]
  simp only [bolO]
  rw [List.getD_eq_getElem?_getD, List.getElem?_eq_getElem hi]
  simp [List.getElem?_append_left, hi]
theorem free_bolO {w : World} {g : Nat} {xs : List Bool} {rest : List Value} (h : w.heap[g]? = some (bolO xs rest)) (i : Nat) : w.frozen? ⟨g, i, none⟩ = false := by
  unfold World.frozen?
  rw [show (⟨g, i, none⟩ : Addr).block = g from rfl, h]
  simp [bolO]
theorem set_bolO {w : World} {g : Nat} {xs : List Bool} {rest : List Value} (h : w.heap[g]? = some (bolO xs rest)) (i : Nat) (x : Bool) (hi : i < xs.length) : (w.setCell ⟨g, i, none⟩ (.bool x)).heap[g]? = some (bolO (xs.set i x) rest) := by
  simp only [World.setCell, Array.getElem?_modify, if_true, h, Option.map_some, bolO]
  have e : (xs.map Value.bool ++ rest).set i (.bool x) = (xs.set i x).map Value.bool ++ rest := by
    rw [List.set_append_left _ _ (by simpa using hi), List.map_set]
  simp [e]
theorem ownB.bools {lo hi : Nat} {w : World} {v : Value} {xs : List Bool} (h : ownB lo hi w v xs) : boolsV w v xs := by
  obtain ⟨rfl, rfl⟩ | ⟨g, cap, rest, rfl, hg, hh, hc, hcp⟩ := h
  · exact ⟨none, 0, rfl, fun h => by simp at h⟩
  · exact ⟨_, _, rfl, fun _ => ⟨g, 0, rfl, (Array.getElem?_eq_some_iff.1 hc).1, fun i hi => by rw [Nat.zero_add]; exact cell_bolO hc i hi⟩⟩
theorem boolsV.below {w w' : World} {v : Value} {xs : List Bool} (h : boolsV w v xs) (hb : Below w.heap.size w w') : boolsV w' v xs := by
  obtain ⟨A, cap, rfl, hc⟩ := h
  refine ⟨A, cap, rfl, fun hn => ?_⟩
  obtain ⟨b, off, rfl, hl, hc⟩ := hc hn
  exact ⟨b, off, rfl, Nat.lt_of_lt_of_le hl hb.size, fun i hi => (cell_below hb hl).trans (hc i hi)⟩
theorem ownB.below {lo hi : Nat} {w w' : World} {v : Value} {xs : List Bool} (h : ownB lo hi w v xs) (hb : Below w.heap.size w w') : ownB lo hi w' v xs := by
  obtain h | ⟨g, cap, rest, rfl, hg, hh, hc, hcp⟩ := h
  · exact .inl h
  · exact .inr ⟨g, cap, rest, rfl, hg, hh, (hb.block g (Array.getElem?_eq_some_iff.1 hc).1).trans hc, hcp⟩
theorem ownB.wide {lo hi lo' hi' : Nat} {w : World} {v : Value} {xs : List Bool} (h : ownB lo hi w v xs) (h1 : lo' ≤ lo) (h2 : hi ≤ hi') : ownB lo' hi' w v xs := by
  obtain h | ⟨g, cap, rest, rfl, hg, hh, hc, hcp⟩ := h
  · exact .inl h
  · exact .inr ⟨g, cap, rest, rfl, by omega, by omega, hc, hcp⟩
theorem ownB.lies {lo hi : Nat} {w : World} {v : Value} {xs : List Bool} (h : ownB lo hi w v xs) : liesIn lo hi v := by
  intro g hg
  obtain ⟨rfl, _⟩ | ⟨g', cap, rest, rfl, h1, h2, _⟩ := h
  · cases hg
  · cases hg; exact ⟨h1, h2⟩
/-- a slice of bools stays what it is where the block that turned is another one -/
theorem ownB.touchS {lo hi : Nat} {w w' : World} {u v : Value} {xs : List Bool} (h : ownB lo hi w u xs) (ht : TouchS v w w') (hd : ∀ g, u.ownBlock = some g → v.ownBlock ≠ some g) : ownB lo hi w' u xs := by
  obtain h | ⟨g, cap, rest, rfl, hg, hh, hc, hcp⟩ := h
  · exact .inl h
  · exact .inr ⟨g, cap, rest, rfl, hg, hh, (ht.block g (Array.getElem?_eq_some_iff.1 hc).1 (hd g rfl)).trans hc, hcp⟩
theorem ownA.touchN {lo hi : Nat} {w w' : World} {u v : Value} {xs : List Slt} (h : ownA lo hi w u xs) (ht : TouchS v w w') (hd : ∀ g, u.ownBlock = some g → v.ownBlock ≠ some g) : ownA lo hi w' u xs := by
  obtain h | ⟨g, cap, rest, rfl, hg, hh, hc, hcp⟩ := h
  · exact .inl h
  · exact .inr ⟨g, cap, rest, rfl, hg, hh, (ht.block g (Array.getElem?_eq_some_iff.1 hc).1 (hd g rfl)).trans hc, hcp⟩
theorem sz73 (v : Value) (xs : List Bool) (L : Int) (w : World) (hv : boolsV w v xs) (hl : xs.length ≤ maxLen) (hL : 0 ≤ L) (hL' : L ≤ 1048576) :
    Calls Try.prog 73 #[v, .int .i64 L] w fun e w' => e = .returned (.int .i64 (if (xs.length : Int) ≤ L then L - xs.length else -1)) ∧ w' = w := by
  obtain ⟨A, cap, rfl, hc⟩ := hv
  clear hc
  unfold maxLen at hl
  have n0 : (0 : Int) ≤ (xs.length : Int) := by omega
  have n1 : (xs.length : Int) ≤ 9223372036854775807 := by omega
  by_cases h : (xs.length : Int) ≤ L
  · rw [if_pos h]
    go_enter Try.func73, Try.ntmps73
    go_wp2
    go_ret
    exact ⟨rfl, rfl⟩
  · rw [if_neg h]
    have h' : L < (xs.length : Int) := by omega
    clear h
    go_enter Try.func73, Try.ntmps73
    go_wp2
    go_ret
    exact ⟨rfl, rfl⟩
theorem info4 : (Try.prog.info? 4).map (fun i => (i.zero, i.size, i.bytes)) = some (some (.bool false), 1, 1) := by kernel_rfl
theorem make_bools (n : Nat) (hn : n ≤ 2097152) (w : World) : (Instr.makeSlice 24 (.int .i64 (n : Int)) (.int .i64 (n : Int))).run Try.prog w = .ok (.slice (some ⟨w.heap.size, 0, none⟩) n n) (w.alloc (bolO (List.replicate n false) [])) := by
  obtain ⟨k0, hk0, kz0, kz1, kz2⟩ := info_parts info4
  have h := run_makeSlice w (P := Try.prog) 24 4 k0 (.bool false) Try.underlying24 hk0 kz0 .i64 .i64 (n : Int) (n : Int) (by omega) (Int.le_refl _) (by rw [kz1]; omega) (by rw [kz2]; omega) (by omega)
  rw [kz1, Int.toNat_natCast, Nat.mul_one] at h
  rw [h, bolO]
  congr 3
  apply Array.ext_getElem?
  intro i
  by_cases hi : i < n
  · simp [madeCells, Value.cells, hi, Nat.mod_one]
  · simp [madeCells, Value.cells, hi]
theorem to74 (v : Value) (xs : List Bool) (w : World) (hv : boolsV w v xs) (hn : xs.length ≤ 2097152) :
    Calls Try.prog 74 #[v] w fun e w' => ∃ r, e = .returned r ∧ ownB w.heap.size w'.heap.size w' r xs ∧ Below w.heap.size w w' := by
  obtain ⟨A, cap, rfl, hc⟩ := hv
  have HC := hide hc
  obtain ⟨n, hnx⟩ : ∃ n, n = xs.length := ⟨_, rfl⟩
  rw [← hnx] at hn HC ⊢
  have HN := hide hnx
  have mk := make_bools n (by omega)
  clear hc hnx
  go_enter Try.func74, Try.ntmps74
  go_wp2
  clear mk
  go_loopw [4] (fun i wr => ∃ j : Nat, j ≤ n ∧ i = .int .i64 j ∧ wr.heap[w.heap.size]? = some (bolO (mixG xs (List.replicate n false) j) []) ∧ Below w.heap.size w wr) (fun i _ => n - (intOf i).toNat)
  case atStart => exact ⟨0, by omega, rfl, by rw [mixG_zero, heap_at _ _ _ rfl], (Below.refl _ _).alloc (Nat.le_refl _) _⟩
  case round =>
    obtain ⟨j, hj, rfl, ho, hbl⟩ := hrel
    by_cases hlt : j < n
    · obtain ⟨b, off, hA, hbb, hcell⟩ := unhide HC (by omega)
      subst hA
      have q1 : (j : Int) < (n : Int) := by omega
      have q0 : (0 : Int) ≤ (j : Int) := by omega
      have hl : (mixG xs (List.replicate n false) j).length = n := by rw [mixG_len _ _ _ (by simp [unhide HN])]; simp
      have p0 : wr.cell? ⟨b, off + j, none⟩ = some (.bool (xs.getD j false)) := (cell_below hbl hbb).trans (hcell j hlt)
      have p1 := cell_bolO ho j (by omega)
      have p2 := free_bolO ho j
      have p3 := set_bolO ho j (xs.getD j false) (by omega)
      rw [mixG_succ false _ _ _ (by simp [unhide HN]) (by simpa using hlt)] at p3
      have fin : Hid ((wr.setCell ⟨w.heap.size, j, none⟩ (.bool (xs.getD j false))).heap[w.heap.size]? = some (bolO (mixG xs (List.replicate n false) (j + 1)) []) ∧ Below w.heap.size w (wr.setCell ⟨w.heap.size, j, none⟩ (.bool (xs.getD j false)))) := ⟨p3, bl_set hbl (Nat.le_refl _)⟩
      have HJ := hide hlt
      clear ho hbl hcell hbb hl hlt hj p3
      generalize (mixG xs (List.replicate n false) j).getD j false = m0 at *
      generalize xs.getD j false = xj at *
      go_wp2
      go_roundw
      case rel => exact ⟨j + 1, unhide HJ, by go_num, (unhide fin).1, (unhide fin).2⟩
      case measure => have := unhide HJ; simp [intOf]; omega
    · obtain rfl : j = n := by omega
      have hm := mixG_all xs (List.replicate j false) (by simp [unhide HN])
      rw [List.length_replicate] at hm
      rw [hm] at ho
      have HO := hide ho
      have hbel := hide hbl
      clear ho hbl hm
      go_wp2
      go_ret
      refine ⟨_, rfl, .inr ⟨w.heap.size, j, [], ?_, Nat.le_refl _, (Array.getElem?_eq_some_iff.1 (unhide HO)).1, unhide HO, by rw [← unhide HN]; exact Nat.le_refl _⟩, unhide hbel⟩
      rw [← unhide HN]
      rfl
theorem eq68 (a b : Value) (xs : List Bool) (w : World) (ha : boolsV w a xs) (hb : boolsV w b xs) (hn : xs.length ≤ 2097152) :
    Calls Try.prog 68 #[a, b] w fun e w' => e = .returned (.bool true) ∧ ∃ k, w' = w.drewN k := by
  obtain ⟨A, ca, rfl, hc⟩ := ha
  obtain ⟨A2, cb, rfl, hd⟩ := hb
  have HC := hide hc
  have HD := hide hd
  obtain ⟨n, hnx⟩ : ∃ n, n = xs.length := ⟨_, rfl⟩
  rw [← hnx] at hn HC HD ⊢
  clear hc hd hnx
  go_enter Try.func68, Try.ntmps68
  go_wp2
  go_loopw [5] (fun i wr => ∃ j k : Nat, j ≤ n ∧ i = .int .i64 j ∧ wr = w.drewN k) (fun i _ => n - (intOf i).toNat)
  case atStart => exact ⟨0, 0, by omega, rfl, rfl⟩
  case round =>
    obtain ⟨j, k, hj, rfl, rfl⟩ := hrel
    by_cases hlt : j < n
    · obtain ⟨b1, o1, hA, _, hc1⟩ := unhide HC (by omega)
      obtain ⟨b2, o2, hA2, _, hc2⟩ := unhide HD (by omega)
      subst hA hA2
      have q1 : (j : Int) < (n : Int) := by omega
      have q0 : (0 : Int) ≤ (j : Int) := by omega
      have p1 : ∀ k, (w.drewN k).cell? ⟨b1, o1 + j, none⟩ = some (.bool (xs.getD j false)) := fun k => hc1 j hlt
      have p2 : ∀ k, (w.drewN k).cell? ⟨b2, o2 + j, none⟩ = some (.bool (xs.getD j false)) := fun k => hc2 j hlt
      have HJ := hide hlt
      clear hc1 hc2 hlt hj
      generalize xs.getD j false = xj at *
      go_wp2
      go_quiet (fail)
      rw [show (w.drewN k).drewN nq = w.drewN (k + nq) by simp [World.drewN, Nat.add_assoc]]
      cases xj
      · go_wp2
        go_roundw
        case rel => exact ⟨j + 1, _, unhide HJ, by go_num, rfl⟩
        case measure => have := unhide HJ; simp [intOf]; omega
      · go_wp2
        go_roundw
        case rel => exact ⟨j + 1, _, unhide HJ, by go_num, rfl⟩
        case measure => have := unhide HJ; simp [intOf]; omega
    · obtain rfl : j = n := by omega
      clear hlt
      go_wp2
      go_ret
      exact ⟨rfl, k, rfl⟩
theorem eq19 (a b : Value) (xs : List Bool) (w : World) (ha : boolsV w a xs) (hb : boolsV w b xs) (hn : xs.length ≤ 2097152) :
    Calls Try.prog 19 #[a, b] w fun e w' => e = .returned (.bool true) ∧ ∃ k, w' = w.drewN k := by
  obtain ⟨A, ca, rfl, hc⟩ := ha
  obtain ⟨A2, cb, rfl, hd⟩ := hb
  have HC := hide hc
  have HD := hide hd
  obtain ⟨n, hnx⟩ : ∃ n, n = xs.length := ⟨_, rfl⟩
  rw [← hnx] at hn HC HD ⊢
  clear hc hd hnx
  go_enter Try.func19, Try.ntmps19
  go_wp2
  go_loopw [5] (fun i wr => ∃ j k : Nat, j ≤ n ∧ i = .int .i64 j ∧ wr = w.drewN k) (fun i _ => n - (intOf i).toNat)
  case atStart => exact ⟨0, 0, by omega, rfl, rfl⟩
  case round =>
    obtain ⟨j, k, hj, rfl, rfl⟩ := hrel
    by_cases hlt : j < n
    · obtain ⟨b1, o1, hA, _, hc1⟩ := unhide HC (by omega)
      obtain ⟨b2, o2, hA2, _, hc2⟩ := unhide HD (by omega)
      subst hA hA2
      have q1 : (j : Int) < (n : Int) := by omega
      have q0 : (0 : Int) ≤ (j : Int) := by omega
      have p1 : ∀ k, (w.drewN k).cell? ⟨b1, o1 + j, none⟩ = some (.bool (xs.getD j false)) := fun k => hc1 j hlt
      have p2 : ∀ k, (w.drewN k).cell? ⟨b2, o2 + j, none⟩ = some (.bool (xs.getD j false)) := fun k => hc2 j hlt
      have HJ := hide hlt
      clear hc1 hc2 hlt hj
      generalize xs.getD j false = xj at *
      go_wp2
      go_quiet (fail)
      rw [show (w.drewN k).drewN nq = w.drewN (k + nq) by simp [World.drewN, Nat.add_assoc]]
      cases xj
      · go_wp2
        go_roundw
        case rel => exact ⟨j + 1, _, unhide HJ, by go_num, rfl⟩
        case measure => have := unhide HJ; simp [intOf]; omega
      · go_wp2
        go_roundw
        case rel => exact ⟨j + 1, _, unhide HJ, by go_num, rfl⟩
        case measure => have := unhide HJ; simp [intOf]; omega
    · obtain rfl : j = n := by omega
      clear hlt
      go_wp2
      go_ret
      exact ⟨rfl, k, rfl⟩
def marksB (k n : Nat) : List Bool := (List.range n).map fun i : Nat => decide (((k : Int) + (i : Int)) % 3 = 0)
theorem marksB_len (k n : Nat) : (marksB k n).length = n := by simp [marksB]
theorem marksB_at (k n i : Nat) (h : i < n) : (marksB k n).getD i false = decide (((k : Int) + (i : Int)) % 3 = 0) := by
  rw [List.getD_eq_getElem?_getD, marksB, List.getElem?_map, List.getElem?_range h]; rfl
theorem mark70 (lo hi : Nat) (v : Value) (xs : List Bool) (k : Nat) (w : World) (hv : ownB lo hi w v xs) (hn : xs.length ≤ 1048577) (hk : k ≤ 16777216) :
    Calls Try.prog 70 #[v, .int .i64 (k : Int)] w fun e w' => e = .returned (.int .i64 ((k : Int) + (xs.length : Int))) ∧ ownB lo hi w' v (marksB k xs.length) ∧ TouchS v w w' := by
  obtain ⟨rfl, rfl⟩ | ⟨g, cap, rest, rfl, hg, hh, hc, hcp⟩ := hv
  · go_enter Try.func70, Try.ntmps70
    go_wp2
    refine wp_loop_rounds 1 ?_
    rw [rounds_succ]; go_wp2
    go_ret
    exact ⟨by simp, .inl ⟨rfl, rfl⟩, ⟨rfl, rfl, rfl, Nat.le_refl _, fun _ _ _ => rfl⟩⟩
  · obtain ⟨n, hnx⟩ : ∃ n, n = xs.length := ⟨_, rfl⟩
    rw [← hnx] at hn hcp ⊢
    have HCP := hide hcp
    have HN := hide hnx
    have HG := hide hg
    have HH := hide hh
    have HC : Hid (w.heap[g]? = some (bolO (mixG (marksB k n) xs 0) rest)) := hide (by rw [mixG_zero]; exact hc)
    have k0 : (0 : Int) ≤ (k : Int) := by omega
    have k1 : (k : Int) ≤ 16777216 := by omega
    clear hc hnx hg hcp hh hk
    go_enter Try.func70, Try.ntmps70
    go_wp2
    go_loopw [1, 5] (fun m i wr => ∃ j : Nat, j ≤ n ∧ i = .int .i64 j ∧ m = .int .i64 ((k : Int) + (j : Int)) ∧ wr.heap[g]? = some (bolO (mixG (marksB k n) xs j) rest) ∧ Lone g w wr) (fun _ i _ => n - (intOf i).toNat)
    case atStart => exact ⟨0, by omega, rfl, by simp, unhide HC, Lone.refl _ _⟩
    case round =>
      obtain ⟨j, hj, rfl, rfl, ho, hlo⟩ := hrel
      by_cases hlt : j < n
      · have q1 : (j : Int) < (n : Int) := by omega
        have q0 : (0 : Int) ≤ (j : Int) := by omega
        have q2 : (n : Int) ≤ 1048577 := by omega
        have hl : (mixG (marksB k n) xs j).length = n := by rw [mixG_len _ _ _ (by rw [marksB_len]; exact unhide HN)]; exact (unhide HN).symm
        have HMS := hide (mixG_succ false (marksB k n) xs j (by rw [marksB_len]; exact unhide HN) (by rw [← unhide HN]; exact hlt))
        rw [marksB_at k n j hlt] at HMS
        obtain ⟨z, hz⟩ : ∃ z : Int, (k : Int) + (j : Int) = z := ⟨_, rfl⟩
        rw [hz] at HMS ⊢
        have z0 : 0 ≤ z := by omega
        have z1 : z ≤ 17825793 := by omega
        have HZ := hide hz
        have tz : Int.tmod z 3 = z % 3 := Int.tmod_eq_emod_of_nonneg z0
        have p1 := cell_bolO ho j (by omega)
        have p2 := free_bolO ho j
        have p3 := set_bolO ho j (decide (z % 3 = 0)) (by omega)
        have l1 := hlo.trans (lone_setCell g j wr (.bool (decide (z % 3 = 0))))
        rw [unhide HMS] at p3
        have HJ := hide hlt
        have HO := hide p3
        have HL := hide l1
        clear hlt hj ho hlo HC p3 l1 hl HMS hz
        generalize (mixG (marksB k n) xs j).getD j false = m at *
        generalize z % 3 = r at *
        by_cases hr : r = 0
        · subst hr
          rw [decide_eq_true rfl] at HO HL
          go_wp2
          go_roundw
          case rel => exact ⟨j + 1, unhide HJ, by go_num, by rw [← unhide HZ]; go_num, unhide HO, unhide HL⟩
          case measure => have := unhide HJ; simp [intOf]; omega
        · rw [decide_eq_false hr] at HO HL
          have hr2 : (r == 0) = false := by simpa using hr
          clear hr
          go_wp2
          go_roundw
          case rel => exact ⟨j + 1, unhide HJ, by go_num, by rw [← unhide HZ]; go_num, unhide HO, unhide HL⟩
          case measure => have := unhide HJ; simp [intOf]; omega
      · obtain rfl : j = n := by omega
        have hm := mixG_all (marksB k j) xs (by rw [marksB_len]; exact unhide HN)
        rw [← unhide HN] at hm
        rw [hm] at ho
        have HO := hide ho
        have HL := hide hlo
        clear hm ho hlo hlt
        go_wp2
        go_ret
        refine ⟨rfl, .inr ⟨g, cap, rest, by rw [marksB_len], unhide HG, unhide HH, unhide HO, by rw [marksB_len]; exact unhide HCP⟩, ⟨(unhide HL).os, (unhide HL).tape, (unhide HL).output, (unhide HL).size, fun k hk hne => (unhide HL).block k hk (fun e => hne (by rw [e]; rfl))⟩⟩
theorem held72 (v : Value) (k n : Nat) (w : World) (hv : boolsV w v (marksB k n)) (hn : n ≤ 1048577) (hk : k ≤ 16777216) :
    Calls Try.prog 72 #[v, .int .i64 (k : Int)] w fun e w' => e = .returned (.int .i64 ((k : Int) + (n : Int))) ∧ w' = w := by
  obtain ⟨A, cap, rfl, hc⟩ := hv
  rw [marksB_len] at hc ⊢
  have HC := hide hc
  have k0 : (0 : Int) ≤ (k : Int) := by omega
  have k1 : (k : Int) ≤ 16777216 := by omega
  clear hc hk
  go_enter Try.func72, Try.ntmps72
  go_wp2
  go_loopw [1, 5] (fun m i wr => ∃ j : Nat, j ≤ n ∧ i = .int .i64 j ∧ m = .int .i64 ((k : Int) + (j : Int)) ∧ wr = w) (fun _ i _ => n - (intOf i).toNat)
  case atStart => exact ⟨0, by omega, rfl, by simp, rfl⟩
  case round =>
    obtain ⟨j, hj, rfl, rfl, rfl⟩ := hrel
    by_cases hlt : j < n
    · obtain ⟨b, off, hA, hlb, hcell⟩ := unhide HC (by omega)
      subst hA
      have q1 : (j : Int) < (n : Int) := by omega
      have q0 : (0 : Int) ≤ (j : Int) := by omega
      have q2 : (n : Int) ≤ 1048577 := by omega
      have pc := hcell j hlt
      rw [marksB_at k n j hlt] at pc
      obtain ⟨z, hz⟩ : ∃ z : Int, (k : Int) + (j : Int) = z := ⟨_, rfl⟩
      rw [hz] at pc ⊢
      have z0 : 0 ≤ z := by omega
      have z1 : z ≤ 17825793 := by omega
      have HZ := hide hz
      have tz : Int.tmod z 3 = z % 3 := Int.tmod_eq_emod_of_nonneg z0
      have HJ := hide hlt
      clear hcell hlt hj hlb hz
      generalize z % 3 = r at *
      by_cases hr : r = 0
      · subst hr
        rw [decide_eq_true rfl] at pc
        go_wp2
        go_roundw
        case rel => exact ⟨j + 1, unhide HJ, by go_num, by rw [← unhide HZ]; go_num, by first | rfl | trivial⟩
        case measure => have := unhide HJ; simp [intOf]; omega
      · rw [decide_eq_false hr] at pc
        have hr2 : (r == 0) = false := by simpa using hr
        clear hr
        go_wp2
        go_roundw
        case rel => exact ⟨j + 1, unhide HJ, by go_num, by rw [← unhide HZ]; go_num, by first | rfl | trivial⟩
        case measure => have := unhide HJ; simp [intOf]; omega
    · obtain rfl : j = n := by omega
      clear hlt
      go_wp2
      go_ret
      exact ⟨rfl, rfl⟩
end Go.Proofs.Ythckgccfjpgbaaa
