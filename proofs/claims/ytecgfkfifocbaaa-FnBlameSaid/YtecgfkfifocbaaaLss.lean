/- Lists of lists of texts: what they read as; the laws' helpers over them. -/
import Derived.Test.YtecgfkfifocbaaaLst
namespace Go.Proofs.Ytecgfkfifocbaaa
open Go.RowKit
set_option maxHeartbeats 4000000
set_option maxRecDepth 20000
/-- a slice that reads as these lists -/
def lssV (w : World) (v : Value) (xss : List (List ByteArray)) : Prop :=
  ∃ A cap, v = .slice A xss.length cap ∧ (0 < xss.length → ∃ b off, A = some ⟨b, off, none⟩ ∧ b < w.heap.size ∧ ∀ i, i < xss.length → ∃ u, w.cell? ⟨b, off + i, none⟩ = some u ∧ strsV w u (xss.getD i []))
theorem lssV.below {w w' : World} {v : Value} {xss : List (List ByteArray)} (h : lssV w v xss) (hb : Below w.heap.size w w') : lssV w' v xss := by
  obtain ⟨A, cap, rfl, hc⟩ := h
  refine ⟨A, cap, rfl, fun hn => ?_⟩
  obtain ⟨b, off, rfl, hl, hc⟩ := hc hn
  refine ⟨b, off, rfl, Nat.lt_of_lt_of_le hl hb.size, fun i hi => ?_⟩
  obtain ⟨u, h1, h2⟩ := hc i hi
  exact ⟨u, (cell_below hb hl).trans h1, h2.below hb⟩
theorem lssV.drewN {w : World} {v : Value} {xss : List (List ByteArray)} (h : lssV w v xss) (k : Nat) : lssV (w.drewN k) v xss := h.below (below_drewN (Below.refl _ _) k)
theorem strsV.drewN {w : World} {v : Value} {xs : List ByteArray} (h : strsV w v xs) (k : Nat) : strsV (w.drewN k) v xs := h.below (below_drewN (Below.refl _ _) k)
theorem szS (l0 : Int) (v : Value) (ts : List ByteArray) (w : World) (hv : strsV w v ts) (hl : ts.length ≤ maxLen) (hs : ∀ t ∈ ts, t.size ≤ maxLen) (h00 : 0 ≤ l0) (h01 : l0 ≤ 1048576) :
    Calls Try.prog 6 #[v, .int .i64 l0] w fun e w' => ∃ z : Int, e = .returned (.int .i64 z) ∧ (z < 0 ∨ (0 ≤ z ∧ z ≤ 1048576 ∧ ts.length ≤ 1048576)) ∧ w' = w := by
  obtain ⟨A, cap, rfl, hc⟩ := hv
  have HC := hide hc
  have HS := hide hs
  clear hc hs
  obtain ⟨n, hnx⟩ : ∃ n, n = ts.length := ⟨_, rfl⟩
  rw [← hnx] at hl HC ⊢
  have HN := hide hnx
  unfold maxLen at hl
  have n0 : (0 : Int) ≤ (n : Int) := by omega
  have n1 : (n : Int) ≤ 9223372036854775807 := by omega
  clear hnx
  by_cases hb : l0 < (n : Int)
  · clear hl
    go_enter Try.func6, Try.ntmps6
    go_wp2
    go_ret
    exact ⟨_, rfl, .inl (by omega), rfl⟩
  · have q : (n : Int) ≤ l0 := by omega
    have HB := hide (show n ≤ 1048576 by omega)
    clear hb hl n1
    go_enter Try.func6, Try.ntmps6
    go_wp2
    go_loopw [1, 5] (fun left i wr => ∃ (j : Nat) (l : Int), j ≤ n ∧ i = .int .i64 j ∧ left = .int .i64 l ∧ 0 ≤ l ∧ l ≤ 1048576 ∧ wr = w) (fun _ i _ => n - (intOf i).toNat)
    case atStart => exact ⟨0, _, by omega, rfl, rfl, by omega, by omega, rfl⟩
    case round =>
      obtain ⟨j, l, hj, rfl, rfl, l0', l1, rfl⟩ := hrel
      by_cases hlt : j < n
      · obtain ⟨b, off, hA, _, hcell⟩ := unhide HC (by omega)
        subst hA
        have q1 : (j : Int) < (n : Int) := by omega
        have q0 : (0 : Int) ≤ (j : Int) := by omega
        have p0 := hcell j hlt
        have sz : (ts.getD j noS).size ≤ maxLen := unhide HS _ (by rw [List.getD_eq_getElem?_getD, List.getElem?_eq_getElem (by rw [← unhide HN]; exact hlt)]; exact List.getElem_mem _)
        unfold maxLen at sz
        have z0 : (0 : Int) ≤ ((ts.getD j noS).size : Int) := by omega
        have z1 : ((ts.getD j noS).size : Int) ≤ 9223372036854775807 := by omega
        have HJ := hide hlt
        clear hcell hlt hj sz
        generalize ts.getD j noS = t at *
        by_cases hneg : l < (t.size : Int)
        · go_wp2
          go_ret
          exact ⟨_, rfl, .inl (by omega), rfl⟩
        · have hge : (t.size : Int) ≤ l := by omega
          clear hneg
          go_wp2
          go_roundw
          case rel => exact ⟨j + 1, _, unhide HJ, by go_num, rfl, by omega, by omega, by first | rfl | trivial⟩
          case measure => have := unhide HJ; simp [intOf]; omega
      · obtain rfl : j = n := by omega
        clear hlt
        go_wp2
        go_ret
        exact ⟨_, rfl, .inr ⟨l0', l1, unhide HB⟩, rfl⟩
/-- no list of them is longer than a million, and there are no more of them -/
def fewL (xss : List (List ByteArray)) : Prop := xss.length ≤ 1048576 ∧ ∀ i, i < xss.length → (xss.getD i []).length ≤ 1048576
theorem sz11 (l0 : Int) (v : Value) (xss : List (List ByteArray)) (w : World) (hv : lssV w v xss) (hl : xss.length ≤ maxLen) (hs : ∀ i, i < xss.length → (xss.getD i []).length ≤ maxLen ∧ ∀ t ∈ xss.getD i [], t.size ≤ maxLen) (h00 : 0 ≤ l0) (h01 : l0 ≤ 1048576) :
    Calls Try.prog 11 #[v, .int .i64 l0] w fun e w' => ∃ z : Int, e = .returned (.int .i64 z) ∧ (z < 0 ∨ fewL xss) ∧ w' = w := by
  obtain ⟨A, cap, rfl, hc⟩ := hv
  have HC := hide hc
  have HS := hide hs
  clear hc hs
  unfold fewL
  obtain ⟨n, hnx⟩ : ∃ n, n = xss.length := ⟨_, rfl⟩
  rw [← hnx] at hl HC HS ⊢
  unfold maxLen at hl
  have n0 : (0 : Int) ≤ (n : Int) := by omega
  have n1 : (n : Int) ≤ 9223372036854775807 := by omega
  clear hnx
  by_cases hb : l0 < (n : Int)
  · clear hl
    go_enter Try.func11, Try.ntmps11
    go_wp2
    go_ret
    exact ⟨_, rfl, .inl (by omega), rfl⟩
  · have q : (n : Int) ≤ l0 := by omega
    have HB := hide (show n ≤ 1048576 by omega)
    clear hb hl n1
    go_enter Try.func11, Try.ntmps11
    go_wp2
    go_loopw [1, 5] (fun left i wr => ∃ (j : Nat) (l : Int), j ≤ n ∧ i = .int .i64 j ∧ left = .int .i64 l ∧ 0 ≤ l ∧ l ≤ 1048576 ∧ (∀ i, i < j → (xss.getD i []).length ≤ 1048576) ∧ wr = w) (fun _ i _ => n - (intOf i).toNat)
    case atStart => exact ⟨0, _, by omega, rfl, rfl, by omega, by omega, fun i h => absurd h (Nat.not_lt_zero i), rfl⟩
    case round =>
      obtain ⟨j, l, hj, rfl, rfl, l0', l1, hf, rfl⟩ := hrel
      by_cases hlt : j < n
      · obtain ⟨b, off, hA, _, hcell⟩ := unhide HC (by omega)
        subst hA
        have q1 : (j : Int) < (n : Int) := by omega
        have q0 : (0 : Int) ≤ (j : Int) := by omega
        obtain ⟨u, p0, pu⟩ := hcell j hlt
        have K := hide (szS l u (xss.getD j []) wr pu (unhide HS j hlt).1 (unhide HS j hlt).2 l0' l1)
        obtain ⟨Au, cu, rfl, _⟩ := pu
        have HJ := hide hlt
        have HF := hide hf
        clear hcell hlt hj hf
        generalize hxj : (xss.getD j []) = xj at *
        have HX := hide hxj
        clear hxj
        go_wp2_with fail
        refine (unhide K).mono ?_
        rintro e w' ⟨z, rfl, hz, hw'⟩
        have hw2 := hw'.symm
        subst hw2
        clear K
        by_cases hneg : z < 0
        · clear hz
          go_wp2
          go_ret
          exact ⟨_, rfl, .inl (by omega), rfl⟩
        · obtain ⟨z0, z1, z2⟩ := hz.resolve_left hneg
          have HZ := hide z2
          clear hz hneg z2
          go_wp2
          go_roundw
          case rel => exact ⟨j + 1, z, unhide HJ, by go_num, rfl, z0, z1, fun i hi => by rcases Nat.lt_succ_iff_lt_or_eq.1 hi with h | h; exact unhide HF i h; rw [h, unhide HX]; exact unhide HZ, by first | rfl | trivial⟩
          case measure => have := unhide HJ; simp [intOf]; omega
      · obtain rfl : j = n := by omega
        have HF := hide hf
        clear hlt hf
        go_wp2
        go_ret
        exact ⟨_, rfl, .inr ⟨unhide HB, unhide HF⟩, rfl⟩
/-- cells that hold slices -/
def ssO (us : List Value) (rest : List Value) : Obj := .cells (us ++ rest).toArray 22 (0, 0)
abbrev noV : Value := .slice none 0 0
theorem cell_ssO {w : World} {g : Nat} {us rest : List Value} (h : w.heap[g]? = some (ssO us rest)) (i : Nat) (hi : i < us.length) : w.cell? ⟨g, i, none⟩ = some (us.getD i noV) := by
  unfold World.cell?
  rw [show (⟨g, i, none⟩ : Addr).block = g from rfl, h]
  simp [ssO, hi, List.getElem?_append_left, List.getD]
theorem free_ssO {w : World} {g : Nat} {us rest : List Value} (h : w.heap[g]? = some (ssO us rest)) (i : Nat) : w.frozen? ⟨g, i, none⟩ = false := by
  unfold World.frozen?
  rw [show (⟨g, i, none⟩ : Addr).block = g from rfl, h]
  simp [ssO]
theorem set_ssO {w : World} {g : Nat} {us rest : List Value} (h : w.heap[g]? = some (ssO us rest)) (i : Nat) (v : Value) (hi : i < us.length) : (w.setCell ⟨g, i, none⟩ v).heap[g]? = some (ssO (us.set i v) rest) := by
  have e : (us ++ rest).set i v = (us.set i v) ++ rest := by
    rw [List.set_append_left _ _ (by simpa using hi)]
  simp only [World.setCell, Array.getElem?_modify, if_true, h, Option.map_some, ssO]
  simp [e]
theorem info22 : (Try.prog.info? 22).map (fun i => (i.zero, i.size, i.bytes)) = some (some noV, 1, 24) := by kernel_rfl
theorem make_ss (n : Nat) (hn : n ≤ 2097152) (w : World) : (Instr.makeSlice 29 (.int .i64 (n : Int)) (.int .i64 (n : Int))).run Try.prog w = .ok (.slice (some ⟨w.heap.size, 0, none⟩) n n) (w.alloc (ssO (List.replicate n noV) [])) := by
  obtain ⟨k0, hk0, kz0, kz1, kz2⟩ := info_parts info22
  have h := run_makeSlice w (P := Try.prog) 29 22 k0 noV Try.underlying29 hk0 kz0 .i64 .i64 (n : Int) (n : Int) (by omega) (Int.le_refl _) (by rw [kz1]; omega) (by rw [kz2]; omega) (by omega)
  rw [kz1, Int.toNat_natCast, Nat.mul_one] at h
  rw [h, ssO]
  congr 3
  apply Array.ext_getElem?
  intro i
  by_cases hi : i < n
  · simp [madeCells, Value.cells, hi, Nat.mod_one]
  · simp [madeCells, Value.cells, hi]
theorem ownS.set {lo hi g k : Nat} {w : World} {u v : Value} {ts : List ByteArray} (h : ownS lo hi w v ts) (hg : g < lo) : ownS lo hi (w.setCell ⟨g, k, none⟩ u) v ts := by
  obtain h | ⟨g', cap, rest, rfl, hg', hh, hc, hcp⟩ := h
  · exact .inl h
  · exact .inr ⟨g', cap, rest, rfl, hg', hh, (Below.heap_setCell _ _ _ g' (by show g' ≠ g; omega)).trans hc, hcp⟩
theorem ownS.more {lo lo' hi hi' : Nat} {w : World} {v : Value} {ts : List ByteArray} (h : ownS lo hi w v ts) (h1 : lo' ≤ lo) (h2 : hi ≤ hi') : ownS lo' hi' w v ts := by
  obtain h | ⟨g', cap, rest, rfl, hg', hh, hc, hcp⟩ := h
  · exact .inl h
  · exact .inr ⟨g', cap, rest, rfl, by omega, by omega, hc, hcp⟩
theorem lss_of_own {w : World} {g lo cap : Nat} {us rest : List Value} {xss : List (List ByteArray)} (h : w.heap[g]? = some (ssO us rest)) (hl : us.length = xss.length) (hu : ∀ i, i < xss.length → ownS lo w.heap.size w (us.getD i noV) (xss.getD i [])) : lssV w (.slice (some ⟨g, 0, none⟩) xss.length cap) xss :=
  ⟨_, _, rfl, fun _ => ⟨g, 0, rfl, (Array.getElem?_eq_some_iff.1 h).1, fun i hi => ⟨us.getD i noV, by rw [Nat.zero_add]; exact cell_ssO h i (by omega), (hu i hi).strs⟩⟩⟩
theorem to13 (v : Value) (xss : List (List ByteArray)) (w : World) (hv : lssV w v xss) (hf : fewL xss) :
    Calls Try.prog 13 #[v] w fun e w' => ∃ r, e = .returned r ∧ lssV w' r xss ∧ Below w.heap.size w w' := by
  obtain ⟨A, cap, rfl, hc⟩ := hv
  have HC := hide hc
  obtain ⟨hf1, hf2⟩ := hf
  have HF := hide hf2
  obtain ⟨n, hnx⟩ : ∃ n, n = xss.length := ⟨_, rfl⟩
  rw [← hnx] at hf1 HC HF ⊢
  have HN := hide hnx
  have mk := make_ss n (by omega)
  have n1 : (n : Int) ≤ 1048576 := by omega
  clear hc hnx hf1 hf2
  go_enter Try.func13, Try.ntmps13
  go_wp2
  clear mk
  go_loopw [4] (fun i wr => ∃ (j : Nat) (us : List Value), j ≤ n ∧ i = .int .i64 j ∧ us.length = n ∧ wr.heap[w.heap.size]? = some (ssO us []) ∧ (∀ i, i < j → ownS (w.heap.size + 1) wr.heap.size wr (us.getD i noV) (xss.getD i [])) ∧ (∀ i, j ≤ i → i < n → us.getD i noV = noV) ∧ Below w.heap.size w wr) (fun i _ => n - (intOf i).toNat)
  case atStart => exact ⟨0, List.replicate n noV, by omega, rfl, by simp, by rw [heap_at _ _ _ rfl], fun i h => absurd h (Nat.not_lt_zero i), fun i _ h => by rw [List.getD_eq_getElem?_getD, List.getElem?_replicate, if_pos h]; rfl, (Below.refl _ _).alloc (Nat.le_refl _) _⟩
  case round =>
    obtain ⟨j, us, hj, rfl, hul, ho, hown, hz, hbl⟩ := hrel
    by_cases hlt : j < n
    · obtain ⟨b, off, hA, hbb, hcell⟩ := unhide HC (by omega)
      subst hA
      have q1 : (j : Int) < (n : Int) := by omega
      have q0 : (0 : Int) ≤ (j : Int) := by omega
      obtain ⟨u, hu, pu⟩ := hcell j hlt
      have p0 : wr.cell? ⟨b, off + j, none⟩ = some u := (cell_below hbl hbb).trans hu
      have K := hide (to30 u (xss.getD j []) wr (pu.below hbl) (by have := unhide HF j hlt; omega))
      obtain ⟨Au, cu, rfl, _⟩ := pu
      have HJ := hide hlt
      have HU := hide hul
      have HO := hide ho
      have HW := hide hown
      have HZ := hide hz
      have HBL := hide hbl
      clear hcell hbb hlt hj hul ho hown hz hbl hu
      go_wp2_with fail
      refine (unhide K).mono ?_
      rintro e w2 ⟨r, rfl, o2, b2⟩
      have hlg : w.heap.size < wr.heap.size := (Array.getElem?_eq_some_iff.1 (unhide HO)).1
      have ho2 : w2.heap[w.heap.size]? = some (ssO us []) := (b2.block _ hlg).trans (unhide HO)
      have c2 := cell_ssO ho2 j (by rw [unhide HU]; exact unhide HJ)
      rw [unhide HZ j (Nat.le_refl _) (unhide HJ)] at c2
      have f2 := free_ssO ho2 j
      have s2 := hide (set_ssO ho2 j r (by rw [unhide HU]; exact unhide HJ))
      have B2 := hide b2
      have O2 := hide (ownS.more o2 (Nat.succ_le_of_lt hlg) (Nat.le_refl w2.heap.size))
      obtain ⟨Ar, nr, cr, rfl⟩ : ∃ A n c, r = .slice A n c := by
        rcases o2 with ⟨rfl, _⟩ | ⟨g, c, rest, rfl, _⟩
        · exact ⟨_, _, _, rfl⟩
        · exact ⟨_, _, _, rfl⟩
      clear o2 b2 ho2 hlg K
      go_wp2
      go_roundw
      case rel =>
        have bb : Below w.heap.size w w2 := bl_st (unhide B2) (unhide HBL)
        have hsz : (w2.setCell ⟨w.heap.size, j, none⟩ (.slice Ar nr cr)).heap.size = w2.heap.size := by simp
        refine ⟨j + 1, us.set j (.slice Ar nr cr), unhide HJ, by go_num, by rw [List.length_set]; exact unhide HU, unhide s2, fun i hi => ?_, fun i hi1 hi2 => ?_, bl_set bb (Nat.le_refl _)⟩
        · rw [hsz]
          rcases Nat.lt_succ_iff_lt_or_eq.1 hi with h | rfl
          · rw [show (us.set j (.slice Ar nr cr)).getD i noV = us.getD i noV by rw [List.getD_eq_getElem?_getD, List.getElem?_set_ne (by omega), ← List.getD_eq_getElem?_getD]]
            exact (((unhide HW i h).below (unhide B2)).more (Nat.le_refl _) (unhide B2).size).set (Nat.lt_succ_self _)
          · rw [show (us.set i (.slice Ar nr cr)).getD i noV = .slice Ar nr cr by rw [List.getD_eq_getElem?_getD, List.getElem?_set_self (by rw [unhide HU]; exact unhide HJ)]; rfl]
            exact (unhide O2).set (Nat.lt_succ_self _)
        · rw [List.getD_eq_getElem?_getD, List.getElem?_set_ne (by omega), ← List.getD_eq_getElem?_getD]
          exact unhide HZ i (by omega) hi2
      case measure => have := unhide HJ; simp [intOf]; omega
    · obtain rfl : j = n := by omega
      have HE := hide (show lssV wr (.slice (some ⟨w.heap.size, 0, none⟩) j j) xss by
        have h := lss_of_own (cap := j) ho (by rw [hul]; exact unhide HN) (fun i hi => hown i (by rw [unhide HN]; exact hi))
        rwa [← unhide HN] at h)
      have HBL := hide hbl
      clear ho hbl hown hz hul hlt
      go_wp2
      go_ret
      exact ⟨_, rfl, unhide HE, unhide HBL⟩
theorem eq16 (a b : Value) (xss : List (List ByteArray)) (w : World) (ha : lssV w a xss) (hb : lssV w b xss) (hf : fewL xss) :
    Calls Try.prog 16 #[a, b] w fun e w' => e = .returned (.bool true) ∧ ∃ k, w' = w.drewN k := by
  obtain ⟨A, ca, rfl, hc⟩ := ha
  obtain ⟨A2, cb, rfl, hd⟩ := hb
  have HC := hide hc
  have HD := hide hd
  obtain ⟨hf1, hf2⟩ := hf
  have HF := hide hf2
  obtain ⟨n, hnx⟩ : ∃ n, n = xss.length := ⟨_, rfl⟩
  rw [← hnx] at hf1 HC HD HF ⊢
  clear hc hd hnx hf2
  go_enter Try.func16, Try.ntmps16
  go_wp2
  go_loopw [5] (fun i wr => ∃ j k : Nat, j ≤ n ∧ i = .int .i64 j ∧ wr = w.drewN k) (fun i _ => n - (intOf i).toNat)
  case atStart => exact ⟨0, 0, by omega, rfl, rfl⟩
  case round =>
    obtain ⟨j, k, hj, rfl, hwr⟩ := hrel
    by_cases hlt : j < n
    · obtain ⟨b1, o1, hA, _, hc1⟩ := unhide HC (by omega)
      obtain ⟨b2, o2, hA2, _, hc2⟩ := unhide HD (by omega)
      subst hA hA2
      have q1 : (j : Int) < (n : Int) := by omega
      have q0 : (0 : Int) ≤ (j : Int) := by omega
      obtain ⟨u1, r1, v1⟩ := hc1 j hlt
      obtain ⟨u2, r2, v2⟩ := hc2 j hlt
      have p1 : wr.cell? ⟨b1, o1 + j, none⟩ = some u1 := by rw [hwr]; exact r1
      have p2 : wr.cell? ⟨b2, o2 + j, none⟩ = some u2 := by rw [hwr]; exact r2
      have v1' : strsV wr u1 (xss.getD j []) := by rw [hwr]; exact v1.drewN k
      have v2' : strsV wr u2 (xss.getD j []) := by rw [hwr]; exact v2.drewN k
      have hlj : (xss.getD j []).length ≤ 2097152 := by have := unhide HF j hlt; omega
      generalize xss.getD j [] = xj at *
      have HK := hide (show ∀ m, Calls Try.prog 10 #[u1, u2] (wr.drewN m) fun e w' => e = .returned (.bool true) ∧ ∃ i, w' = (wr.drewN m).drewN i from fun m => eq33 u1 u2 xj _ (v1'.drewN m) (v2'.drewN m) hlj)
      obtain ⟨A1, c1, rfl, _⟩ := v1
      obtain ⟨A2, c2, rfl, _⟩ := v2
      have HJ := hide hlt
      have HWR := hide hwr
      clear hc1 hc2 hlt hj r1 r2 hlj hwr v1' v2'
      generalize xj.length = lj at *
      go_wp2
      go_quiet ((go_at_call 10; refine Calls.quiet_of (unhide HK _)))
      clear p1 p2 HK
      go_wp2
      go_roundw
      case rel => exact ⟨j + 1, k + nq, unhide HJ, by go_num, by rw [unhide HWR, World.drewN_drewN]⟩
      case measure => have := unhide HJ; simp [intOf]; omega
    · obtain rfl : j = n := by omega
      have HWR := hide hwr
      clear hlt hwr
      go_wp2
      go_ret
      exact ⟨rfl, k, unhide HWR⟩
end Go.Proofs.Ytecgfkfifocbaaa
