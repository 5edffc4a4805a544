/- Slices of strings: what they read as, which of them a call made; the laws' helpers over them. -/
import Derived.Test.YthonnlifgdnacaaBase
namespace Go.Proofs.Ythonnlifgdnacaa
open Go.RowKit
set_option maxHeartbeats 4000000
set_option maxRecDepth 20000
/-- a slice that reads as these strings -/
def strsV (w : World) (v : Value) (ts : List ByteArray) : Prop :=
  ∃ A cap, v = .slice A ts.length cap ∧ (0 < ts.length → ∃ b off, A = some ⟨b, off, none⟩ ∧ b < w.heap.size ∧ ∀ i, i < ts.length → w.cell? ⟨b, off + i, none⟩ = some (.string (ts.getD i noS)))
def strO (ts : List ByteArray) (rest : List Value) : Obj := .cells (ts.map Value.string ++ rest).toArray 9 (0, 0)
/-- strings in a block of their own, between lo and hi -/
def ownS (lo hi : Nat) (w : World) (v : Value) (ts : List ByteArray) : Prop :=
  (v = .slice none 0 0 ∧ ts = []) ∨ ∃ g cap rest, v = .slice (some ⟨g, 0, none⟩) ts.length cap ∧ lo ≤ g ∧ g < hi ∧ w.heap[g]? = some (strO ts rest) ∧ ts.length ≤ cap
theorem cell_strO {w : World} {g : Nat} {ts : List ByteArray} {rest : List Value} (h : w.heap[g]? = some (strO ts rest)) (i : Nat) (hi : i < ts.length) : w.cell? ⟨g, i, none⟩ = some (.string (ts.getD i noS)) := by
  unfold World.cell?
  rw [show (⟨g, i, none⟩ : Addr).block = g from rfl, h]
  simp [strO, hi, List.getElem?_append_left, List.getD]
theorem free_strO {w : World} {g : Nat} {ts : List ByteArray} {rest : List Value} (h : w.heap[g]? = some (strO ts rest)) (i : Nat) : w.frozen? ⟨g, i, none⟩ = false := by
  unfold World.frozen?
  rw [show (⟨g, i, none⟩ : Addr).block = g from rfl, h]
  simp [strO]
theorem set_strO {w : World} {g : Nat} {ts : List ByteArray} {rest : List Value} (h : w.heap[g]? = some (strO ts rest)) (i : Nat) (v : ByteArray) (hi : i < ts.length) : (w.setCell ⟨g, i, none⟩ (.string v)).heap[g]? = some (strO (ts.set i v) rest) := by
  have e : (ts.map Value.string ++ rest).set i (.string v) = (ts.set i v).map Value.string ++ rest := by
    rw [List.set_append_left _ _ (by simpa using hi), List.map_set]
  simp only [World.setCell, Array.getElem?_modify, if_true, h, Option.map_some, strO]
  simp [e]
theorem ownS.strs {lo hi : Nat} {w : World} {v : Value} {ts : List ByteArray} (h : ownS lo hi w v ts) : strsV w v ts := by
  obtain ⟨rfl, rfl⟩ | ⟨g, cap, rest, rfl, hg, hh, hc, hcp⟩ := h
  · exact ⟨none, 0, rfl, fun h => by simp at h⟩
  · exact ⟨_, _, rfl, fun _ => ⟨g, 0, rfl, (Array.getElem?_eq_some_iff.1 hc).1, fun i hi => by rw [Nat.zero_add]; exact cell_strO hc i hi⟩⟩
theorem strsV.below {w w' : World} {v : Value} {ts : List ByteArray} (h : strsV w v ts) (hb : Below w.heap.size w w') : strsV w' v ts := by
  obtain ⟨A, cap, rfl, hc⟩ := h
  refine ⟨A, cap, rfl, fun hn => ?_⟩
  obtain ⟨b, off, rfl, hl, hc⟩ := hc hn
  exact ⟨b, off, rfl, Nat.lt_of_lt_of_le hl hb.size, fun i hi => (cell_below hb hl).trans (hc i hi)⟩
theorem ownS.below {lo hi : Nat} {w w' : World} {v : Value} {ts : List ByteArray} (h : ownS lo hi w v ts) (hb : Below w.heap.size w w') : ownS lo hi w' v ts := by
  obtain h | ⟨g, cap, rest, rfl, hg, hh, hc, hcp⟩ := h
  · exact .inl h
  · exact .inr ⟨g, cap, rest, rfl, hg, hh, (hb.block g (Array.getElem?_eq_some_iff.1 hc).1).trans hc, hcp⟩
theorem info9 : (Try.prog.info? 9).map (fun i => (i.zero, i.size, i.bytes)) = some (some (.string ⟨#[]⟩), 1, 16) := by kernel_rfl
theorem make_strs (n : Nat) (hn : n ≤ 2097152) (w : World) : (Instr.makeSlice 31 (.int .i64 (n : Int)) (.int .i64 (n : Int))).run Try.prog w = .ok (.slice (some ⟨w.heap.size, 0, none⟩) n n) (w.alloc (strO (List.replicate n noS) [])) := by
  obtain ⟨k0, hk0, kz0, kz1, kz2⟩ := info_parts info9
  have h := run_makeSlice w (P := Try.prog) 31 9 k0 (.string ⟨#[]⟩) Try.underlying31 hk0 kz0 .i64 .i64 (n : Int) (n : Int) (by omega) (Int.le_refl _) (by rw [kz1]; omega) (by rw [kz2]; omega) (by omega)
  rw [kz1, Int.toNat_natCast, Nat.mul_one] at h
  rw [h, strO]
  congr 3
  apply Array.ext_getElem?
  intro i
  by_cases hi : i < n
  · simp [madeCells, Value.cells, hi, Nat.mod_one]
  · simp [madeCells, Value.cells, hi]
theorem sz27 (v : Value) (ts : List ByteArray) (w : World) (hv : strsV w v ts) (hl : ts.length ≤ maxLen) (hs : ∀ t ∈ ts, t.size ≤ maxLen) :
    Calls Try.prog 62 #[v, .int .i64 1048576] w fun e w' => ∃ z : Int, e = .returned (.int .i64 z) ∧ (z < 0 ∨ ts.length ≤ 1048576) ∧ w' = w := by
  obtain ⟨A, cap, rfl, hc⟩ := hv
  have HC := hide hc
  have HS := hide hs
  clear hc hs
  obtain ⟨n, hnx⟩ : ∃ n, n = ts.length := ⟨_, rfl⟩
  rw [← hnx] at hl HC ⊢
  have HN := hide hnx
  unfold maxLen at hl
  have n0 : (0 : Int) ≤ (n : Int) := by omega
  have n1 : (n : Int) ≤ 9223372036854775807 := by omega
  clear hnx
  by_cases hb : 1048576 < n
  · have q : (1048576 : Int) < (n : Int) := by omega
    clear hb hl
    go_enter Try.func62, Try.ntmps62
    go_wp2
    go_ret
    exact ⟨_, rfl, .inl (by omega), rfl⟩
  · have q : (n : Int) ≤ 1048576 := by omega
    have HB := hide (show n ≤ 1048576 by omega)
    clear hb hl n1
    go_enter Try.func62, Try.ntmps62
    go_wp2
    go_loopw [1, 5] (fun left i wr => ∃ (j : Nat) (l : Int), j ≤ n ∧ i = .int .i64 j ∧ left = .int .i64 l ∧ 0 ≤ l ∧ l ≤ 1048576 ∧ wr = w) (fun _ i _ => n - (intOf i).toNat)
    case atStart => exact ⟨0, _, by omega, rfl, rfl, by omega, by omega, rfl⟩
    case round =>
      obtain ⟨j, l, hj, rfl, rfl, l0, l1, rfl⟩ := hrel
      by_cases hlt : j < n
      · obtain ⟨b, off, hA, _, hcell⟩ := unhide HC (by omega)
        subst hA
        have q1 : (j : Int) < (n : Int) := by omega
        have q0 : (0 : Int) ≤ (j : Int) := by omega
        have p0 := hcell j hlt
        have sz : (ts.getD j noS).size ≤ maxLen := unhide HS _ (by rw [List.getD_eq_getElem?_getD, List.getElem?_eq_getElem (by rw [← unhide HN]; exact hlt)]; exact List.getElem_mem _)
        unfold maxLen at sz
        have z0 : (0 : Int) ≤ ((ts.getD j noS).size : Int) := by omega
        have z1 : ((ts.getD j noS).size : Int) ≤ 9223372036854775807 := by omega
        have HJ := hide hlt
        clear hcell hlt hj sz
        generalize ts.getD j noS = t at *
        by_cases hneg : l < (t.size : Int)
        · go_wp2
          go_ret
          exact ⟨_, rfl, .inl (by omega), rfl⟩
        · have hge : (t.size : Int) ≤ l := by omega
          clear hneg
          go_wp2
          go_roundw
          case rel => exact ⟨j + 1, _, unhide HJ, by go_num, rfl, by omega, by omega, by first | rfl | trivial⟩
          case measure => have := unhide HJ; simp [intOf]; omega
      · obtain rfl : j = n := by omega
        clear hlt
        go_wp2
        go_ret
        exact ⟨_, rfl, .inr (unhide HB), rfl⟩
theorem to30 (v : Value) (ts : List ByteArray) (w : World) (hv : strsV w v ts) (hn : ts.length ≤ 2097152) :
    Calls Try.prog 63 #[v] w fun e w' => ∃ r, e = .returned r ∧ ownS w.heap.size w'.heap.size w' r ts ∧ Below w.heap.size w w' := by
  obtain ⟨A, cap, rfl, hc⟩ := hv
  have HC := hide hc
  obtain ⟨n, hnx⟩ : ∃ n, n = ts.length := ⟨_, rfl⟩
  rw [← hnx] at hn HC ⊢
  have HN := hide hnx
  have mk := make_strs n (by omega)
  clear hc hnx
  go_enter Try.func63, Try.ntmps63
  go_wp2
  clear mk
  go_loopw [4] (fun i wr => ∃ j : Nat, j ≤ n ∧ i = .int .i64 j ∧ wr.heap[w.heap.size]? = some (strO (mixG ts (List.replicate n noS) j) []) ∧ Below w.heap.size w wr) (fun i _ => n - (intOf i).toNat)
  case atStart => exact ⟨0, by omega, rfl, by rw [mixG_zero, heap_at _ _ _ rfl], (Below.refl _ _).alloc (Nat.le_refl _) _⟩
  case round =>
    obtain ⟨j, hj, rfl, ho, hbl⟩ := hrel
    by_cases hlt : j < n
    · obtain ⟨b, off, hA, hbb, hcell⟩ := unhide HC (by omega)
      subst hA
      have q1 : (j : Int) < (n : Int) := by omega
      have q0 : (0 : Int) ≤ (j : Int) := by omega
      have hl : (mixG ts (List.replicate n noS) j).length = n := by rw [mixG_len _ _ _ (by simp [unhide HN])]; simp
      have p0 : wr.cell? ⟨b, off + j, none⟩ = some (.string (ts.getD j noS)) := (cell_below hbl hbb).trans (hcell j hlt)
      have p1 := cell_strO ho j (by omega)
      have p2 := free_strO ho j
      have p3 := set_strO ho j (ts.getD j noS) (by omega)
      rw [mixG_succ _ _ _ _ (by simp [unhide HN]) (by simpa using hlt)] at p3
      have fin : Hid ((wr.setCell ⟨w.heap.size, j, none⟩ (.string (ts.getD j noS))).heap[w.heap.size]? = some (strO (mixG ts (List.replicate n noS) (j + 1)) []) ∧ Below w.heap.size w (wr.setCell ⟨w.heap.size, j, none⟩ (.string (ts.getD j noS)))) := ⟨p3, bl_set hbl (Nat.le_refl _)⟩
      have HJ := hide hlt
      clear ho hbl hcell hbb hl hlt hj p3
      generalize (mixG ts (List.replicate n noS) j).getD j noS = m0 at *
      generalize ts.getD j noS = xj at *
      go_wp2
      go_roundw
      case rel => exact ⟨j + 1, unhide HJ, by go_num, (unhide fin).1, (unhide fin).2⟩
      case measure => have := unhide HJ; simp [intOf]; omega
    · obtain rfl : j = n := by omega
      have hm := mixG_all ts (List.replicate j noS) (by simp [unhide HN])
      rw [List.length_replicate] at hm
      rw [hm] at ho
      have HO := hide ho
      have hbel := hide hbl
      clear ho hbl hm
      go_wp2
      go_ret
      refine ⟨_, rfl, .inr ⟨w.heap.size, j, [], ?_, Nat.le_refl _, (Array.getElem?_eq_some_iff.1 (unhide HO)).1, unhide HO, by rw [← unhide HN]; exact Nat.le_refl _⟩, unhide hbel⟩
      rw [← unhide HN]
      rfl
theorem eq33 (a b : Value) (ts : List ByteArray) (w : World) (ha : strsV w a ts) (hb : strsV w b ts) (hn : ts.length ≤ 2097152) :
    Calls Try.prog 64 #[a, b] w fun e w' => e = .returned (.bool true) ∧ ∃ k, w' = w.drewN k := by
  obtain ⟨A, ca, rfl, hc⟩ := ha
  obtain ⟨A2, cb, rfl, hd⟩ := hb
  have HC := hide hc
  have HD := hide hd
  obtain ⟨n, hnx⟩ : ∃ n, n = ts.length := ⟨_, rfl⟩
  rw [← hnx] at hn HC HD ⊢
  clear hc hd hnx
  go_enter Try.func64, Try.ntmps64
  go_wp2
  go_loopw [5] (fun i wr => ∃ j k : Nat, j ≤ n ∧ i = .int .i64 j ∧ wr = w.drewN k) (fun i _ => n - (intOf i).toNat)
  case atStart => exact ⟨0, 0, by omega, rfl, rfl⟩
  case round =>
    obtain ⟨j, k, hj, rfl, rfl⟩ := hrel
    by_cases hlt : j < n
    · obtain ⟨b1, o1, hA, _, hc1⟩ := unhide HC (by omega)
      obtain ⟨b2, o2, hA2, _, hc2⟩ := unhide HD (by omega)
      subst hA hA2
      have q1 : (j : Int) < (n : Int) := by omega
      have q0 : (0 : Int) ≤ (j : Int) := by omega
      have p1 : ∀ k, (w.drewN k).cell? ⟨b1, o1 + j, none⟩ = some (.string (ts.getD j noS)) := fun k => hc1 j hlt
      have p2 : ∀ k, (w.drewN k).cell? ⟨b2, o2 + j, none⟩ = some (.string (ts.getD j noS)) := fun k => hc2 j hlt
      have HJ := hide hlt
      clear hc1 hc2 hlt hj
      generalize ts.getD j noS = xj at *
      go_wp2
      go_quiet (fail)
      rw [show (w.drewN k).drewN nq = w.drewN (k + nq) by simp [World.drewN, Nat.add_assoc]]
      go_wp2
      go_roundw
      case rel => exact ⟨j + 1, _, unhide HJ, by go_num, rfl⟩
      case measure => have := unhide HJ; simp [intOf]; omega
    · obtain rfl : j = n := by omega
      clear hlt
      go_wp2
      go_ret
      exact ⟨rfl, k, rfl⟩
theorem ownS.lies {lo hi : Nat} {w : World} {v : Value} {ts : List ByteArray} (h : ownS lo hi w v ts) : liesIn lo hi v := by
  intro g hg
  obtain ⟨rfl, _⟩ | ⟨g', cap, rest, rfl, h1, h2, _⟩ := h
  · cases hg
  · cases hg; exact ⟨h1, h2⟩
def marksS (n : Nat) : List ByteArray := (List.range n).map fun i => mkT (1 + i)
theorem marksS_len (n : Nat) : (marksS n).length = n := by simp [marksS]
theorem marksS_at (n i : Nat) (h : i < n) : (marksS n).getD i noS = mkT (1 + i) := by
  rw [List.getD_eq_getElem?_getD, marksS, List.getElem?_map, List.getElem?_range h]; rfl
theorem mark34 (lo hi : Nat) (v : Value) (ts : List ByteArray) (w : World) (hv : ownS lo hi w v ts) (hn : ts.length ≤ 2097152) :
    Calls Try.prog 65 #[v, .int .i64 1] w fun e w' => e = .returned (.int .i64 (1 + (ts.length : Int))) ∧ ownS lo hi w' v (marksS ts.length) ∧ TouchS v w w' := by
  obtain ⟨rfl, rfl⟩ | ⟨g, cap, rest, rfl, hg, hh, hc, hcp⟩ := hv
  · go_enter Try.func65, Try.ntmps65
    go_wp2
    refine wp_loop_rounds 1 ?_
    rw [rounds_succ]; go_wp2
    go_ret
    exact ⟨rfl, .inl ⟨rfl, rfl⟩, ⟨rfl, rfl, rfl, Nat.le_refl _, fun _ _ _ => rfl⟩⟩
  · obtain ⟨n, hnx⟩ : ∃ n, n = ts.length := ⟨_, rfl⟩
    rw [← hnx] at hn hcp ⊢
    have HCP := hide hcp
    have HN := hide hnx
    have HG := hide hg
    have HH := hide hh
    have HC : Hid (w.heap[g]? = some (strO (mixG (marksS n) ts 0) rest)) := hide (by rw [mixG_zero]; exact hc)
    clear hc hnx hg hcp hh
    go_enter Try.func65, Try.ntmps65
    go_wp2
    go_loopw [1, 5] (fun k i wr => ∃ j : Nat, j ≤ n ∧ i = .int .i64 j ∧ k = .int .i64 (1 + (j : Int)) ∧ wr.heap[g]? = some (strO (mixG (marksS n) ts j) rest) ∧ Lone g w wr) (fun _ i _ => n - (intOf i).toNat)
    case atStart => exact ⟨0, by omega, rfl, rfl, unhide HC, Lone.refl _ _⟩
    case round =>
      obtain ⟨j, hj, rfl, rfl, ho, hlo⟩ := hrel
      by_cases hlt : j < n
      · have q1 : (j : Int) < (n : Int) := by omega
        have q0 : (0 : Int) ≤ (j : Int) := by omega
        have q2 : (n : Int) ≤ 2097152 := by omega
        have hm := hide (mt38 (1 + j) (by omega) wr)
        rw [show (((1 + j : Nat)) : Int) = 1 + (j : Int) by omega] at hm
        have HJ := hide hlt
        have HO := hide ho
        have HL := hide hlo
        clear hlt hj ho hlo HC
        go_wp2_with fail
        refine (unhide hm).mono ?_
        rintro e w1 ⟨rfl, b1⟩
        have ho := (b1.block g (Array.getElem?_eq_some_iff.1 (unhide HO)).1).trans (unhide HO)
        have hl : (mixG (marksS n) ts j).length = n := by rw [mixG_len _ _ _ (by rw [marksS_len]; exact unhide HN)]; exact (unhide HN).symm
        have p1 := cell_strO ho j (by have := unhide HJ; omega)
        have p2 := free_strO ho j
        have p3 := set_strO ho j (mkT (1 + j)) (by have := unhide HJ; omega)
        rw [← marksS_at n j (unhide HJ), mixG_succ _ _ _ _ (by rw [marksS_len]; exact unhide HN) (by rw [← unhide HN]; exact unhide HJ), marksS_at n j (unhide HJ)] at p3
        have P3 := hide p3
        have L3 := hide (((unhide HL).trans (Lone.of_below b1)).trans (lone_setCell g j w1 (.string (mkT (1 + j)))))
        clear p3 ho hl b1 HL HO hm
        generalize (mixG (marksS n) ts j).getD j noS = m0 at *
        generalize mkT (1 + j) = tx at *
        go_wp2
        go_roundw
        case rel => exact ⟨j + 1, unhide HJ, by go_num, by go_num, unhide P3, unhide L3⟩
        case measure => have := unhide HJ; simp [intOf]; omega
      · obtain rfl : j = n := by omega
        have hm := mixG_all (marksS j) ts (by rw [marksS_len]; exact unhide HN)
        rw [← unhide HN] at hm
        rw [hm] at ho
        have HO := hide ho
        have HL := hide hlo
        clear hm ho hlo hlt
        go_wp2
        go_ret
        refine ⟨rfl, .inr ⟨g, cap, rest, by rw [marksS_len], unhide HG, unhide HH, unhide HO, by rw [marksS_len]; exact unhide HCP⟩, ⟨(unhide HL).os, (unhide HL).tape, (unhide HL).output, (unhide HL).size, fun k hk hne => (unhide HL).block k hk (fun e => hne (by rw [e]; rfl))⟩⟩
end Go.Proofs.Ythonnlifgdnacaa
