/- Bytes drawn of a source: plain, PlainOf; and 'at' as a function of the bytes. -/
import Derived.Test.YtcikpcehdfnhfaaDoorByt33
namespace Go.Proofs.YtcikpcehdfnhfaaDoor
open Go.RowKit
set_option maxHeartbeats 4000000
set_option maxRecDepth 20000
theorem isB_zeros {xs : List Int} (h : isB xs) (N : Nat) : isB (xs ++ List.replicate N 0) := by
  intro x hx
  rcases List.mem_append.1 hx with h' | h'
  · exact h x h'
  · rw [List.eq_of_mem_replicate h']; decide
theorem plain21 (w : World) (p : Nat) (A : Option Addr) (n cap k : Nat) (s : Int) (hs : w.heap[p]? = some (srcO A n cap k s)) (hn : n ≤ maxLen) (hk : k < 1000) (s0 : 0 ≤ s) (s1 : s < 2147483648) (hc : codeIn w p A n) :
    Calls Tryd.prog 21 #[.pointer (some ⟨p, 0, none⟩)] w fun e w' => ∃ (v : Value) (xs : List Int), e = .returned v ∧ xs.length ≤ 140 ∧ isB xs ∧ w'.ownsRow w.heap.size 5 1 v xs.length (xs.map (Value.int .u8)) ∧ (∃ g c, v = .slice (some ⟨g, 0, none⟩) xs.length c) ∧ w.grownBy w' (some p) := by
  have hp := (Array.getElem?_eq_some_iff.1 hs).1
  have hb := hide (bytes33 w p A n cap k s hs hn hk s0 s1 hc)
  have HC := hide hc
  clear hs hc
  go_enter Tryd.func21, Tryd.ntmps21
  go_wp2_with fail
  refine (unhide hb).mono ?_
  rintro e w1 ⟨v, xs, s', k', rfl, hx, hB, hown, hv, s0', s1', hk', hsrc, hgr⟩
  have hz1 := hgr.size
  have hsrc2 : (w1.alloc (.cells #[.int .i64 0, .int .i64 0, .int .i64 30, .int .i64 64, .int .i64 100] 3)).heap[p]? = some (srcO A n cap (k' : Int) s') := by rw [Below.heap_alloc _ _ _ (by omega)]; exact hsrc
  have hg2 : w.grownBy (w1.alloc (.cells #[.int .i64 0, .int .i64 0, .int .i64 30, .int .i64 64, .int .i64 100] 3)) (some p) := grown_trans hgr (World.grownBy_alloc w1 _ none) (by simp)
  have own2 := hown.alloc (.cells #[.int .i64 0, .int .i64 0, .int .i64 30, .int .i64 64, .int .i64 100] 3)
  have hnx := hide (next_at 5 _ p A n cap k' s' hsrc2 (by omega) (by omega) hn (by omega) s0' s1' (codeIn_grown (unhide HC) hg2))
  have hrow : (w1.alloc (.cells #[.int .i64 0, .int .i64 0, .int .i64 30, .int .i64 64, .int .i64 100] 3)).heap[w1.heap.size]? = some (.cells #[.int .i64 0, .int .i64 0, .int .i64 30, .int .i64 64, .int .i64 100] 3 (0, 0)) := heap_alloc_new w1 _
  have OW := hide own2
  have G2 := hide hg2
  have HV := hide hv
  have HB := hide hB
  have HX := hide hx
  have HR := hide hrow
  have hpz : Hid (p < (w1.alloc (.cells #[.int .i64 0, .int .i64 0, .int .i64 30, .int .i64 64, .int .i64 100] 3)).heap.size) := hide (by simp; omega)
  have hne : Hid (w1.heap.size ≠ p) := hide (by omega)
  clear hown hv hsrc hgr hsrc2 hg2 own2 hB hx hrow
  go_wp2_with fail
  refine (unhide hnx).mono ?_
  rintro e w2 ⟨c, s2, d2, rfl, c0, c1, s20, s21, rfl⟩
  have ho3 := own_src (d := d2) (A := A) (n := n) (cap := cap) (a := ((k' + 1 : Nat) : Int)) (s := s2) (unhide OW) hp
  have hg3 := grown_src (d := d2) (A := A) (n := n) (cap := cap) (a := ((k' + 1 : Nat) : Int)) (s := s2) (unhide G2)
  have hr3 : (srcW (w1.alloc (.cells #[.int .i64 0, .int .i64 0, .int .i64 30, .int .i64 64, .int .i64 100] 3)) d2 p A n cap ((k' + 1 : Nat) : Int) s2).heap[w1.heap.size]? = some (.cells #[.int .i64 0, .int .i64 0, .int .i64 30, .int .i64 64, .int .i64 100] 3 (0, 0)) := by
    rw [get_src_other _ _ _ _ _ _ _ _ _ (unhide hne)]; exact unhide HR
  have hz : w.heap.size ≤ (srcW (w1.alloc (.cells #[.int .i64 0, .int .i64 0, .int .i64 30, .int .i64 64, .int .i64 100] 3)) d2 p A n cap ((k' + 1 : Nat) : Int) s2).heap.size := hg3.size
  generalize srcW (w1.alloc (.cells #[.int .i64 0, .int .i64 0, .int .i64 30, .int .i64 64, .int .i64 100] 3)) d2 p A n cap ((k' + 1 : Nat) : Int) s2 = w3 at *
  have e0 : w3.cell? ⟨w1.heap.size, 0, none⟩ = some (.int .i64 0) := by rw [Go.cell_of_row _ _ _ _ _ _ hr3]; rfl
  have e1 : w3.cell? ⟨w1.heap.size, 1, none⟩ = some (.int .i64 0) := by rw [Go.cell_of_row _ _ _ _ _ _ hr3]; rfl
  have e2 : w3.cell? ⟨w1.heap.size, 2, none⟩ = some (.int .i64 30) := by rw [Go.cell_of_row _ _ _ _ _ _ hr3]; rfl
  have e3 : w3.cell? ⟨w1.heap.size, 3, none⟩ = some (.int .i64 64) := by rw [Go.cell_of_row _ _ _ _ _ _ hr3]; rfl
  have e4 : w3.cell? ⟨w1.heap.size, 4, none⟩ = some (.int .i64 100) := by rw [Go.cell_of_row _ _ _ _ _ _ hr3]; rfl
  have O3 := hide ho3
  have G3 := hide hg3
  have HZ := hide hz
  clear ho3 hg3 hr3 hz hnx OW G2
  have main : Hid (∀ (N : Nat) (g c : Nat) (w' : World), N ≤ 100 → w'.ownsRow w.heap.size 5 1 (.slice (some ⟨g, 0, none⟩) (xs.length + N) c) (xs.length + N) ((xs ++ List.replicate N 0).map (Value.int .u8)) → w3.grownBy w' v.ownBlock →
      ∃ (v : Value) (ys : List Int), Ending.returned (.slice (some ⟨g, 0, none⟩) (xs.length + N) c) = .returned v ∧ ys.length ≤ 140 ∧ isB ys ∧ w'.ownsRow w.heap.size 5 1 v ys.length (ys.map (Value.int .u8)) ∧ (∃ g c, v = .slice (some ⟨g, 0, none⟩) ys.length c) ∧ w.grownBy w' (some p)) := hide (fun N g c w' hN ho hg => by
    refine ⟨_, xs ++ List.replicate N 0, rfl, by have := unhide HX; simp; omega, isB_zeros (unhide HB) N, ?_, ⟨g, c, by simp⟩, grown_trans (unhide G3) hg fun k hk => ((unhide O3).lt k hk).1⟩
    rw [List.length_append, List.length_replicate]
    exact ho)
  obtain rfl | rfl | rfl | rfl | rfl : c = 0 ∨ c = 1 ∨ c = 2 ∨ c = 3 ∨ c = 4 := by omega
  · go_wp2_with (at_builtin; refine wpList_append_zeros _ rfl _ _ rfl w.heap.size xs.length 0 v xs rfl (unhide O3) (unhide HV) rfl (by have := unhide HX; omega) (unhide HZ) ?_; intro g c w4 ho4 hg4)
    go_ret
    exact unhide main 0 _ _ _ (by omega) ho4 hg4
  · go_wp2_with (at_builtin; refine wpList_append_zeros _ rfl _ _ rfl w.heap.size xs.length 0 v xs rfl (unhide O3) (unhide HV) rfl (by have := unhide HX; omega) (unhide HZ) ?_; intro g c w4 ho4 hg4)
    go_ret
    exact unhide main 0 _ _ _ (by omega) ho4 hg4
  · go_wp2_with (at_builtin; refine wpList_append_zeros _ rfl _ _ rfl w.heap.size xs.length 30 v xs rfl (unhide O3) (unhide HV) rfl (by have := unhide HX; omega) (unhide HZ) ?_; intro g c w4 ho4 hg4)
    go_ret
    exact unhide main 30 _ _ _ (by omega) ho4 hg4
  · go_wp2_with (at_builtin; refine wpList_append_zeros _ rfl _ _ rfl w.heap.size xs.length 64 v xs rfl (unhide O3) (unhide HV) rfl (by have := unhide HX; omega) (unhide HZ) ?_; intro g c w4 ho4 hg4)
    go_ret
    exact unhide main 64 _ _ _ (by omega) ho4 hg4
  · go_wp2_with (at_builtin; refine wpList_append_zeros _ rfl _ _ rfl w.heap.size xs.length 100 v xs rfl (unhide O3) (unhide HV) rfl (by have := unhide HX; omega) (unhide HZ) ?_; intro g c w4 ho4 hg4)
    go_ret
    exact unhide main 100 _ _ _ (by omega) ho4 hg4
theorem plainOf7 (A : Option Addr) (n cap : Nat) (w : World) (hn : n ≤ maxLen) (hc : codeAt w A n) :
    Calls Tryd.prog 7 #[.slice A n cap] w fun e w' => ∃ (v : Value) (xs : List Int), e = .returned v ∧ xs.length ≤ 140 ∧ isB xs ∧ w'.ownsRow (w.heap.size + 1) 5 1 v xs.length (xs.map (Value.int .u8)) ∧ (∃ g c, v = .slice (some ⟨g, 0, none⟩) xs.length c) ∧ Below w.heap.size w w' ∧ w.heap.size + 1 ≤ w'.heap.size := by
  go_enter Tryd.func7, Tryd.ntmps7
  go_wp2_with fail
  refine (source_any A n cap hn w).mono ?_
  rintro e w1 ⟨rfl, rfl⟩
  have hsz : (w.alloc (srcO A n cap ((0 : Nat) : Int) ((n % 1000 : Nat) : Int))).heap.size = w.heap.size + 1 := by simp
  have hp := hide (plain21 _ w.heap.size A n cap 0 ((n % 1000 : Nat) : Int) (heap_alloc_new w _) hn (by omega) (by omega) (by omega) (codeIn_alloc hc _))
  rw [hsz] at hp
  go_wp2_with fail
  refine (unhide hp).mono ?_
  rintro e w2 ⟨v, xs, rfl, h1, h2, h3, h4, h5⟩
  have hz := h5.size
  rw [hsz] at hz
  have hb := Below.grown ((Below.refl _ w).alloc (Nat.le_refl _) _) h5 (by simp) (by simp)
  clear hsz hp h5
  go_wp2
  go_ret
  exact ⟨_, xs, rfl, h1, h2, h3, h4, hb, hz⟩
/-- the i-th choice out of N that some bytes make -/
def atN (xs : List Int) (i N : Nat) : Int := if xs.length = 0 then ((i * 7 % N : Nat) : Int) else (xs.getD (i % xs.length) 0 * 31 + xs.getD ((i + 1) % xs.length) 0 + ((i / xs.length : Nat) : Int)) % (N : Int)
theorem atN_bd (xs : List Int) (i N : Nat) (hN : 1 < N) : 0 ≤ atN xs i N ∧ atN xs i N < N := by
  unfold atN; split
  · have := Nat.mod_lt (i * 7) (show 0 < N by omega); omega
  · exact ⟨Int.emod_nonneg _ (by omega), Int.emod_lt_of_pos _ (by omega)⟩
theorem at_is (w : World) (v : Value) (xs : List Int) (i N : Nat) (hm : xs.length ≤ 1048576) (hi : i ≤ 1000) (hN : 1 < N) (hN2 : N ≤ 65536) (hB : bytesV w v xs) :
    Calls Tryd.prog 8 #[v, .int .i64 i, .int .i64 N] w fun e w' => e = .returned (.int .i64 (atN xs i N)) ∧ ∃ k, w' = w.drewN k := by
  obtain ⟨A, cap, rfl, hb, hcell⟩ := hB
  have q0 : (1 : Int) < (N : Int) := by omega
  have q1 : (N : Int) ≤ 65536 := by omega
  have q2 : (0 : Int) ≤ (i : Int) := by omega
  have q3 : (i : Int) ≤ 1000 := by omega
  have q4 : (xs.length : Int) ≤ 1048576 := by omega
  by_cases h0 : xs.length = 0
  · have e : Hid (atN xs i N = ((i * 7 % N : Nat) : Int)) := hide (by unfold atN; rw [if_pos h0])
    rw [unhide e, h0]
    clear hcell q4
    go_enter Tryd.func8, Tryd.ntmps8
    go_wp2
    go_ret
    exact ⟨by go_num, 0, rfl⟩
  · obtain ⟨b, off, rfl, _, hc⟩ := hcell (by omega)
    have r1 := Nat.mod_lt i (show 0 < xs.length by omega)
    have r2 := Nat.mod_lt (i + 1) (show 0 < xs.length by omega)
    have hc1 := hc (i % xs.length) r1
    have hc2 := hc ((i + 1) % xs.length) r2
    have t0 : ((xs.length : Int) == 0) = false := by rw [beq_eq_false_iff_ne]; omega
    have e1 : (i : Int).tmod (xs.length : Int) = ((i % xs.length : Nat) : Int) := by rw [Int.tmod_eq_emod_of_nonneg q2]; simp
    have e2 : ((i : Int) + 1).tmod (xs.length : Int) = (((i + 1) % xs.length : Nat) : Int) := by rw [Int.tmod_eq_emod_of_nonneg (by omega)]; simp
    have e3 : (i : Int).tdiv (xs.length : Int) = ((i / xs.length : Nat) : Int) := by rw [Int.tdiv_eq_ediv_of_nonneg q2]; simp
    have d1 : i / xs.length ≤ 1000 := Nat.le_trans (Nat.div_le_self _ _) hi
    have E : Hid (atN xs i N = (xs.getD (i % xs.length) 0 * 31 + xs.getD ((i + 1) % xs.length) 0 + ((i / xs.length : Nat) : Int)) % (N : Int)) := hide (by unfold atN; rw [if_neg h0])
    rw [unhide E]
    obtain ⟨c10, c11⟩ := hb.at (i % xs.length)
    obtain ⟨c20, c21⟩ := hb.at ((i + 1) % xs.length)
    generalize xs.getD (i % xs.length) 0 = y1 at *
    generalize xs.getD ((i + 1) % xs.length) 0 = y2 at *
    generalize i % xs.length = x1 at *
    generalize (i + 1) % xs.length = x2 at *
    generalize i / xs.length = x3 at *
    generalize xs.length = m at *
    have s1 : (0 : Int) ≤ (x1 : Int) := by omega
    have s2 : (x1 : Int) < (m : Int) := by omega
    have s3 : (0 : Int) ≤ (x2 : Int) := by omega
    have s4 : (x2 : Int) < (m : Int) := by omega
    have s5 : (x3 : Int) ≤ 1000 := by omega
    have s6 : (0 : Int) < (m : Int) := by omega
    clear hc hb r1 r2 h0 E hcell
    go_enter Tryd.func8, Tryd.ntmps8
    go_wp2_with fail
    go_quiet (fail)
    go_wp2
    go_ret
    exact ⟨rfl, nq, rfl⟩
end Go.Proofs.YtcikpcehdfnhfaaDoor
