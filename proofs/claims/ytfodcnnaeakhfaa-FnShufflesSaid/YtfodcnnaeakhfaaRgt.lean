/- Right orders, and where each number stands: both sides. -/
import Derived.Test.YtfodcnnaeakhfaaPrs
namespace Go.Proofs.Ytfodcnnaeakhfaa
open Go.RowKit
set_option maxHeartbeats 4000000
set_option maxRecDepth 20000
def bolO (xs : List Bool) (rest : List Value) : Obj := .cells (xs.map Value.bool ++ rest).toArray 4 (0, 0)
theorem cell_bolO {w : World} {g : Nat} {xs : List Bool} {rest : List Value} (h : w.heap[g]? = some (bolO xs rest)) (i : Nat) (hi : i < xs.length) : w.cell? ⟨g, i, none⟩ = some (.bool (xs.getD i false)) := by
  unfold World.cell?
  rw [show (⟨g, i, none⟩ : Addr).block = g from rfl, h]
  simp only [bolO]
  rw [List.getD_eq_getElem?_getD, List.getElem?_eq_getElem hi]
  simp [List.getElem?_append_left, hi]
theorem free_bolO {w : World} {g : Nat} {xs : List Bool} {rest : List Value} (h : w.heap[g]? = some (bolO xs rest)) (i : Nat) : w.frozen? ⟨g, i, none⟩ = false := by
  unfold World.frozen?
  rw [show (⟨g, i, none⟩ : Addr).block = g from rfl, h]
  simp [bolO]
theorem set_bolO {w : World} {g : Nat} {xs : List Bool} {rest : List Value} (h : w.heap[g]? = some (bolO xs rest)) (i : Nat) (x : Bool) (hi : i < xs.length) : (w.setCell ⟨g, i, none⟩ (.bool x)).heap[g]? = some (bolO (xs.set i x) rest) := by
  simp only [World.setCell, Array.getElem?_modify, if_true, h, Option.map_some, bolO]
  have e : (xs.map Value.bool ++ rest).set i (.bool x) = (xs.set i x).map Value.bool ++ rest := by
    rw [List.set_append_left _ _ (by simpa using hi), List.map_set]
  simp [e]
theorem info4 : (Try.prog.info? 4).map (fun i => (i.zero, i.size, i.bytes)) = some (some (.bool false), 1, 1) := by kernel_rfl
theorem make_bools (n : Nat) (hn : n ≤ 2097152) (w : World) : (Instr.makeSlice 30 (.int .i64 (n : Int)) (.int .i64 (n : Int))).run Try.prog w = .ok (.slice (some ⟨w.heap.size, 0, none⟩) n n) (w.alloc (bolO (List.replicate n false) [])) := by
  obtain ⟨k0, hk0, kz0, kz1, kz2⟩ := info_parts info4
  have h := run_makeSlice w (P := Try.prog) 30 4 k0 (.bool false) Try.underlying30 hk0 kz0 .i64 .i64 (n : Int) (n : Int) (by omega) (Int.le_refl _) (by rw [kz1]; omega) (by rw [kz2]; omega) (by omega)
  rw [kz1, Int.toNat_natCast, Nat.mul_one] at h
  rw [h, bolO]
  congr 3
  apply Array.ext_getElem?
  intro i
  by_cases hi : i < n
  · simp [madeCells, Value.cells, hi, Nat.mod_one]
  · simp [madeCells, Value.cells, hi]
theorem diff44 (v : Value) (ps : List Int) (n : Nat) (w : World) (hv : intsV w v ps) (hl : ps.length ≤ 1048576) (hn : n ≤ 4096) : Calls Try.prog 44 #[v, .int .i64 (n : Int)] w fun e w' => e = .returned (.bool (disB n ps (List.replicate n false))) ∧ Below w.heap.size w w' := by
  obtain ⟨A, cap, rfl, hcell⟩ := hv
  have HC := hide hcell
  have mk := make_bools n (by omega)
  have n0 : (0 : Int) ≤ (ps.length : Int) := by omega
  have n1 : (ps.length : Int) ≤ 1048576 := by omega
  clear hcell hl
  go_enter Try.func44, Try.ntmps44
  go_wp2
  clear mk
  go_loopw [12] (fun i wr => ∃ (j : Nat) (s : List Bool), j ≤ ps.length ∧ i = .int .i64 j ∧ s.length = n ∧ disB n (ps.drop j) s = disB n ps (List.replicate n false) ∧ wr.heap[w.heap.size]? = some (bolO s []) ∧ Below w.heap.size w wr) (fun i _ => ps.length - (intOf i).toNat)
  case atStart => exact ⟨0, _, by omega, rfl, by simp, rfl, heap_at _ _ _ rfl, bl_al (Below.refl _ _)⟩
  case round =>
    obtain ⟨j, s, hj, rfl, hs, hd, hrow, hbl⟩ := hrel
    by_cases hlt : j < ps.length
    · obtain ⟨b, off, hA, hbb, hcell⟩ := unhide HC (by omega)
      subst hA
      have q1 : (j : Int) < (ps.length : Int) := by omega
      have q0 : (0 : Int) ≤ (j : Int) := by omega
      have p0 : wr.cell? ⟨b, off + j, none⟩ = some (.int .i64 (ps.getD j 0)) := (cell_below hbl hbb).trans (hcell j hlt)
      rw [drop_at hlt, disB] at hd
      have HJ := hide hlt
      have HB := hide hbl
      clear hcell hlt hj hbb hbl
      generalize ps.getD j 0 = c at *
      by_cases hc0 : c < 0
      · have HF : Hid (disB n ps (List.replicate n false) = false) := hide (by rw [← hd, decide_eq_false (by omega)]; rfl)
        clear hd hrow hs
        go_wp2
        go_ret
        exact ⟨ret_bool (unhide HF).symm, unhide HB⟩
      by_cases hc1 : (n : Int) ≤ c
      · have HF : Hid (disB n ps (List.replicate n false) = false) := hide (by rw [← hd, decide_eq_false (show ¬ c < _ by omega), Bool.and_false]; rfl)
        have hc2 : 0 ≤ c := by omega
        clear hd hc0 hrow hs
        go_wp2
        go_ret
        exact ⟨ret_bool (unhide HF).symm, unhide HB⟩
      obtain ⟨m, rfl⟩ : ∃ m : Nat, c = (m : Int) := ⟨c.toNat, by omega⟩
      have m1 : (m : Int) < (n : Int) := by omega
      have m0 : (0 : Int) ≤ (m : Int) := by omega
      have p1 := cell_bolO hrow m (by omega)
      have p2 := free_bolO hrow m
      have p3 := set_bolO hrow m true (by omega)
      rw [Int.toNat_natCast, decide_eq_true m0, decide_eq_true m1] at hd
      have HS := hide (show (s.set m true).length = n by rw [List.length_set]; exact hs)
      have HP := hide p3
      clear hc0 hc1 hrow p3 hs
      generalize s.set m true = s2 at *
      generalize s.getD m false = x at *
      cases x
      · have HF : Hid (disB n (ps.drop (j + 1)) s2 = disB n ps (List.replicate n false)) := hide (by rw [← hd]; rfl)
        clear hd
        go_wp2
        go_roundw
        case rel => exact ⟨j + 1, s2, unhide HJ, by go_num, unhide HS, unhide HF, unhide HP, bl_set (unhide HB) (Nat.le_refl _)⟩
        case measure => have := unhide HJ; simp [intOf]; omega
      · have HF : Hid (disB n ps (List.replicate n false) = false) := hide (by rw [← hd]; rfl)
        clear hd
        go_wp2
        go_ret
        exact ⟨ret_bool (unhide HF).symm, unhide HB⟩
    · obtain rfl : j = ps.length := by omega
      rw [List.drop_length, disB] at hd
      have HF := hide hd.symm
      have HB := hide hbl
      clear hd hlt hbl hrow
      go_wp2
      go_ret
      exact ⟨ret_bool (unhide HF).symm, unhide HB⟩
def pmC (ps : List Int) : Int := if 4096 < ps.length then 2 else if pOK ps = true then 0 else 1
theorem pmC_cases (ps : List Int) : (4096 < ps.length ∧ pmC ps = 2) ∨ (ps.length ≤ 4096 ∧ (ps.length < 1 ∨ 16 < ps.length) ∧ pOK ps = false ∧ pmC ps = 1) ∨ (1 ≤ ps.length ∧ ps.length ≤ 16 ∧ pOK ps = disB ps.length ps (List.replicate ps.length false) ∧ pmC ps = if pOK ps = true then 0 else 1) := by
  unfold pmC
  by_cases h1 : 4096 < ps.length
  · exact .inl ⟨h1, by rw [if_pos h1]⟩
  · by_cases h2 : 1 ≤ ps.length ∧ ps.length ≤ 16
    · exact .inr (.inr ⟨h2.1, h2.2, by unfold pOK; rw [decide_eq_true h2.1, decide_eq_true h2.2]; rfl, by rw [if_neg h1]⟩)
    · have hp : pOK ps = false := by
        unfold pOK
        rw [show (decide (1 ≤ ps.length) && decide (ps.length ≤ 16)) = false by rw [Bool.eq_false_iff]; simp; omega]; rfl
      exact .inr (.inl ⟨by omega, by omega, hp, by rw [if_neg h1, hp]; rfl⟩)
theorem code31 (v : Value) (ps : List Int) (w : World) (hv : intsV w v ps) (hn : ps.length ≤ 1048576) : Calls Try.prog 31 #[v] w fun e w' => e = .returned (.int .i64 (pmC ps)) ∧ Below w.heap.size w w' := by
  have K1 := hide (long17 v ps w hv (by omega))
  have K2 := hide (fun h => diff44 v ps ps.length w hv hn h)
  obtain ⟨A, cap, rfl, _⟩ := hv
  have n0 : (0 : Int) ≤ (ps.length : Int) := by omega
  have n1 : (ps.length : Int) ≤ 1048576 := by omega
  rcases pmC_cases ps with ⟨h1, hg⟩ | ⟨h1, h2, _, hg⟩ | ⟨h1, h2, hp, hg⟩
  · rw [hg]
    rw [decide_eq_true h1] at K1
    clear h1 hn hg K2
    go_enter Try.func31, Try.ntmps31
    go_wp2_with fail
    refine (unhide K1).mono ?_
    rintro e w' ⟨rfl, hw'⟩
    have hw2 := hw'.symm
    subst hw2
    clear K1
    go_wp2
    go_ret
    exact ⟨rfl, Below.refl _ _⟩
  · rw [hg]
    rw [decide_eq_false (by omega)] at K1
    clear hg K2 hn
    rcases h2 with h2 | h2
    · have q : (ps.length : Int) < 1 := by omega
      clear h1 h2
      go_enter Try.func31, Try.ntmps31
      go_wp2_with fail
      refine (unhide K1).mono ?_
      rintro e w' ⟨rfl, hw'⟩
      have hw2 := hw'.symm
      subst hw2
      clear K1
      go_wp2
      go_ret
      exact ⟨rfl, Below.refl _ _⟩
    · have q : (16 : Int) < (ps.length : Int) := by omega
      have q' : (1 : Int) ≤ (ps.length : Int) := by omega
      clear h1 h2
      go_enter Try.func31, Try.ntmps31
      go_wp2_with fail
      refine (unhide K1).mono ?_
      rintro e w' ⟨rfl, hw'⟩
      have hw2 := hw'.symm
      subst hw2
      clear K1
      go_wp2
      go_ret
      exact ⟨rfl, Below.refl _ _⟩
  · rw [hg, hp]
    have K3 := hide (unhide K2 (by omega))
    rw [decide_eq_false (by omega)] at K1
    have q : (ps.length : Int) ≤ 16 := by omega
    have q' : (1 : Int) ≤ (ps.length : Int) := by omega
    clear hg K2 hn h1 h2 hp
    generalize disB ps.length ps (List.replicate ps.length false) = bb at *
    go_enter Try.func31, Try.ntmps31
    go_wp2_with fail
    refine (unhide K1).mono ?_
    rintro e w' ⟨rfl, hw'⟩
    have hw2 := hw'.symm
    subst hw2
    clear K1
    go_wp2_with fail
    refine (unhide K3).mono ?_
    rintro e w1 ⟨rfl, hb⟩
    have HB := hide hb
    clear K3 hb
    cases bb
    · go_wp2
      go_ret
      exact ⟨rfl, unhide HB⟩
    · go_wp2
      go_ret
      exact ⟨rfl, unhide HB⟩
theorem permOK40 (v : Value) (ps : List Int) (w : World) (hv : intsV w v ps) (hn : ps.length ≤ 4096) : Calls Try.prog 40 #[v] w fun e w' => e = .returned (.bool (pOK ps)) ∧ Below w.heap.size w w' := by
  have K1 := hide (fun W => in19 (ps.length : Int) 1 16 W)
  obtain ⟨A, cap, rfl, hcell⟩ := hv
  have HC := hide hcell
  have n0 : (0 : Int) ≤ (ps.length : Int) := by omega
  have n1 : (ps.length : Int) ≤ 4096 := by omega
  clear hcell
  rcases pmC_cases ps with ⟨h1, hg⟩ | ⟨h1, h2, hp, hg⟩ | ⟨h1, h2, hp, hg⟩
  · omega
  · rw [hp]
    rw [show (decide (1 ≤ (ps.length : Int)) && decide ((ps.length : Int) ≤ 16)) = false by rw [Bool.eq_false_iff]; simp; omega] at K1
    clear hg hp h1 h2 hn HC
    go_enter Try.func40, Try.ntmps40
    go_wp2_with fail
    refine (unhide K1 _).mono ?_
    rintro e w' ⟨rfl, hw'⟩
    have hw2 := hw'.symm
    subst hw2
    clear K1
    go_wp2
    go_ret
    exact ⟨rfl, Below.refl _ _⟩
  · rw [hp]
    rw [show (decide (1 ≤ (ps.length : Int)) && decide ((ps.length : Int) ≤ 16)) = true by simp; omega] at K1
    have q : (ps.length : Int) ≤ 16 := by omega
    have mk := make_bools ps.length (by omega)
    clear hg hp h1 h2 hn n1
    go_enter Try.func40, Try.ntmps40
    go_wp2_with fail
    refine (unhide K1 _).mono ?_
    rintro e w' ⟨rfl, hw'⟩
    have hw2 := hw'.symm
    subst hw2
    clear K1
    go_wp2
    clear mk
    go_loopw [4] (fun i wr => ∃ (j : Nat) (s : List Bool), j ≤ ps.length ∧ i = .int .i64 j ∧ s.length = ps.length ∧ disB ps.length (ps.drop j) s = disB ps.length ps (List.replicate ps.length false) ∧ wr.heap[w.heap.size]? = some (bolO s []) ∧ Below w.heap.size w wr) (fun i _ => ps.length - (intOf i).toNat)
    case atStart => exact ⟨0, _, by omega, rfl, by simp, rfl, heap_at _ _ _ rfl, bl_al (Below.refl _ _)⟩
    case round =>
      obtain ⟨j, s, hj, rfl, hs, hd, hrow, hbl⟩ := hrel
      by_cases hlt : j < ps.length
      · obtain ⟨b, off, hA, hbb, hcell⟩ := unhide HC (by omega)
        subst hA
        have q1 : (j : Int) < (ps.length : Int) := by omega
        have q0 : (0 : Int) ≤ (j : Int) := by omega
        have p0 : wr.cell? ⟨b, off + j, none⟩ = some (.int .i64 (ps.getD j 0)) := (cell_below hbl hbb).trans (hcell j hlt)
        rw [drop_at hlt, disB] at hd
        have HJ := hide hlt
        have HB := hide hbl
        clear hcell hlt hj hbb hbl
        generalize ps.getD j 0 = c at *
        have K := hide (fun W => in19 c 0 ((ps.length : Int) - 1) W)
        by_cases hcc : 0 ≤ c ∧ c < (ps.length : Int)
        · rw [show (decide (0 ≤ c) && decide (c ≤ (ps.length : Int) - 1)) = true by simp; omega] at K
          obtain ⟨m, rfl⟩ : ∃ m : Nat, c = (m : Int) := ⟨c.toNat, by omega⟩
          have m1 : (m : Int) < (ps.length : Int) := by omega
          have m0 : (0 : Int) ≤ (m : Int) := by omega
          have p1 := cell_bolO hrow m (by omega)
          have p2 := free_bolO hrow m
          have p3 := set_bolO hrow m true (by omega)
          rw [Int.toNat_natCast, decide_eq_true m0, decide_eq_true m1] at hd
          have HS := hide (show (s.set m true).length = ps.length by rw [List.length_set]; exact hs)
          have HP := hide p3
          clear hcc hrow p3 hs
          generalize s.set m true = s2 at *
          generalize s.getD m false = x at *
          cases x
          · have HF : Hid (disB ps.length (ps.drop (j + 1)) s2 = disB ps.length ps (List.replicate ps.length false)) := hide (by rw [← hd]; rfl)
            clear hd
            go_wp2_with fail
            refine (unhide K _).mono ?_
            rintro e w' ⟨rfl, hw'⟩
            have hw2 := hw'.symm
            subst hw2
            clear K
            go_wp2
            go_roundw
            case rel => exact ⟨j + 1, s2, unhide HJ, by go_num, unhide HS, unhide HF, unhide HP, bl_set (unhide HB) (Nat.le_refl _)⟩
            case measure => have := unhide HJ; simp [intOf]; omega
          · have HF : Hid (disB ps.length ps (List.replicate ps.length false) = false) := hide (by rw [← hd]; rfl)
            clear hd
            go_wp2_with fail
            refine (unhide K _).mono ?_
            rintro e w' ⟨rfl, hw'⟩
            have hw2 := hw'.symm
            subst hw2
            clear K
            go_wp2
            go_ret
            exact ⟨ret_bool (unhide HF).symm, unhide HB⟩
        · rw [show (decide (0 ≤ c) && decide (c ≤ (ps.length : Int) - 1)) = false by rw [Bool.eq_false_iff]; simp; omega] at K
          have HF : Hid (disB ps.length ps (List.replicate ps.length false) = false) := hide (by
            rw [← hd, show (decide (0 ≤ c) && decide (c < (ps.length : Int))) = false by rw [Bool.eq_false_iff]; simp; omega]; rfl)
          clear hd hrow hs hcc
          go_wp2_with fail
          refine (unhide K _).mono ?_
          rintro e w' ⟨rfl, hw'⟩
          have hw2 := hw'.symm
          subst hw2
          clear K
          go_wp2
          go_ret
          exact ⟨ret_bool (unhide HF).symm, unhide HB⟩
      · obtain rfl : j = ps.length := by omega
        rw [List.drop_length, disB] at hd
        have HF := hide hd.symm
        have HB := hide hbl
        clear hd hlt hbl hrow
        go_wp2
        go_ret
        exact ⟨ret_bool (unhide HF).symm, unhide HB⟩
end Go.Proofs.Ytfodcnnaeakhfaa
