/- A post found, as the specification and the program find it. -/
import Derived.Test.YtgjkflhpnppkbaaBrdI
import Derived.Test.YtgjkflhpnppkbaaClo
namespace Go.Proofs.Ytgjkflhpnppkbaa
open Go.RowKit
set_option maxHeartbeats 4000000
set_option maxRecDepth 20000
def hit (ro la : Int) (p : Pst) : Bool := decide (p.1 = ro) && decide (p.2.1 = la)
def findR (ps : List Pst) (ro la : Int) : ByteArray × Int := match ps.find? (hit ro la) with
  | some p => (p.2.2, 0)
  | none => (noS, 5)
def fR (ps : List Pst) (ro la : Int) : ByteArray × Int := if 4096 < ps.length then (noS, 2) else if bOK ps = true then findR ps ro la else (noS, 1)
theorem find_at : ∀ (ps : List Pst) (ro la : Int) (i : Nat), i < ps.length → (∀ k, k < i → hit ro la (ps.getD k noP) = false) → hit ro la (ps.getD i noP) = true → ps.find? (hit ro la) = some (ps.getD i noP)
  | [], _, _, i, h, _, _ => by simp at h
  | p :: ps, ro, la, 0, _, _, hh => by
    exact List.find?_cons_of_pos (show hit ro la p = true from hh)
  | p :: ps, ro, la, i + 1, h, hk, hh => by
    rw [List.find?_cons_of_neg (by have := hk 0 (by omega); simp at this ⊢; exact this)]
    exact find_at ps ro la i (by simpa using h) (fun k hk' => hk (k + 1) (by omega)) hh
theorem find_none : ∀ (ps : List Pst) (ro la : Int), (∀ k, k < ps.length → hit ro la (ps.getD k noP) = false) → ps.find? (hit ro la) = none
  | [], _, _, _ => rfl
  | p :: ps, ro, la, hk => by
    rw [List.find?_cons_of_neg (by have := hk 0 (by simp); simp at this ⊢; exact this)]
    exact find_none ps ro la (fun k hk' => hk (k + 1) (by simpa using hk'))
theorem findR_at {ps : List Pst} {ro la : Int} {i : Nat} {p : Pst} (hi : i < ps.length) (hk : ∀ k, k < i → hit ro la (ps.getD k noP) = false) (hp : ps.getD i noP = p) (hh : hit ro la p = true) : findR ps ro la = (p.2.2, 0) := by
  unfold findR
  rw [find_at ps ro la i hi hk (by rw [hp]; exact hh), hp]
theorem findR_none {ps : List Pst} {ro la : Int} (hk : ∀ k, k < ps.length → hit ro la (ps.getD k noP) = false) : findR ps ro la = (noS, 5) := by
  unfold findR
  rw [find_none ps ro la hk]
theorem hit_all {ps : List Pst} {ro la : Int} {j : Nat} {p : Pst} (h : ∀ k, k < j → hit ro la (ps.getD k noP) = false) (hp : ps.getD j noP = p) (hj : hit ro la p = false) : ∀ k, k < j + 1 → hit ro la (ps.getD k noP) = false := fun i hi => by
  rcases Nat.lt_succ_iff_lt_or_eq.1 hi with h1 | rfl
  · exact h i h1
  · rw [hp]; exact hj
theorem okP_size {ps : List Pst} {i : Nat} {p : Pst} (h : bOK ps = true) (hi : i < ps.length) (hp : ps.getD i noP = p) : p.2.2.size = 32 := by
  unfold bOK at h
  rw [Bool.and_eq_true, List.all_eq_true] at h
  have := h.2 i (List.mem_range.2 hi)
  unfold stepOK okP at this
  rw [hp] at this
  simp only [Bool.and_eq_true, decide_eq_true_eq] at this
  exact this.1.2
theorem fi17 (v : Value) (ps : List Pst) (ro la : Int) (w : World) (hv : postsV w v ps) (hl : ps.length ≤ 2097152) :
    Calls Try.prog 17 #[v, .int .i64 ro, .int .i64 la] w fun e w' => e = .returned (.tuple #[.string (fR ps ro la).1, .int .i64 (fR ps ro la).2]) ∧ Below w.heap.size w w' := by
  have h7 := hide (bo7 v ps w hv hl)
  have HV := hide hv
  obtain ⟨A, cap, rfl, _⟩ := hv
  have n0 : (0 : Int) ≤ (ps.length : Int) := by omega
  have n1 : (ps.length : Int) ≤ 2097152 := by omega
  unfold fR
  by_cases h4 : 4096 < ps.length
  · have q : (4096 : Int) < (ps.length : Int) := by omega
    rw [if_pos h4]
    clear h4 hl
    go_enter Try.func17, Try.ntmps17
    go_wp2
    go_ret2
    exact ⟨rfl, Below.refl _ _⟩
  have q : (ps.length : Int) ≤ 4096 := by omega
  rw [if_neg h4]
  clear h4 hl
  generalize hb : bOK ps = bb at *
  cases bb
  · go_enter Try.func17, Try.ntmps17
    go_wp2_with fail
    refine (unhide h7).mono ?_
    rintro e w1 ⟨rfl, b1⟩
    go_wp2
    go_ret2
    exact ⟨rfl, b1⟩
  rw [if_pos rfl]
  clear hb
  go_enter Try.func17, Try.ntmps17
  go_wp2_with fail
  refine (unhide h7).mono ?_
  rintro e w1 ⟨rfl, b1⟩
  have HV1 := hide ((unhide HV).below b1)
  have HB1 := hide b1
  clear b1 HV h7
  obtain ⟨A', cap', ev, hc⟩ := unhide HV1
  simp only [Value.slice.injEq] at ev
  obtain ⟨rfl, _, rfl⟩ := ev
  have HC := hide hc
  clear hc
  go_wp2
  go_loopw [8] (fun i wr => ∃ j : Nat, j ≤ ps.length ∧ i = .int .i64 j ∧ (∀ k, k < j → hit ro la (ps.getD k noP) = false) ∧ wr = w1) (fun i _ => ps.length - (intOf i).toNat)
  case atStart => exact ⟨0, by omega, rfl, fun _ h => absurd h (Nat.not_lt_zero _), rfl⟩
  case round =>
    obtain ⟨j, hj, rfl, hgood, hwr⟩ := hrel
    obtain rfl := hwr.symm
    have HGD := hide hgood
    clear hgood
    by_cases hlt : j < ps.length
    · obtain ⟨b, off, hA, hbb, hcell⟩ := unhide HC (by omega)
      subst hA
      have q1 : (j : Int) < (ps.length : Int) := by omega
      have q0 : (0 : Int) ≤ (j : Int) := by omega
      have pc := hcell j hlt
      have HJ := hide hlt
      clear hcell hlt hj hbb
      generalize hp : ps.getD j noP = p at *
      obtain ⟨r, l, t⟩ := p
      have HP := hide hp
      clear hp
      obtain ⟨c0, c1, c2⟩ := pc
      dsimp only at c0 c1 c2
      by_cases hr : r = ro
      · by_cases hl : l = la
        · have HF := hide (findR_at (unhide HJ) (unhide HGD) (unhide HP) (by simp [hit, hr, hl]))
          subst hr hl
          go_wp2
          go_ret2
          exact ⟨by rw [unhide HF]; rfl, unhide HB1⟩
        · have HG := hide (hit_all (unhide HGD) (unhide HP) (show hit ro la (r, l, t) = false by simp [hit, hl]))
          subst hr
          go_wp2
          go_roundw
          case rel => exact ⟨j + 1, unhide HJ, by go_num, unhide HG, by first | rfl | trivial⟩
          case measure => have := unhide HJ; simp [intOf]; omega
      · have HG := hide (hit_all (unhide HGD) (unhide HP) (show hit ro la (r, l, t) = false by simp [hit, hr]))
        go_wp2
        go_roundw
        case rel => exact ⟨j + 1, unhide HJ, by go_num, unhide HG, by first | rfl | trivial⟩
        case measure => have := unhide HJ; simp [intOf]; omega
    · obtain rfl : j = ps.length := by omega
      have HF := hide (findR_none (unhide HGD))
      clear hlt
      go_wp2
      go_ret2
      exact ⟨by rw [unhide HF]; rfl, unhide HB1⟩
theorem fi18 (v : Value) (ps : List Pst) (ro la : Int) (w : World) (hv : postsV w v ps) (hl : ps.length ≤ 2097152) :
    Calls Try.prog 18 #[v, .int .i64 ro, .int .i64 la] w fun e w' => e = .returned (.tuple #[.string (fR ps ro la).1, .int .i64 (fR ps ro la).2]) ∧ Below w.heap.size w w' := by
  have h24 := hide (code24 v ps w hv hl)
  have HV := hide hv
  obtain ⟨A, cap, rfl, _⟩ := hv
  have n0 : (0 : Int) ≤ (ps.length : Int) := by omega
  have n1 : (ps.length : Int) ≤ 2097152 := by omega
  unfold fR
  unfold bC at h24
  by_cases h4 : 4096 < ps.length
  · rw [if_pos h4] at h24 ⊢
    clear h4 hl
    go_enter Try.func18, Try.ntmps18
    go_wp2_with fail
    refine (unhide h24).mono ?_
    rintro e w1 ⟨rfl, b1⟩
    go_wp2
    go_ret2
    exact ⟨rfl, b1⟩
  rw [if_neg h4] at h24 ⊢
  clear h4 hl
  by_cases hb : bOK ps = true
  case neg =>
    rw [if_neg hb] at h24 ⊢
    go_enter Try.func18, Try.ntmps18
    go_wp2_with fail
    refine (unhide h24).mono ?_
    rintro e w1 ⟨rfl, b1⟩
    go_wp2
    go_ret2
    exact ⟨rfl, b1⟩
  case pos =>
  rw [if_pos hb] at h24 ⊢
  have HOK := hide hb
  clear hb
  go_enter Try.func18, Try.ntmps18
  go_wp2_with fail
  refine (unhide h24).mono ?_
  rintro e w1 ⟨rfl, b1⟩
  have HV1 := hide ((unhide HV).below b1)
  have HB1 := hide b1
  clear b1 HV h24
  obtain ⟨A', cap', ev, hc⟩ := unhide HV1
  simp only [Value.slice.injEq] at ev
  obtain ⟨rfl, _, rfl⟩ := ev
  have HC := hide hc
  clear hc
  go_wp2
  go_loopw [18] (fun i wr => ∃ j : Nat, j ≤ ps.length ∧ i = .int .i64 j ∧ (∀ k, k < j → hit ro la (ps.getD k noP) = false) ∧ Below w1.heap.size w1 wr) (fun i _ => ps.length - (intOf i).toNat)
  case atStart => exact ⟨0, by omega, rfl, fun _ h => absurd h (Nat.not_lt_zero _), Below.refl _ _⟩
  case round =>
    obtain ⟨j, hj, rfl, hgood, hbl⟩ := hrel
    have HGD := hide hgood
    have HBL := hide hbl
    clear hgood hbl
    by_cases hlt : j < ps.length
    · obtain ⟨b, off, hA, hbb, hcell⟩ := unhide HC (by omega)
      subst hA
      have q1 : (j : Int) < (ps.length : Int) := by omega
      have q0 : (0 : Int) ≤ (j : Int) := by omega
      have pc := (hcell j hlt).below hbb (unhide HBL)
      have HJ := hide hlt
      have s32 := okP_size (unhide HOK) hlt rfl
      clear hcell hlt hj hbb
      generalize hp : ps.getD j noP = p at *
      obtain ⟨r, l, t⟩ := p
      have HP := hide hp
      clear hp
      obtain ⟨c0, c1, c2⟩ := pc
      dsimp only at c0 c1 c2 s32
      have HB2 := hide (show Below w1.heap.size w1 (wr.alloc (.cells #[.int .i64 r, .int .i64 l, .string t] 34)) from bl_al (unhide HBL))
      have K26 := hide (fun W => clone26 t W (by omega) (by omega))
      clear s32
      by_cases hr : r = ro
      · by_cases hl : l = la
        · have HF := hide (findR_at (unhide HJ) (unhide HGD) (unhide HP) (by simp [hit, hr, hl]))
          subst hr hl
          go_wp2_with fail
          refine (unhide K26 _).mono ?_
          rintro e w3 ⟨rfl, b3⟩
          have B3 := hide (bl_st (bl_st b3 (unhide HB2)) (unhide HB1))
          clear b3
          go_wp2
          go_ret2
          exact ⟨by rw [unhide HF]; rfl, unhide B3⟩
        · have HG := hide (hit_all (unhide HGD) (unhide HP) (show hit ro la (r, l, t) = false by simp [hit, hl]))
          subst hr
          go_wp2
          go_roundw
          case rel => exact ⟨j + 1, unhide HJ, by go_num, unhide HG, unhide HB2⟩
          case measure => have := unhide HJ; simp [intOf]; omega
      · have HG := hide (hit_all (unhide HGD) (unhide HP) (show hit ro la (r, l, t) = false by simp [hit, hr]))
        go_wp2
        go_roundw
        case rel => exact ⟨j + 1, unhide HJ, by go_num, unhide HG, unhide HB2⟩
        case measure => have := unhide HJ; simp [intOf]; omega
    · obtain rfl : j = ps.length := by omega
      have HF := hide (findR_none (unhide HGD))
      clear hlt
      go_wp2
      go_ret2
      exact ⟨by rw [unhide HF]; rfl, bl_st (unhide HBL) (unhide HB1)⟩
end Go.Proofs.Ytgjkflhpnppkbaa
