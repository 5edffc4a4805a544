/- Accesses that are right, both sides. -/
import Derived.Test.YtggiijlgdpkkfaaLst
import Derived.Test.YtggiijlgdpkkfaaExm
namespace Go.Proofs.Ytggiijlgdpkkfaa
open Go.RowKit
set_option maxHeartbeats 4000000
set_option maxRecDepth 20000
def isAc (a : Acs) : Bool := decide (a.1.size = 8) && decide (a.2.size ≤ 400)
theorem allA_at {ks : List Acs} {P : Acs → Bool} (h : ks.all P = true) (j : Nat) (hj : j < ks.length) : P (ks.getD j noA) = true := by
  rw [List.getD_eq_getElem?_getD, List.getElem?_eq_getElem hj]
  exact List.all_eq_true.1 h _ (List.getElem_mem hj)
theorem allA_no {ks : List Acs} {P : Acs → Bool} (j : Nat) (hj : j < ks.length) (h : P (ks.getD j noA) = false) : ks.all P = false := by
  rw [List.all_eq_false]
  refine ⟨ks.getD j noA, ?_, by rw [h]; decide⟩
  rw [List.getD_eq_getElem?_getD, List.getElem?_eq_getElem hj]
  exact List.getElem_mem hj
theorem allA_yes {ks : List Acs} {P : Acs → Bool} (h : ∀ j, j < ks.length → P (ks.getD j noA) = true) : ks.all P = true := by
  rw [List.all_eq_true]
  intro x hx
  obtain ⟨j, hj, rfl⟩ := List.mem_iff_getElem.1 hx
  have := h j hj
  rwa [List.getD_eq_getElem?_getD, List.getElem?_eq_getElem hj] at this
theorem drop_atA {ts : List Acs} {j : Nat} (h : j < ts.length) : ts.drop j = ts.getD j noA :: ts.drop (j + 1) := by
  rw [List.getD_eq_getElem?_getD, List.getElem?_eq_getElem h, Option.getD_some]
  exact List.drop_eq_getElem_cons h
def badA : List Acs → Int → Int
  | [], _ => -1
  | x :: xs, k => if isAc x then badA xs (k + 1) else k
theorem badA_all : ∀ (xs : List Acs) (k : Int), 0 ≤ k → (badA xs k = -1 ∧ xs.all isAc = true) ∨ (k ≤ badA xs k ∧ xs.all isAc = false)
  | [], _, _ => .inl ⟨rfl, rfl⟩
  | x :: xs, k, h => by
    rw [badA, List.all_cons]
    cases hx : isAc x
    · right; exact ⟨Int.le_refl _, rfl⟩
    · rw [if_pos rfl, Bool.true_and]
      rcases badA_all xs (k + 1) (by omega) with ⟨a, b⟩ | ⟨a, b⟩
      · exact .inl ⟨a, b⟩
      · exact .inr ⟨by omega, b⟩
theorem longA59 (v : Value) (ts : List Acs) (w : World) (hv : acsV w v ts) (hn : ts.length ≤ 2097152) :
    Calls Try.prog 59 #[v] w fun e w' => e = .returned (.bool (decide (4096 < ts.length))) ∧ w' = w := by
  obtain ⟨A, cap, rfl, hc⟩ := hv
  clear hc
  have n0 : (0 : Int) ≤ (ts.length : Int) := by omega
  have n1 : (ts.length : Int) ≤ 2097152 := by omega
  go_enter Try.func59, Try.ntmps59
  go_wp2
  go_ret
  exact ⟨ret_bool (by rw [Bool.eq_iff_iff]; simp; try omega), rfl⟩
theorem too61 (s : ByteArray) (w : World) : Calls Try.prog 61 #[.string s] w fun e w' => e = .returned (.bool (!decide (s.size ≤ 400))) ∧ w' = w := by
  go_enter Try.func61, Try.ntmps61
  go_wp2
  go_ret
  exact ⟨ret_bool (by rw [Bool.eq_iff_iff]; simp; try omega), rfl⟩
theorem no40 (a : Acs) (w : World) : Calls Try.prog 40 #[acV a] w fun e w' => e = .returned (.bool (!isAc a)) ∧ Below w.heap.size w w' := by
  obtain ⟨r, t⟩ := a
  have K1 := hide (fun W => no36 r W)
  have K2 := hide (fun W => too61 t W)
  obtain ⟨c0, c1⟩ := pc_new w r t 27
  have HB := hide (show Below w.heap.size w (w.alloc (.cells #[.string r, .string t] 27)) from bl_al (Below.refl _ _))
  show Calls Try.prog 40 #[acV (r, t)] w fun e w' => e = .returned (.bool (!(decide (r.size = 8) && decide (t.size ≤ 400)))) ∧ Below w.heap.size w w'
  unfold isD at K1
  generalize decide (r.size = 8) = b1 at *
  generalize decide (t.size ≤ 400) = b2 at *
  dsimp only at *
  cases b1
  · go_enter Try.func40, Try.ntmps40
    go_wp2_with fail
    refine (unhide K1 _).mono ?_
    rintro e w' ⟨rfl, hw'⟩
    have hw2 := hw'.symm
    subst hw2
    clear hw'
    go_wp2
    go_ret
    exact ⟨rfl, unhide HB⟩
  · go_enter Try.func40, Try.ntmps40
    go_wp2_with fail
    refine (unhide K1 _).mono ?_
    rintro e w' ⟨rfl, hw'⟩
    have hw2 := hw'.symm
    subst hw2
    clear hw'
    go_wp2_with fail
    refine (unhide K2 _).mono ?_
    rintro e w' ⟨rfl, hw'⟩
    have hw2 := hw'.symm
    subst hw2
    clear hw'
    cases b2
    · go_wp2
      go_ret
      exact ⟨rfl, unhide HB⟩
    · go_wp2
      go_ret
      exact ⟨rfl, unhide HB⟩
abbrev fn40 : Value := .func (.func 40) #[] #[]
theorem idx66 (v : Value) (xs : List Acs) (w : World) (hv : acsV w v xs) (hn : xs.length ≤ 2097152) :
    Calls Try.prog 66 #[v, fn40] w fun e w' => e = .returned (.int .i64 (badA xs 0)) ∧ Below w.heap.size w w' := by
  obtain ⟨A, cap, rfl, hc⟩ := hv
  have HC := hide hc
  have n0 : (0 : Int) ≤ (xs.length : Int) := by omega
  have n1 : (xs.length : Int) ≤ 2097152 := by omega
  clear hc
  go_enter Try.func66, Try.ntmps66
  go_wp2
  go_loopw [8] (fun i wr => ∃ j : Nat, j ≤ xs.length ∧ i = .int .i64 j ∧ badA (xs.drop j) (j : Int) = badA xs 0 ∧ Below w.heap.size w wr) (fun i _ => xs.length - (intOf i).toNat)
  case atStart => exact ⟨0, by omega, rfl, rfl, Below.refl _ _⟩
  case round =>
    obtain ⟨j, hj, rfl, hu, hbl⟩ := hrel
    have HU := hide hu
    have HB := hide hbl
    clear hu
    by_cases hlt : j < xs.length
    · obtain ⟨b, off, hA, hbb, hcell⟩ := unhide HC (by omega)
      subst hA
      have q1 : (j : Int) < (xs.length : Int) := by omega
      have q0 : (0 : Int) ≤ (j : Int) := by omega
      have pc := (hcell j hlt).below hbb hbl
      have HJ := hide hlt
      have HD := hide (drop_atA hlt)
      clear hcell hlt hj hbl hbb
      generalize xs.getD j noA = x at *
      have K := hide (fun W => no40 x W)
      generalize hb : isAc x = bb at *
      obtain ⟨r, t⟩ := x
      obtain ⟨c0, c1⟩ := pc
      dsimp only at c0 c1
      cases bb
      · have HE : Hid (badA xs 0 = (j : Int)) := hide (by rw [← unhide HU, unhide HD, badA, hb]; rfl)
        clear HU HD hb
        go_wp2_with fail
        refine (unhide K _).mono ?_
        rintro e w1 ⟨rfl, b1⟩
        have B1 := hide (bl_st b1 (unhide HB))
        clear K b1 HB c0 c1
        go_wp2
        go_ret
        exact ⟨by rw [unhide HE]; rfl, unhide B1⟩
      · have HE : Hid (badA (xs.drop (j + 1)) ((j : Int) + 1) = badA xs 0) := hide (by rw [← unhide HU, unhide HD, badA, hb]; rfl)
        clear HU HD hb
        go_wp2_with fail
        refine (unhide K _).mono ?_
        rintro e w1 ⟨rfl, b1⟩
        have B1 := hide (bl_st b1 (unhide HB))
        clear K b1 HB c0 c1
        go_wp2
        go_roundw
        case rel => exact ⟨j + 1, unhide HJ, by go_num, unhide HE, unhide B1⟩
        case measure => have := unhide HJ; simp [intOf]; omega
    · obtain rfl : j = xs.length := by omega
      have HE : Hid (badA xs 0 = -1) := hide (by rw [← unhide HU, List.drop_length]; rfl)
      clear hlt HU hbl
      go_wp2
      go_ret
      exact ⟨by rw [unhide HE]; rfl, unhide HB⟩
theorem has65 (v : Value) (xs : List Acs) (w : World) (hv : acsV w v xs) (hn : xs.length ≤ 2097152) :
    Calls Try.prog 65 #[v, fn40] w fun e w' => e = .returned (.bool (!xs.all isAc)) ∧ Below w.heap.size w w' := by
  have K := hide (idx66 v xs w hv hn)
  obtain ⟨A, cap, rfl, _⟩ := hv
  have hb := badA_all xs 0 (Int.le_refl _)
  generalize badA xs 0 = k at *
  clear hn
  go_enter Try.func65, Try.ntmps65
  go_wp2_with fail
  refine (unhide K).mono ?_
  rintro e w' ⟨rfl, b1⟩
  have B1 := hide b1
  clear K b1
  rcases hb with ⟨h1, h2⟩ | ⟨h1, h2⟩
  · have HE := hide h2
    subst h1
    clear h2
    go_wp2
    go_ret
    exact ⟨ret_bool (by rw [unhide HE]; rfl), unhide B1⟩
  · have HE := hide h2
    clear h2
    go_wp2
    go_ret
    exact ⟨ret_bool (by rw [unhide HE]; simp; try omega), unhide B1⟩
def acB (ts : List Acs) : Bool := decide (ts.length ≤ 64) && ts.all isAc
theorem list60 (v : Value) (xs : List Acs) (w : World) (hv : acsV w v xs) (hn : xs.length ≤ 2097152) :
    Calls Try.prog 60 #[v, fn40] w fun e w' => e = .returned (.bool (acB xs)) ∧ Below w.heap.size w w' := by
  have K := hide (has65 v xs w hv hn)
  obtain ⟨A, cap, rfl, _⟩ := hv
  have n0 : (0 : Int) ≤ (xs.length : Int) := by omega
  have n1 : (xs.length : Int) ≤ 2097152 := by omega
  unfold acB
  by_cases h : xs.length ≤ 64
  · rw [decide_eq_true h, Bool.true_and]
    have q : (xs.length : Int) ≤ 64 := by omega
    clear h hn
    generalize xs.all isAc = bb at *
    go_enter Try.func60, Try.ntmps60
    go_wp2_with fail
    refine (unhide K).mono ?_
    rintro e w' ⟨rfl, b1⟩
    have B1 := hide b1
    clear K b1
    cases bb
    · go_wp2
      go_ret
      exact ⟨rfl, unhide B1⟩
    · go_wp2
      go_ret
      exact ⟨rfl, unhide B1⟩
  · rw [decide_eq_false h, Bool.false_and]
    have q : (64 : Int) < (xs.length : Int) := by omega
    clear h hn K
    go_enter Try.func60, Try.ntmps60
    go_wp2
    go_ret
    exact ⟨rfl, Below.refl _ _⟩
def acC (ts : List Acs) : Int := if 4096 < ts.length then 2 else if acB ts = true then 0 else 1
theorem code39 (v : Value) (xs : List Acs) (w : World) (hv : acsV w v xs) (hn : xs.length ≤ 2097152) :
    Calls Try.prog 39 #[v, fn40] w fun e w' => e = .returned (.int .i64 (acC xs)) ∧ Below w.heap.size w w' := by
  have K := hide (longA59 v xs w hv hn)
  have K2 := hide (list60 v xs w hv hn)
  obtain ⟨A, cap, rfl, _⟩ := hv
  go_enter Try.func39, Try.ntmps39
  go_wp2_with fail
  refine (unhide K).mono ?_
  rintro e w' ⟨rfl, hw'⟩
  have hw2 := hw'.symm
  subst hw2
  clear hw'
  clear K
  by_cases h : 4096 < xs.length
  · have HE : Hid (acC xs = 2) := hide (by unfold acC; rw [if_pos h])
    rw [decide_eq_true h]
    clear h hn K2
    go_wp2
    go_ret
    exact ⟨by rw [unhide HE]; rfl, Below.refl _ _⟩
  · have HE : Hid (acC xs = if acB xs = true then 0 else 1) := hide (by unfold acC; rw [if_neg h])
    rw [decide_eq_false h]
    clear h hn
    generalize acB xs = bb at *
    cases bb
    all_goals
      go_wp2_with fail
      refine (unhide K2).mono ?_
      rintro e w' ⟨rfl, b1⟩
      have B1 := hide b1
      clear K2 b1
      go_wp2
      go_ret
      exact ⟨by rw [unhide HE]; rfl, unhide B1⟩
theorem acs42 (v : Value) (xs : List Acs) (w : World) (hv : acsV w v xs) (hn : xs.length ≤ 2097152) :
    Calls Try.prog 42 #[v] w fun e w' => e = .returned (.int .i64 (acC xs)) ∧ w' = w := by
  obtain ⟨A, cap, rfl, hc⟩ := hv
  have HC := hide hc
  have n0 : (0 : Int) ≤ (xs.length : Int) := by omega
  have n1 : (xs.length : Int) ≤ 2097152 := by omega
  clear hc
  by_cases h : 4096 < xs.length
  · have HE : Hid (acC xs = 2) := hide (by unfold acC; rw [if_pos h])
    have q : (4096 : Int) < (xs.length : Int) := by omega
    clear h hn HC
    go_enter Try.func42, Try.ntmps42
    go_wp2
    go_ret
    exact ⟨by rw [unhide HE]; rfl, rfl⟩
  by_cases h2 : 64 < xs.length
  · have HE : Hid (acC xs = 1) := hide (by unfold acC acB; rw [if_neg h, decide_eq_false (by omega)]; rfl)
    have q : (64 : Int) < (xs.length : Int) := by omega
    have q2 : (xs.length : Int) ≤ 4096 := by omega
    clear h h2 hn HC n1
    go_enter Try.func42, Try.ntmps42
    go_wp2
    go_ret
    exact ⟨by rw [unhide HE]; rfl, rfl⟩
  have HD : Hid (acC xs = if xs.all isAc = true then 0 else 1) := hide (by unfold acC acB; rw [if_neg h, decide_eq_true (by omega), Bool.true_and])
  have q2 : (xs.length : Int) ≤ 64 := by omega
  clear h h2 hn n1
  go_enter Try.func42, Try.ntmps42
  go_wp2
  go_loopw [3] (fun i wr => ∃ j : Nat, j ≤ xs.length ∧ i = .int .i64 j ∧ (∀ i, i < j → isAc (xs.getD i noA) = true) ∧ wr = w) (fun i _ => xs.length - (intOf i).toNat)
  case atStart => exact ⟨0, by omega, rfl, fun k hk => absurd hk (Nat.not_lt_zero k), rfl⟩
  case round =>
    obtain ⟨j, hj, rfl, hg, hwr⟩ := hrel
    subst hwr
    by_cases hlt : j < xs.length
    · obtain ⟨b, off, hA, hbb, hcell⟩ := unhide HC (by omega)
      subst hA
      have q1 : (j : Int) < (xs.length : Int) := by omega
      have q0 : (0 : Int) ≤ (j : Int) := by omega
      have pc := hcell j hlt
      have HJ := hide hlt
      have HG := hide hg
      have HE1 : Hid (isAc (xs.getD j noA) = false → acC xs = 1) := hide (fun h => by rw [unhide HD, allA_no j hlt h]; rfl)
      clear hcell hlt hj hbb hg
      generalize hx : xs.getD j noA = x at *
      have HX := hide hx
      clear hx
      obtain ⟨r, t⟩ := x
      obtain ⟨c0, c1⟩ := pc
      dsimp only at c0 c1
      by_cases h8 : r.size = 8
      · have h9 : (r.size : Int) = 8 := by omega
        by_cases h4 : t.size ≤ 400
        · have HX2 : Hid (isAc (xs.getD j noA) = true) := hide (by rw [unhide HX]; unfold isAc; rw [decide_eq_true h8, decide_eq_true h4]; rfl)
          have h5 : (t.size : Int) ≤ 400 := by omega
          clear h8 h4 HE1
          go_wp2
          go_roundw
          case rel => exact ⟨j + 1, unhide HJ, by go_num, fun k hk => by rcases Nat.lt_succ_iff_lt_or_eq.1 hk with h | h; exact unhide HG k h; rw [h]; exact unhide HX2, by first | rfl | trivial⟩
          case measure => have := unhide HJ; simp [intOf]; omega
        · have HE : Hid (acC xs = 1) := hide (unhide HE1 (by unfold isAc; rw [decide_eq_false h4, Bool.and_false]))
          have h5 : (400 : Int) < (t.size : Int) := by omega
          clear h8 h4 HE1
          go_wp2
          go_ret
          exact ⟨by rw [unhide HE]; rfl, rfl⟩
      · have HE : Hid (acC xs = 1) := hide (unhide HE1 (by unfold isAc; rw [decide_eq_false h8, Bool.false_and]))
        have h10 : ¬ (r.size : Int) = 8 := by omega
        clear h8 HE1
        go_wp2
        try (rotate_left; (exfalso; simp_all); done)
        go_ret
        exact ⟨by rw [unhide HE]; rfl, rfl⟩
    · obtain rfl : j = xs.length := by omega
      have HE : Hid (acC xs = 0) := hide (by rw [unhide HD, allA_yes hg]; rfl)
      clear hg hlt
      go_wp2
      go_ret
      exact ⟨by rw [unhide HE]; rfl, rfl⟩
end Go.Proofs.Ytggiijlgdpkkfaa
