/- Whether forms and batches are right: the program's side. -/
import Derived.Test.YtecgfkfifocbaaaBls
namespace Go.Proofs.Ytecgfkfifocbaaa
open Go.RowKit
set_option maxHeartbeats 4000000
set_option maxRecDepth 20000
/-- the place of the first list that is not right -/
def badL : List (List ByteArray) → Int → Int
  | [], _ => -1
  | x :: xs, k => if itB x then badL xs (k + 1) else k
theorem badL_all : ∀ (xs : List (List ByteArray)) (k : Int), 0 ≤ k → (badL xs k = -1 ∧ xs.all itB = true) ∨ (k ≤ badL xs k ∧ xs.all itB = false)
  | [], _, _ => .inl ⟨rfl, rfl⟩
  | x :: xs, k, h => by
    rw [badL, List.all_cons]
    cases hx : itB x
    · right; exact ⟨Int.le_refl _, rfl⟩
    · rw [if_pos rfl, Bool.true_and]
      rcases badL_all xs (k + 1) (by omega) with ⟨a, b⟩ | ⟨a, b⟩
      · exact .inl ⟨a, b⟩
      · exact .inr ⟨by omega, b⟩
theorem drop_atL {ts : List (List ByteArray)} {j : Nat} (h : j < ts.length) : ts.drop j = ts.getD j [] :: ts.drop (j + 1) := by
  rw [List.getD_eq_getElem?_getD, List.getElem?_eq_getElem h, Option.getD_some]
  exact List.drop_eq_getElem_cons h
theorem long35 (v : Value) (xss : List (List ByteArray)) (w : World) (hv : lssV w v xss) (hn : xss.length ≤ 2097152) :
    Calls Try.prog 35 #[v] w fun e w' => e = .returned (.bool (decide (4096 < xss.length))) ∧ w' = w := by
  obtain ⟨A, cap, rfl, hc⟩ := hv
  clear hc
  have n0 : (0 : Int) ≤ (xss.length : Int) := by omega
  have n1 : (xss.length : Int) ≤ 2097152 := by omega
  go_enter Try.func35, Try.ntmps35
  go_wp2
  go_ret
  exact ⟨ret_bool (by rw [Bool.eq_iff_iff]; simp; try omega), rfl⟩
theorem no38 (v : Value) (xs : List ByteArray) (w : World) (hv : strsV w v xs) (hn : xs.length ≤ 2097152) :
    Calls Try.prog 38 #[v] w fun e w' => e = .returned (.bool (!itB xs)) ∧ w' = w := by
  have K := hide (items36 v xs w hv hn)
  obtain ⟨A, cap, rfl, _⟩ := hv
  clear hn
  generalize itB xs = bb at *
  go_enter Try.func38, Try.ntmps38
  go_wp2_with fail
  refine (unhide K).mono ?_
  rintro e w' ⟨rfl, hw'⟩
  have hw2 := hw'.symm
  subst hw2
  clear K
  cases bb
  all_goals
    go_wp2
    go_ret
    exact ⟨rfl, rfl⟩
abbrev fn38 : Value := .func (.func 38) #[] #[]
theorem idx43 (v : Value) (xss : List (List ByteArray)) (w : World) (hv : lssV w v xss) (hf : fewL xss) :
    Calls Try.prog 43 #[v, fn38] w fun e w' => e = .returned (.int .i64 (badL xss 0)) ∧ w' = w := by
  obtain ⟨A, cap, rfl, hc⟩ := hv
  have HC := hide hc
  have HF := hide hf.2
  have hn := hf.1
  have n0 : (0 : Int) ≤ (xss.length : Int) := by omega
  have n1 : (xss.length : Int) ≤ 2097152 := by omega
  clear hc hf hn
  go_enter Try.func43, Try.ntmps43
  go_wp2
  go_loopw [8] (fun i wr => ∃ j : Nat, j ≤ xss.length ∧ i = .int .i64 j ∧ badL (xss.drop j) (j : Int) = badL xss 0 ∧ wr = w) (fun i _ => xss.length - (intOf i).toNat)
  case atStart => exact ⟨0, by omega, rfl, rfl, rfl⟩
  case round =>
    obtain ⟨j, hj, rfl, hu, rfl⟩ := hrel
    have HU := hide hu
    clear hu
    by_cases hlt : j < xss.length
    · obtain ⟨b, off, hA, _, hcell⟩ := unhide HC (by omega)
      subst hA
      have q1 : (j : Int) < (xss.length : Int) := by omega
      have q0 : (0 : Int) ≤ (j : Int) := by omega
      obtain ⟨u, p0, pu⟩ := hcell j hlt
      have K := hide (no38 u (xss.getD j []) wr pu (by have := unhide HF j hlt; omega))
      obtain ⟨Au, cu, rfl, _⟩ := pu
      have HJ := hide hlt
      have HD := hide (drop_atL hlt)
      clear hcell hlt hj
      generalize xss.getD j [] = x at *
      generalize hb : itB x = bb at *
      cases bb
      · have HE : Hid (badL xss 0 = (j : Int)) := hide (by rw [← unhide HU, unhide HD, badL, hb]; rfl)
        clear HU HD hb
        go_wp2_with fail
        refine (unhide K).mono ?_
        rintro e w' ⟨rfl, hw'⟩
        have hw2 := hw'.symm
        subst hw2
        clear K
        go_wp2
        go_ret
        exact ⟨by rw [unhide HE]; rfl, rfl⟩
      · have HE : Hid (badL (xss.drop (j + 1)) ((j : Int) + 1) = badL xss 0) := hide (by rw [← unhide HU, unhide HD, badL, hb]; rfl)
        clear HU HD hb
        go_wp2_with fail
        refine (unhide K).mono ?_
        rintro e w' ⟨rfl, hw'⟩
        have hw2 := hw'.symm
        subst hw2
        clear K
        go_wp2
        go_roundw
        case rel => exact ⟨j + 1, unhide HJ, by go_num, unhide HE, by first | rfl | trivial⟩
        case measure => have := unhide HJ; simp [intOf]; omega
    · obtain rfl : j = xss.length := by omega
      have HE : Hid (badL xss 0 = -1) := hide (by rw [← unhide HU, List.drop_length]; rfl)
      clear hlt HU
      go_wp2
      go_ret
      exact ⟨by rw [unhide HE]; rfl, rfl⟩
theorem has37 (v : Value) (xss : List (List ByteArray)) (w : World) (hv : lssV w v xss) (hf : fewL xss) :
    Calls Try.prog 37 #[v, fn38] w fun e w' => e = .returned (.bool (!xss.all itB)) ∧ w' = w := by
  have K := hide (idx43 v xss w hv hf)
  obtain ⟨A, cap, rfl, _⟩ := hv
  have hb := badL_all xss 0 (Int.le_refl _)
  generalize badL xss 0 = k at *
  clear hf
  go_enter Try.func37, Try.ntmps37
  go_wp2_with fail
  refine (unhide K).mono ?_
  rintro e w' ⟨rfl, hw'⟩
  have hw2 := hw'.symm
  subst hw2
  clear K
  rcases hb with ⟨h1, h2⟩ | ⟨h1, h2⟩
  · have HE := hide h2
    subst h1
    clear h2
    go_wp2
    go_ret
    exact ⟨ret_bool (by rw [unhide HE]; rfl), rfl⟩
  · have HE := hide h2
    clear h2
    go_wp2
    go_ret
    exact ⟨ret_bool (by rw [unhide HE]; simp; try omega), rfl⟩
theorem code25 (v vb : Value) (ts : List ByteArray) (xss : List (List ByteArray)) (w : World) (hv : strsV w v ts) (hb : lssV w vb xss) (hn : ts.length ≤ 1048576) (hf : fewL xss) :
    Calls Try.prog 25 #[v, vb] w fun e w' => e = .returned (.int .i64 (bC ts xss)) ∧ w' = w := by
  have K1 := hide (long34 v ts w hv (by omega))
  have K2 := hide (long35 vb xss w hb (by have := hf.1; omega))
  have K3 := hide (items36 v ts w hv (by omega))
  have K4 := hide (has37 vb xss w hb hf)
  obtain ⟨A, ca, rfl, hc⟩ := hv
  obtain ⟨A2, cb, rfl, hd⟩ := hb
  have hm := hf.1
  have n0 : (0 : Int) ≤ (ts.length : Int) := by omega
  have n1 : (ts.length : Int) ≤ 1048576 := by omega
  have m0 : (0 : Int) ≤ (xss.length : Int) := by omega
  have m1 : (xss.length : Int) ≤ 1048576 := by omega
  have HC : Hid (bC ts xss = if 4096 < ts.length ∨ 4096 < xss.length then 2 else if bOK ts xss = true then 0 else 1) := hide rfl
  clear hc hd hf hm hn
  generalize bC ts xss = C at *
  by_cases h1 : 4096 < ts.length
  · have HE : Hid (C = 2) := hide (by rw [unhide HC, if_pos (.inl h1)])
    rw [decide_eq_true h1] at K1
    clear h1 K2 K3 K4 HC
    go_enter Try.func25, Try.ntmps25
    go_wp2_with fail
    refine (unhide K1).mono ?_
    rintro e w' ⟨rfl, hw'⟩
    have hw2 := hw'.symm
    subst hw2
    clear K1
    go_wp2
    go_ret
    exact ⟨by rw [unhide HE]; rfl, rfl⟩
  rw [decide_eq_false h1] at K1
  go_enter Try.func25, Try.ntmps25
  go_wp2_with fail
  refine (unhide K1).mono ?_
  rintro e w' ⟨rfl, hw'⟩
  have hw2 := hw'.symm
  subst hw2
  clear K1
  go_wp2_with fail
  refine (unhide K2).mono ?_
  rintro e w' ⟨rfl, hw'⟩
  have hw2 := hw'.symm
  subst hw2
  clear K2
  by_cases h2 : 4096 < xss.length
  · have HE : Hid (C = 2) := hide (by rw [unhide HC, if_pos (.inr h2)])
    rw [decide_eq_true h2]
    clear h1 h2 K3 K4 HC
    go_wp2
    go_ret
    exact ⟨by rw [unhide HE]; rfl, rfl⟩
  have HC2 : Hid (C = if bOK ts xss = true then 0 else 1) := hide (by rw [unhide HC, if_neg (by omega)])
  rw [decide_eq_false h2]
  have q1 : (ts.length : Int) ≤ 4096 := by omega
  have q2 : (xss.length : Int) ≤ 4096 := by omega
  clear h1 h2 n1 m1 HC
  by_cases h3 : ts.length = xss.length
  · have h3' : (ts.length : Int) = (xss.length : Int) := by omega
    have e3 : ((ts.length : Int) != (xss.length : Int)) = false := by simp; omega
    by_cases h5 : 5 < ts.length
    · have q5 : (5 : Int) < (ts.length : Int) := by omega
      have HE : Hid (C = 1) := hide (by rw [unhide HC2, bOK_one (by omega)]; rfl)
      clear h3 h5 K3 K4 HC2 h3'
      go_wp2
      go_ret
      exact ⟨by rw [unhide HE]; rfl, rfl⟩
    have q5 : (ts.length : Int) ≤ 5 := by omega
    have HL := hide h3
    have H5 := hide (show xss.length ≤ 5 by omega)
    clear h3 h5 h3'
    generalize hi : itB ts = bb at *
    go_wp2_with fail
    refine (unhide K3).mono ?_
    rintro e w' ⟨rfl, hw'⟩
    have hw2 := hw'.symm
    subst hw2
    clear K3
    cases bb
    · have HE : Hid (C = 1) := hide (by rw [unhide HC2, bOK_three hi]; rfl)
      clear K4 HC2 hi
      go_wp2
      go_ret
      exact ⟨by rw [unhide HE]; rfl, rfl⟩
    · generalize ha : xss.all itB = aa at *
      go_wp2_with fail
      refine (unhide K4).mono ?_
      rintro e w' ⟨rfl, hw'⟩
      have hw2 := hw'.symm
      subst hw2
      clear K4
      cases aa
      · have HE : Hid (C = 1) := hide (by rw [unhide HC2, bOK_four ha]; rfl)
        clear HC2 hi ha
        go_wp2
        go_ret
        exact ⟨by rw [unhide HE]; rfl, rfl⟩
      · have HE : Hid (C = 0) := hide (by rw [unhide HC2, bOK_all (unhide H5) (unhide HL) hi ha]; rfl)
        clear HC2 hi ha
        go_wp2
        go_ret
        exact ⟨by rw [unhide HE]; rfl, rfl⟩
  · have e3 : ((ts.length : Int) != (xss.length : Int)) = true := by simp; omega
    have HE : Hid (C = 1) := hide (by rw [unhide HC2, bOK_two h3]; rfl)
    clear h3 K3 K4 HC2
    go_wp2
    go_ret
    exact ⟨by rw [unhide HE]; rfl, rfl⟩
theorem hand26 (v : Value) (w : World) (hv : ∃ A n c, v = .slice A n c) :
    Calls Try.prog 26 #[v] w fun e w' => e = .returned (.func (.func 39) #[] #[.pointer (some ⟨w.heap.size, 0, none⟩)]) ∧ w' = w.alloc (.cells #[v] 22) := by
  obtain ⟨A, n, c, rfl⟩ := hv
  go_enter Try.func26, Try.ntmps26
  go_wp2
  go_ret
  exact ⟨rfl, rfl⟩
end Go.Proofs.Ytecgfkfifocbaaa
