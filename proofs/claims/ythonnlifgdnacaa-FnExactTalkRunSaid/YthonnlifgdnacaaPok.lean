/- Peers that are right, both sides. -/
import Derived.Test.YthonnlifgdnacaaPer
namespace Go.Proofs.Ythonnlifgdnacaa
open Go.RowKit
set_option maxHeartbeats 4000000
set_option maxRecDepth 20000
theorem drop_atS {ts : List ByteArray} {j : Nat} (h : j < ts.length) : ts.drop j = ts.getD j noS :: ts.drop (j + 1) := by
  rw [List.getD_eq_getElem?_getD, List.getElem?_eq_getElem h, Option.getD_some]
  exact List.drop_eq_getElem_cons h
theorem all_at {ks : List ByteArray} {P : ByteArray → Bool} (h : ks.all P = true) (j : Nat) (hj : j < ks.length) : P (ks.getD j noS) = true := by
  rw [List.getD_eq_getElem?_getD, List.getElem?_eq_getElem hj]
  exact List.all_eq_true.1 h _ (List.getElem_mem hj)
theorem all_no {ks : List ByteArray} {P : ByteArray → Bool} (j : Nat) (hj : j < ks.length) (h : P (ks.getD j noS) = false) : ks.all P = false := by
  rw [List.all_eq_false]
  refine ⟨ks.getD j noS, ?_, by rw [h]; decide⟩
  rw [List.getD_eq_getElem?_getD, List.getElem?_eq_getElem hj]
  exact List.getElem_mem hj
theorem all_yes {ks : List ByteArray} {P : ByteArray → Bool} (h : ∀ j, j < ks.length → P (ks.getD j noS) = true) : ks.all P = true := by
  rw [List.all_eq_true]
  intro x hx
  obtain ⟨j, hj, rfl⟩ := List.mem_iff_getElem.1 hx
  have := h j hj
  rwa [List.getD_eq_getElem?_getD, List.getElem?_eq_getElem hj] at this
/-- the place of the first one that is not so -/
def badP (P : ByteArray → Bool) : List ByteArray → Int → Int
  | [], _ => -1
  | x :: xs, k => if P x then badP P xs (k + 1) else k
theorem badP_all (P : ByteArray → Bool) : ∀ (xs : List ByteArray) (k : Int), 0 ≤ k → (badP P xs k = -1 ∧ xs.all P = true) ∨ (k ≤ badP P xs k ∧ xs.all P = false)
  | [], _, _ => .inl ⟨rfl, rfl⟩
  | x :: xs, k, h => by
    rw [badP, List.all_cons]
    cases hx : P x
    · right; exact ⟨Int.le_refl _, rfl⟩
    · rw [if_pos rfl, Bool.true_and]
      rcases badP_all P xs (k + 1) (by omega) with ⟨a, b⟩ | ⟨a, b⟩
      · exact .inl ⟨a, b⟩
      · exact .inr ⟨by omega, b⟩
theorem no59 (s : ByteArray) (w : World) : Calls Try.prog 59 #[.string s] w fun e w' => e = .returned (.bool (!is40 s)) ∧ w' = w := by
  go_enter Try.func59, Try.ntmps59
  go_wp2
  go_ret
  exact ⟨ret_bool (by unfold is40; rw [Bool.eq_iff_iff]; simp; try omega), rfl⟩
abbrev fn59 : Value := .func (.func 59) #[] #[]
theorem idx59 (v : Value) (xs : List ByteArray) (w : World) (hv : strsV w v xs) (hn : xs.length ≤ 2097152) :
    Calls Try.prog 89 #[v, fn59] w fun e w' => e = .returned (.int .i64 (badP is40 xs 0)) ∧ w' = w := by
  obtain ⟨A, cap, rfl, hc⟩ := hv
  have HC := hide hc
  have n0 : (0 : Int) ≤ (xs.length : Int) := by omega
  have n1 : (xs.length : Int) ≤ 2097152 := by omega
  clear hc
  go_enter Try.func89, Try.ntmps89
  go_wp2
  go_loopw [8] (fun i wr => ∃ j : Nat, j ≤ xs.length ∧ i = .int .i64 j ∧ badP is40 (xs.drop j) (j : Int) = badP is40 xs 0 ∧ wr = w) (fun i _ => xs.length - (intOf i).toNat)
  case atStart => exact ⟨0, by omega, rfl, rfl, rfl⟩
  case round =>
    obtain ⟨j, hj, rfl, hu, rfl⟩ := hrel
    have HU := hide hu
    clear hu
    by_cases hlt : j < xs.length
    · obtain ⟨b, off, hA, _, hcell⟩ := unhide HC (by omega)
      subst hA
      have q1 : (j : Int) < (xs.length : Int) := by omega
      have q0 : (0 : Int) ≤ (j : Int) := by omega
      have p0 := hcell j hlt
      have HJ := hide hlt
      have HD := hide (drop_atS hlt)
      clear hcell hlt hj
      generalize xs.getD j noS = x at *
      have K := hide (fun W => no59 x W)
      generalize hb : is40 x = bb at *
      cases bb
      · have HE : Hid (badP is40 xs 0 = (j : Int)) := hide (by rw [← unhide HU, unhide HD, badP, hb]; rfl)
        clear HU HD hb
        go_wp2_with fail
        refine (unhide K _).mono ?_
        rintro e w' ⟨rfl, hw'⟩
        have hw2 := hw'.symm
        subst hw2
        clear K
        go_wp2
        go_ret
        exact ⟨by rw [unhide HE]; rfl, rfl⟩
      · have HE : Hid (badP is40 (xs.drop (j + 1)) ((j : Int) + 1) = badP is40 xs 0) := hide (by rw [← unhide HU, unhide HD, badP, hb]; rfl)
        clear HU HD hb
        go_wp2_with fail
        refine (unhide K _).mono ?_
        rintro e w' ⟨rfl, hw'⟩
        have hw2 := hw'.symm
        subst hw2
        clear K
        go_wp2
        go_roundw
        case rel => exact ⟨j + 1, unhide HJ, by go_num, unhide HE, by first | rfl | trivial⟩
        case measure => have := unhide HJ; simp [intOf]; omega
    · obtain rfl : j = xs.length := by omega
      have HE : Hid (badP is40 xs 0 = -1) := hide (by rw [← unhide HU, List.drop_length]; rfl)
      clear hlt HU
      go_wp2
      go_ret
      exact ⟨by rw [unhide HE]; rfl, rfl⟩
theorem has59 (v : Value) (xs : List ByteArray) (w : World) (hv : strsV w v xs) (hn : xs.length ≤ 2097152) :
    Calls Try.prog 81 #[v, fn59] w fun e w' => e = .returned (.bool (!xs.all is40)) ∧ w' = w := by
  have K := hide (fun W (hW : strsV W v xs) => idx59 v xs W hW hn)
  have HV := hide hv
  obtain ⟨A, cap, rfl, _⟩ := hv
  have hb := badP_all is40 xs 0 (Int.le_refl _)
  generalize badP is40 xs 0 = k at *
  clear hn
  go_enter Try.func81, Try.ntmps81
  go_wp2_with fail
  refine (unhide K _ (unhide HV)).mono ?_
  rintro e w' ⟨rfl, hw'⟩
  have hw2 := hw'.symm
  subst hw2
  clear K HV
  rcases hb with ⟨h1, h2⟩ | ⟨h1, h2⟩
  · have HE := hide h2
    subst h1
    clear h2
    go_wp2
    go_ret
    exact ⟨ret_bool (by rw [unhide HE]; rfl), rfl⟩
  · have HE := hide h2
    clear h2
    go_wp2
    go_ret
    exact ⟨ret_bool (by rw [unhide HE]; simp; try omega), rfl⟩
theorem said50 (v : Value) (xs : List ByteArray) (M : Nat) (w : World) (hv : strsV w v xs) (hn : xs.length ≤ 2097152) :
    Calls Try.prog 50 #[v, .int .i64 (M : Int)] w fun e w' => e = .returned (.bool (decide (xs.length ≤ M) && xs.all is40)) ∧ w' = w := by
  have K := hide (has59 v xs w hv hn)
  obtain ⟨A, cap, rfl, _⟩ := hv
  have n0 : (0 : Int) ≤ (xs.length : Int) := by omega
  have n1 : (xs.length : Int) ≤ 2097152 := by omega
  by_cases h : xs.length ≤ M
  · rw [decide_eq_true h, Bool.true_and]
    have q : (xs.length : Int) ≤ (M : Int) := by omega
    clear h hn
    generalize xs.all is40 = bb at *
    go_enter Try.func50, Try.ntmps50
    go_wp2_with fail
    refine (unhide K).mono ?_
    rintro e w' ⟨rfl, hw'⟩
    have hw2 := hw'.symm
    subst hw2
    clear K
    cases bb
    · go_wp2
      go_ret
      exact ⟨rfl, rfl⟩
    · go_wp2
      go_ret
      exact ⟨rfl, rfl⟩
  · rw [decide_eq_false h, Bool.false_and]
    have q : (M : Int) < (xs.length : Int) := by omega
    clear h hn K
    go_enter Try.func50, Try.ntmps50
    go_wp2
    go_ret
    exact ⟨rfl, rfl⟩
theorem all_step {xs : List ByteArray} {j : Nat} (h : ∀ k, k < j → is40 (xs.getD k noS) = true) (g : is40 (xs.getD j noS) = true) : ∀ k, k < j + 1 → is40 (xs.getD k noS) = true := by
  intro k hk
  rcases Nat.lt_or_ge k j with c | c
  · exact h k c
  · obtain rfl : k = j := by omega
    exact g
def sqB (n : Int) : Bool := decide (0 ≤ n) && decide (n ≤ 65535)
theorem seq51 (n : Int) (w : World) : Calls Try.prog 51 #[.int .i64 n] w fun e w' => e = .returned (.bool (sqB n)) ∧ w' = w := by
  unfold sqB
  by_cases h0 : 0 ≤ n
  · by_cases h1 : n ≤ 65535
    · rw [decide_eq_true h0, decide_eq_true h1]
      go_enter Try.func51, Try.ntmps51
      go_wp2
      go_ret
      exact ⟨rfl, rfl⟩
    · rw [decide_eq_true h0, decide_eq_false h1]
      have h2 : 65535 < n := by omega
      clear h1
      go_enter Try.func51, Try.ntmps51
      go_wp2
      go_ret
      exact ⟨ret_bool (by simp; try omega), rfl⟩
  · rw [decide_eq_false h0]
    have h2 : n < 0 := by omega
    clear h0
    go_enter Try.func51, Try.ntmps51
    go_wp2
    go_ret
    exact ⟨rfl, rfl⟩
theorem in56 (n lo hi : Int) (w : World) : Calls Try.prog 56 #[.int .i64 n, .int .i64 lo, .int .i64 hi] w fun e w' => e = .returned (.bool (decide (lo ≤ n) && decide (n ≤ hi))) ∧ w' = w := by
  by_cases h0 : lo ≤ n
  · by_cases h1 : n ≤ hi
    · rw [decide_eq_true h0, decide_eq_true h1]
      go_enter Try.func56, Try.ntmps56
      go_wp2
      go_ret
      exact ⟨rfl, rfl⟩
    · rw [decide_eq_true h0, decide_eq_false h1]
      have h2 : hi < n := by omega
      clear h1
      go_enter Try.func56, Try.ntmps56
      go_wp2
      go_ret
      exact ⟨ret_bool (by simp; try omega), rfl⟩
  · rw [decide_eq_false h0]
    have h2 : n < lo := by omega
    clear h0
    go_enter Try.func56, Try.ntmps56
    go_wp2
    go_ret
    exact ⟨rfl, rfl⟩
theorem ok_parts (p : Pe) : peOK p = ((decide (p.q.length ≤ 8) && p.q.all is40) && (decide (p.i.length ≤ 100) && p.i.all is40) && sqB p.s && sqB p.e) := by
  unfold peOK sqB
  generalize decide (p.q.length ≤ 8) = a
  generalize decide (p.i.length ≤ 100) = b
  generalize (decide (0 ≤ p.s) && decide (p.s ≤ 65535)) = c
  generalize (decide (0 ≤ p.e) && decide (p.e ≤ 65535)) = d
  generalize p.q.all is40 = f
  generalize p.i.all is40 = g
  cases a <;> cases b <;> cases c <;> cases d <;> cases f <;> cases g <;> rfl
theorem ok16 (v : Value) (p : Pe) (w : World) (hv : peV w v p) (hf : peFew p) :
    Calls Try.prog 16 #[v] w fun e w' => e = .returned (.bool (peOK p)) ∧ Below w.heap.size w w' := by
  rw [ok_parts]
  obtain ⟨q, i, rfl, hq, hi⟩ := hv
  obtain ⟨f1, f2⟩ := hf
  obtain ⟨xq, s, e, xi⟩ := p
  dsimp only at *
  have B1 : Below w.heap.size w (w.alloc (.cells #[q, .int .i64 s, .int .i64 e, i] 33)) := bl_al (Below.refl _ _)
  have K1 := hide (said50 q xq 8 _ (hq.below B1) (by omega))
  have K2 := hide (said50 i xi 100 _ (hi.below B1) (by omega))
  have K3 := hide (seq51 s (w.alloc (.cells #[q, .int .i64 s, .int .i64 e, i] 33)))
  have K4 := hide (seq51 e (w.alloc (.cells #[q, .int .i64 s, .int .i64 e, i] 33)))
  obtain ⟨_, c0, c1, c2, c3⟩ := pc_new w q s e i 33
  have HB := hide B1
  obtain ⟨A, ca, rfl⟩ := hq.slice
  obtain ⟨A2, cb, rfl⟩ := hi.slice
  clear B1 hq hi f1 f2
  generalize (decide (xq.length ≤ 8) && xq.all is40) = b1 at *
  generalize (decide (xi.length ≤ 100) && xi.all is40) = b2 at *
  generalize sqB s = b3 at *
  generalize sqB e = b4 at *
  go_enter Try.func16, Try.ntmps16
  go_wp2_with fail
  generalize w.alloc (.cells #[.slice A xq.length ca, .int .i64 s, .int .i64 e, .slice A2 xi.length cb] 33) = w1 at *
  refine (unhide K1).mono ?_
  rintro e1 w2 ⟨rfl, hw⟩
  have hw2 := hw.symm
  subst hw2
  clear K1
  cases b1
  · clear K2 K3 K4
    go_wp2
    go_ret
    exact ⟨rfl, unhide HB⟩
  · go_wp2_with fail
    refine (unhide K2).mono ?_
    rintro e1 w2 ⟨rfl, hw⟩
    have hw2 := hw.symm
    subst hw2
    clear K2
    cases b2
    · clear K3 K4
      go_wp2
      go_ret
      exact ⟨rfl, unhide HB⟩
    · go_wp2_with fail
      refine (unhide K3).mono ?_
      rintro e1 w2 ⟨rfl, hw⟩
      have hw2 := hw.symm
      subst hw2
      clear K3
      cases b3
      · clear K4
        go_wp2
        go_ret
        exact ⟨rfl, unhide HB⟩
      · go_wp2_with fail
        refine (unhide K4).mono ?_
        rintro e1 w2 ⟨rfl, hw⟩
        have hw2 := hw.symm
        subst hw2
        clear K4
        cases b4
        · go_wp2
          go_ret
          exact ⟨rfl, unhide HB⟩
        · go_wp2
          go_ret
          exact ⟨rfl, unhide HB⟩
theorem ok26 (v : Value) (p : Pe) (w : World) (hv : peV w v p) (hf : peFew p) :
    Calls Try.prog 26 #[v] w fun e w' => e = .returned (.bool (peOK p)) ∧ Below w.heap.size w w' := by
  obtain ⟨q, i, rfl, hq, hi⟩ := hv
  obtain ⟨f1, f2⟩ := hf
  obtain ⟨xq, s, e, xi⟩ := p
  dsimp only [peOK] at *
  have B1 : Below w.heap.size w (w.alloc (.cells #[q, .int .i64 s, .int .i64 e, i] 33)) := bl_al (Below.refl _ _)
  have K3 := hide (in56 s 0 65535 (w.alloc (.cells #[q, .int .i64 s, .int .i64 e, i] 33)))
  have K4 := hide (in56 e 0 65535 (w.alloc (.cells #[q, .int .i64 s, .int .i64 e, i] 33)))
  obtain ⟨_, c0, c1, c2, c3⟩ := pc_new w q s e i 33
  have HB := hide B1
  have HQ := hide (hq.below B1)
  have HI := hide (hi.below B1)
  obtain ⟨A, ca, rfl⟩ := hq.slice
  obtain ⟨A2, cb, rfl⟩ := hi.slice
  have n0 : (0 : Int) ≤ (xq.length : Int) := by omega
  have m0 : (0 : Int) ≤ (xi.length : Int) := by omega
  have n1 : (xq.length : Int) ≤ 1048576 := by omega
  have m1 : (xi.length : Int) ≤ 1048576 := by omega
  clear B1 hq hi
  generalize (decide (0 ≤ s) && decide (s ≤ 65535)) = b3 at *
  generalize (decide (0 ≤ e) && decide (e ≤ 65535)) = b4 at *
  by_cases g1 : xq.length ≤ 8
  · rw [decide_eq_true g1, Bool.true_and]
    have g1' : (xq.length : Int) ≤ 8 := by omega
    by_cases g2 : xi.length ≤ 100
    · rw [decide_eq_true g2, Bool.true_and]
      have g2' : (xi.length : Int) ≤ 100 := by omega
      have F := hide (show xq.length ≤ 8 ∧ xi.length ≤ 100 from ⟨g1, g2⟩)
      clear g1 g2 f1 f2
      go_enter Try.func26, Try.ntmps26
      go_wp2_with fail
      generalize w.alloc (.cells #[.slice A xq.length ca, .int .i64 s, .int .i64 e, .slice A2 xi.length cb] 33) = w1 at *
      refine (unhide K3).mono ?_
      rintro e1 w2 ⟨rfl, hw⟩
      have hw2 := hw.symm
      subst hw2
      clear K3
      cases b3
      · clear K4
        go_wp2
        go_ret
        exact ⟨rfl, unhide HB⟩
      go_wp2_with fail
      refine (unhide K4).mono ?_
      rintro e1 w2 ⟨rfl, hw⟩
      have hw2 := hw.symm
      subst hw2
      clear K4
      cases b4
      · go_wp2
        go_ret
        exact ⟨rfl, unhide HB⟩
      go_wp2
      go_loopw [3] (fun t wr => ∃ j : Nat, j ≤ xq.length ∧ t = .int .i64 j ∧ (∀ k, k < j → is40 (xq.getD k noS) = true) ∧ wr = w1) (fun t _ => xq.length - (intOf t).toNat)
      case atStart => exact ⟨0, by omega, rfl, fun k h => by omega, rfl⟩
      case round =>
        obtain ⟨j, hj, rfl, hall, hwr⟩ := hrel
        have hwr2 := hwr.symm
        subst hwr2
        have HALL := hide hall
        clear hall
        by_cases hlt : j < xq.length
        · obtain ⟨A0, cap0, hA0, hcl⟩ := unhide HQ
          obtain ⟨bl, off, hA, _, hcell⟩ := hcl (by omega)
          subst hA
          obtain ⟨rfl, rfl⟩ : A = some ⟨bl, off, none⟩ ∧ ca = cap0 := by
            simp only [Value.slice.injEq] at hA0
            exact ⟨hA0.1, hA0.2.2⟩
          have q1 : (j : Int) < (xq.length : Int) := by omega
          have q0 : (0 : Int) ≤ (j : Int) := by omega
          have p0 := hcell j hlt
          have HJ := hide hlt
          have HX := hide (show is40 (xq.getD j noS) = decide ((xq.getD j noS).size ≤ 40) from rfl)
          clear hcell hcl hA0 hlt hj
          obtain ⟨x, hgx⟩ : ∃ x, x = xq.getD j noS := ⟨_, rfl⟩
          rw [← hgx] at p0 HX
          have HG := hide hgx.symm
          clear hgx
          by_cases hx : x.size ≤ 40
          · have hx' : (x.size : Int) ≤ 40 := by omega
            have HX' := hide (show is40 x = true by rw [unhide HX]; exact decide_eq_true hx)
            clear hx
            go_wp2
            go_roundw
            case rel => exact ⟨j + 1, unhide HJ, by go_num, fun k hk => all_step (unhide HALL) (by rw [unhide HG]; exact unhide HX') k hk, by first | rfl | trivial⟩
            case measure => have := unhide HJ; simp [intOf]; omega
          · have hx' : (40 : Int) < (x.size : Int) := by omega
            have HX' := hide (show is40 x = false by rw [unhide HX]; exact decide_eq_false hx)
            clear hx
            go_wp2
            go_ret
            exact ⟨ret_bool (by rw [all_no (P := is40) (ks := xq) j (unhide HJ) (by rw [unhide HG]; exact unhide HX')]; rfl), unhide HB⟩
        · obtain rfl : j = xq.length := by omega
          have HE := hide (all_yes (P := is40) (ks := xq) (unhide HALL))
          clear hlt HALL hj
          have HEQ := HE
          clear HE
          go_wp2
          go_loopw [4] (fun t wr => ∃ j : Nat, j ≤ xi.length ∧ t = .int .i64 j ∧ (∀ k, k < j → is40 (xi.getD k noS) = true) ∧ wr = w1) (fun t _ => xi.length - (intOf t).toNat)
          case atStart => exact ⟨0, by omega, rfl, fun k h => by omega, rfl⟩
          case round =>
            obtain ⟨j, hj, rfl, hall, hwr⟩ := hrel
            have hwr2 := hwr.symm
            subst hwr2
            have HALL := hide hall
            clear hall
            by_cases hlt : j < xi.length
            · obtain ⟨A0, cap0, hA0, hcl⟩ := unhide HI
              obtain ⟨bl, off, hA, _, hcell⟩ := hcl (by omega)
              subst hA
              obtain ⟨rfl, rfl⟩ : A2 = some ⟨bl, off, none⟩ ∧ cb = cap0 := by
                simp only [Value.slice.injEq] at hA0
                exact ⟨hA0.1, hA0.2.2⟩
              have q1 : (j : Int) < (xi.length : Int) := by omega
              have q0 : (0 : Int) ≤ (j : Int) := by omega
              have p0 := hcell j hlt
              have HJ := hide hlt
              have HX := hide (show is40 (xi.getD j noS) = decide ((xi.getD j noS).size ≤ 40) from rfl)
              clear hcell hcl hA0 hlt hj
              obtain ⟨x, hgx⟩ : ∃ x, x = xi.getD j noS := ⟨_, rfl⟩
              rw [← hgx] at p0 HX
              have HG := hide hgx.symm
              clear hgx
              by_cases hx : x.size ≤ 40
              · have hx' : (x.size : Int) ≤ 40 := by omega
                have HX' := hide (show is40 x = true by rw [unhide HX]; exact decide_eq_true hx)
                clear hx
                go_wp2
                go_roundw
                case rel => exact ⟨j + 1, unhide HJ, by go_num, fun k hk => all_step (unhide HALL) (by rw [unhide HG]; exact unhide HX') k hk, by first | rfl | trivial⟩
                case measure => have := unhide HJ; simp [intOf]; omega
              · have hx' : (40 : Int) < (x.size : Int) := by omega
                have HX' := hide (show is40 x = false by rw [unhide HX]; exact decide_eq_false hx)
                clear hx
                go_wp2
                go_ret
                exact ⟨ret_bool (by rw [all_no (P := is40) (ks := xi) j (unhide HJ) (by rw [unhide HG]; exact unhide HX'), Bool.and_false]), unhide HB⟩
            · obtain rfl : j = xi.length := by omega
              have HE := hide (all_yes (P := is40) (ks := xi) (unhide HALL))
              clear hlt HALL hj
              go_wp2
              go_ret
              exact ⟨ret_bool (by rw [unhide HEQ, unhide HE]; rfl), unhide HB⟩
    · rw [decide_eq_false g2, Bool.false_and, Bool.false_and, Bool.false_and, Bool.false_and]
      have g2' : (100 : Int) < (xi.length : Int) := by omega
      clear g1 g2 f1 f2 K3 K4
      go_enter Try.func26, Try.ntmps26
      go_wp2
      go_ret
      exact ⟨rfl, unhide HB⟩
  · rw [decide_eq_false g1, Bool.false_and, Bool.false_and, Bool.false_and, Bool.false_and, Bool.false_and]
    have g1' : (8 : Int) < (xq.length : Int) := by omega
    clear g1 f1 f2 K3 K4
    go_enter Try.func26, Try.ntmps26
    go_wp2
    go_ret
    exact ⟨rfl, unhide HB⟩
end Go.Proofs.Ythonnlifgdnacaa
