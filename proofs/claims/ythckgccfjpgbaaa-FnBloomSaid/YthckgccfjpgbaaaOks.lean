/- Right filters, as the specification and the program find them. -/
import Derived.Test.YthckgccfjpgbaaaBlm
import Derived.Test.YthckgccfjpgbaaaPrm
namespace Go.Proofs.Ythckgccfjpgbaaa
open Go.RowKit
set_option maxHeartbeats 4000000
set_option maxRecDepth 20000
def inP (p n : Int) : Bool := decide (0 ≤ n) && decide (n < p)
def saltOK (p : Int) (s : Slt) : Bool := inP p s.1 && inP p s.2
def shapeB (p w : Int) : Bool := primeB p && (decide (1 ≤ w) && (decide (w ≤ p) && decide (w ≤ 64)))
def saltsB (p : Int) (ss : List Slt) : Bool := decide (1 ≤ ss.length) && decide (ss.length ≤ 4) && ss.all (saltOK p)
def okX (x : Blm) : Bool := shapeB x.p x.w && saltsB x.p x.s && decide ((x.b.length : Int) = x.w * (x.s.length : Int))
theorem primeB_in {p : Int} (h : primeB p = true) : 2 ≤ p ∧ p ≤ 509 := by
  unfold primeB at h
  simp only [Bool.and_eq_true, decide_eq_true_eq] at h
  exact ⟨h.1.1, h.1.2⟩
theorem shapeB_in {p w : Int} (h : shapeB p w = true) : 2 ≤ p ∧ p ≤ 509 ∧ 1 ≤ w ∧ w ≤ p ∧ w ≤ 64 := by
  unfold shapeB at h
  simp only [Bool.and_eq_true, decide_eq_true_eq] at h
  have := primeB_in h.1
  omega
theorem drop_cons {α : Type} {xs : List α} {d : α} {j : Nat} (h : j < xs.length) : xs.drop j = xs.getD j d :: xs.drop (j + 1) := by
  rw [List.drop_eq_getElem_cons h, List.getD_eq_getElem?_getD, List.getElem?_eq_getElem h]; rfl
abbrev ptr (q : Nat) : Value := .pointer (some ⟨q, 0, none⟩)
theorem below79 (q : Nat) (p wd n : Int) (a b : Value) (w : World) (hq : BC q p wd a b w) :
    Calls Try.prog 79 #[ptr q, .int .i64 n] w fun e w' => e = .returned (.bool (inP p n)) ∧ w' = w := by
  obtain ⟨_, c0, c1, c2, c3⟩ := hq
  unfold inP
  by_cases h0 : 0 ≤ n
  · rw [decide_eq_true h0, Bool.true_and]
    by_cases h1 : n < p
    · rw [decide_eq_true h1]
      go_enter Try.func79, Try.ntmps79
      go_wp2
      go_ret
      exact ⟨rfl, rfl⟩
    · rw [decide_eq_false h1]
      go_enter Try.func79, Try.ntmps79
      go_wp2
      go_ret
      exact ⟨rfl, rfl⟩
  · rw [decide_eq_false h0, Bool.false_and]
    go_enter Try.func79, Try.ntmps79
    go_wp2
    go_ret
    exact ⟨rfl, rfl⟩
theorem noSalt77 (q : Nat) (p wd : Int) (a b : Value) (x y : Int) (w : World) (hq : BC q p wd a b w) :
    Calls Try.prog 77 #[ptr q, saltV (x, y)] w fun e w' => e = .returned (.bool (!saltOK p (x, y))) ∧ Below w.heap.size w w' := by
  have B1 : Below w.heap.size w (w.alloc (.cells #[.int .i64 x, .int .i64 y] 67)) := bl_al (Below.refl _ _)
  have K1 := hide (below79 q p wd x a b _ (hq.below B1))
  have K2 := hide (below79 q p wd y a b _ (hq.below B1))
  obtain ⟨c0, c1⟩ := sc_new w x y 67
  have HB := hide B1
  clear B1 hq
  unfold saltOK
  dsimp only at *
  generalize inP p x = u at *
  generalize inP p y = v at *
  cases u
  · go_enter Try.func77, Try.ntmps77
    go_wp2_with fail
    refine (unhide K1).mono ?_
    rintro e w1 ⟨rfl, rfl⟩
    go_wp2
    go_ret
    exact ⟨rfl, unhide HB⟩
  · cases v
    all_goals
      go_enter Try.func77, Try.ntmps77
      go_wp2_with fail
      refine (unhide K1).mono ?_
      rintro e w1 ⟨rfl, rfl⟩
      go_wp2_with fail
      refine (unhide K2).mono ?_
      rintro e w1 ⟨rfl, rfl⟩
      go_wp2
      go_ret
      exact ⟨rfl, unhide HB⟩
abbrev fn77 (q : Nat) : Value := .func (.func 77) #[ptr q] #[]
theorem idx82 (v : Value) (ss : List Slt) (q : Nat) (p wd : Int) (a b : Value) (w : World) (hv : saltsV w v ss) (hn : ss.length ≤ 2097152) (hq : BC q p wd a b w) :
    Calls Try.prog 82 #[v, fn77 q] w fun e w' => ∃ z : Int, e = .returned (.int .i64 z) ∧ decide (0 ≤ z) = !ss.all (saltOK p) ∧ Below w.heap.size w w' := by
  obtain ⟨A, cap, rfl, hc⟩ := hv
  have HC := hide hc
  have HQ := hide hq
  have n0 : (0 : Int) ≤ (ss.length : Int) := by omega
  have n1 : (ss.length : Int) ≤ 2097152 := by omega
  clear hc hq
  go_enter Try.func82, Try.ntmps82
  go_wp2
  go_loopw [8] (fun i wr => ∃ j : Nat, j ≤ ss.length ∧ i = .int .i64 j ∧ (ss.drop j).all (saltOK p) = ss.all (saltOK p) ∧ Below w.heap.size w wr) (fun i _ => ss.length - (intOf i).toNat)
  case atStart => exact ⟨0, by omega, rfl, rfl, Below.refl _ _⟩
  case round =>
    obtain ⟨j, hj, rfl, hu, hb⟩ := hrel
    have HU := hide hu
    have HB := hide hb
    clear hu
    by_cases hlt : j < ss.length
    · obtain ⟨b1, off, hA, hl1, hcell⟩ := unhide HC (by omega)
      subst hA
      have q1 : (j : Int) < (ss.length : Int) := by omega
      have q0 : (0 : Int) ≤ (j : Int) := by omega
      have pc := (hcell j hlt).below hl1 hb
      have HJ := hide hlt
      have HD := hide (drop_cons (d := noA) hlt)
      have bq := (unhide HQ).below hb
      clear hcell hlt hj hb hl1
      generalize ss.getD j noA = sj at *
      obtain ⟨x, y⟩ := sj
      obtain ⟨c0, c1⟩ := pc
      dsimp only at c0 c1
      have K := hide (noSalt77 q p wd a b x y wr bq)
      clear bq
      generalize hbb : saltOK p (x, y) = bb at *
      cases bb
      · have HE : Hid (ss.all (saltOK p) = false) := hide (by rw [← unhide HU, unhide HD, List.all_cons, hbb]; rfl)
        clear HU HD hbb
        go_wp2_with fail
        refine (unhide K).mono ?_
        rintro e w1 ⟨rfl, b1⟩
        have B1 := hide (bl_st b1 (unhide HB))
        clear K b1 c0 c1
        go_wp2
        go_ret
        exact ⟨_, rfl, by rw [unhide HE]; simp, unhide B1⟩
      · have HE : Hid ((ss.drop (j + 1)).all (saltOK p) = ss.all (saltOK p)) := hide (by rw [← unhide HU, unhide HD, List.all_cons, hbb]; rfl)
        clear HU HD hbb
        go_wp2_with fail
        refine (unhide K).mono ?_
        rintro e w1 ⟨rfl, b1⟩
        have B1 := hide (bl_st b1 (unhide HB))
        clear K b1 c0 c1
        go_wp2
        go_roundw
        case rel => exact ⟨j + 1, unhide HJ, by go_num, unhide HE, unhide B1⟩
        case measure => have := unhide HJ; simp [intOf]; omega
    · obtain rfl : j = ss.length := by omega
      have HE : Hid (ss.all (saltOK p) = true) := hide (by rw [← unhide HU, List.drop_length]; rfl)
      clear hlt HU hb
      go_wp2
      go_ret
      exact ⟨_, rfl, by rw [unhide HE]; simp, unhide HB⟩
theorem has76 (v : Value) (ss : List Slt) (q : Nat) (p wd : Int) (a b : Value) (w : World) (hv : saltsV w v ss) (hn : ss.length ≤ 2097152) (hq : BC q p wd a b w) :
    Calls Try.prog 76 #[v, fn77 q] w fun e w' => e = .returned (.bool (!ss.all (saltOK p))) ∧ Below w.heap.size w w' := by
  have K := hide (idx82 v ss q p wd a b w hv hn hq)
  obtain ⟨A, cap, rfl⟩ := hv.slice
  clear hv hq
  generalize (!ss.all (saltOK p)) = bb at *
  go_enter Try.func76, Try.ntmps76
  go_wp2_with fail
  refine (unhide K).mono ?_
  rintro e w1 ⟨z, rfl, hz, b1⟩
  have B1 := hide b1
  clear K b1
  have HZ := hide hz
  cases bb
  · have hz' : z < 0 := by have := of_decide_eq_false hz; omega
    clear hz
    go_wp2
    go_ret
    exact ⟨ret_bool (by simp; omega), unhide B1⟩
  · have hz' : 0 ≤ z := of_decide_eq_true hz
    clear hz
    go_wp2
    go_ret
    exact ⟨rfl, unhide B1⟩
theorem sizes46 (q : Nat) (p wd : Int) (a b : Value) (w : World) (hq : BC q p wd a b w) :
    Calls Try.prog 46 #[ptr q] w fun e w' => e = .returned (.bool (shapeB p wd)) ∧ ∃ k, w' = w.drewN k := by
  obtain ⟨_, d0, d1, d2, d3⟩ := hq
  have c0 : ∀ k, (w.drewN k).cell? ⟨q, 0, none⟩ = some (.int .i64 p) := fun _ => d0
  have c1 : ∀ k, (w.drewN k).cell? ⟨q, 1, none⟩ = some (.int .i64 wd) := fun _ => d1
  have K := hide (fun W => prime26 p W)
  unfold shapeB
  clear d0 d1 d2 d3
  generalize primeB p = bp at *
  cases bp
  · go_enter Try.func46, Try.ntmps46
    go_wp2
    go_quiet ((go_at_call 26; refine Calls.quiet_of_same (unhide K _)))
    go_wp2
    go_ret
    exact ⟨ret_bool (by first | rfl | assumption), _, rfl⟩
  · rw [Bool.true_and]
    by_cases h1 : 1 ≤ wd
    · rw [decide_eq_true h1, Bool.true_and]
      by_cases h64 : p ≤ 64
      · by_cases h2 : wd ≤ p
        · rw [decide_eq_true h2, decide_eq_true (show wd ≤ 64 by omega)]
          go_enter Try.func46, Try.ntmps46
          go_wp2
          go_quiet ((go_at_call 26; refine Calls.quiet_of_same (unhide K _)))
          go_wp2
          go_ret
          exact ⟨ret_bool (by first | rfl | assumption), _, rfl⟩
        · rw [decide_eq_false h2, Bool.false_and]
          have h2' : decide (wd ≤ p) = false := decide_eq_false h2
          go_enter Try.func46, Try.ntmps46
          go_wp2
          go_quiet ((go_at_call 26; refine Calls.quiet_of_same (unhide K _)))
          go_wp2
          go_ret
          exact ⟨ret_bool (by first | rfl | assumption), _, rfl⟩
      · by_cases h2 : wd ≤ 64
        · rw [decide_eq_true h2, decide_eq_true (show wd ≤ p by omega)]
          have h64' : 64 < p := by omega
          clear h64
          go_enter Try.func46, Try.ntmps46
          go_wp2
          go_quiet ((go_at_call 26; refine Calls.quiet_of_same (unhide K _)))
          go_wp2
          go_ret
          exact ⟨ret_bool (by first | rfl | assumption), _, rfl⟩
        · rw [decide_eq_false h2, Bool.and_false]
          have h2' : decide (wd ≤ 64) = false := decide_eq_false h2
          have h64' : 64 < p := by omega
          clear h64
          go_enter Try.func46, Try.ntmps46
          go_wp2
          go_quiet ((go_at_call 26; refine Calls.quiet_of_same (unhide K _)))
          go_wp2
          go_ret
          exact ⟨ret_bool (by first | rfl | assumption), _, rfl⟩
    · rw [decide_eq_false h1, Bool.false_and]
      have h1' : decide ((1 : Int) ≤ wd) = false := decide_eq_false h1
      go_enter Try.func46, Try.ntmps46
      go_wp2
      go_quiet ((go_at_call 26; refine Calls.quiet_of_same (unhide K _)))
      go_wp2
      go_ret
      exact ⟨ret_bool (by first | rfl | assumption), _, rfl⟩
end Go.Proofs.Ythckgccfjpgbaaa
