/- Counts one behind the other: how they part, and how they are moved along. -/
import Derived.Test.YtafjodaeckiedaaCnt
namespace Go.Proofs.Ytafjodaeckiedaa
set_option maxHeartbeats 4000000
theorem gF_shift {top a b : Int} (j : Int) : ∀ (xs : List Int) (k n : Int), gF top a b xs (j + k) n = ((gF top a b xs k n).1, j + (gF top a b xs k n).2.1, (gF top a b xs k n).2.2)
  | [], k, n => by simp [gF]
  | x :: xs, k, n => by
    rw [gF, gF]
    split
    · split
      · simp; omega
      · rw [show j + k + 1 = j + (k + 1) by omega]; exact gF_shift j xs (k + 1) (n + 1)
    · rw [show j + k + 1 = j + (k + 1) by omega]; exact gF_shift j xs (k + 1) n
theorem cF_shift {top a b : Int} (j : Int) : ∀ (m : Nat) (xs : List Int) (k : Int), cF top a b m xs (j + k) = (cF top a b m xs k).map (fun r => (r.1, j + r.2))
  | 0, xs, k => rfl
  | m + 1, xs, k => by
    rw [cF, cF, gF_shift j xs k 0]
    dsimp only
    split
    · rw [show j + (gF top a b xs k 0).2.1 - (j + k) = (gF top a b xs k 0).2.1 - k by omega, cF_shift j m, Option.map_map, Option.map_map]
      rfl
    · rfl
/-- what counts are: as many as were asked for, none below nought, taken within the words -/
theorem cF_bd {top a b : Int} : ∀ (m : Nat) (xs : List Int) (k : Int) (ds : List Int) (t : Int), cF top a b m xs k = some (ds, t) → ds.length = m ∧ k ≤ t ∧ t ≤ k + xs.length ∧ ∀ d ∈ ds, 0 ≤ d ∧ d ≤ xs.length
  | 0, xs, k, ds, t, h => by
    rw [cF] at h
    obtain ⟨rfl, rfl⟩ := Prod.mk.inj (Option.some.inj h)
    exact ⟨rfl, by omega, by omega, fun d hd => by cases hd⟩
  | m + 1, xs, k, ds, t, h => by
    obtain ⟨g, n, ok, e, h1, h2, h3⟩ := gF_bd (top := top) (a := a) (b := b) xs k 0
    rw [cF, e] at h
    dsimp only at h
    cases ok
    · cases h
    · rw [if_pos rfl] at h
      obtain ⟨⟨r1, r2⟩, hr, he⟩ := Option.map_eq_some_iff.1 h
      obtain ⟨rfl, rfl⟩ := Prod.mk.inj he
      obtain ⟨i1, i2, i3, i4⟩ := cF_bd m _ _ _ _ hr
      rw [show (k + (n : Int) - k).toNat = n by omega, List.length_drop] at i3 i4
      have := h2 rfl
      refine ⟨by simp [i1], by omega, by omega, fun d hd => ?_⟩
      rcases List.mem_cons.1 hd with rfl | hd
      · omega
      · have := i4 d hd; omega
theorem cF_one {top a b : Int} (xs : List Int) : cF top a b 1 xs 0 = if (gF top a b xs 0 0).2.2 then some ([(gF top a b xs 0 0).1], (gF top a b xs 0 0).2.1) else none := by
  rw [cF]
  split <;> rfl
/-- two counts by two counts of one -/
theorem cF_two {top a b : Int} (xs : List Int) : ∃ (g : Int) (n : Nat) (ok : Bool), gF top a b xs 0 0 = (g, (n : Int), ok) ∧ n ≤ xs.length ∧ 0 ≤ g ∧ g ≤ xs.length ∧ (ok = false → cF top a b 2 xs 0 = none) ∧
    (ok = true → ∃ (h : Int) (m : Nat) (ok' : Bool), gF top a b (xs.drop n) 0 0 = (h, (m : Int), ok') ∧ m ≤ (xs.drop n).length ∧ 0 ≤ h ∧ h ≤ xs.length ∧ (ok' = false → cF top a b 2 xs 0 = none) ∧
      (ok' = true → cF top a b 2 xs 0 = some ([g, h], (n : Int) + (m : Int)))) := by
  obtain ⟨g, n, ok, e, h1, h2, h3⟩ := gF_bd (top := top) (a := a) (b := b) xs 0 0
  rw [Int.zero_add] at e
  refine ⟨g, n, ok, e, h1, ?_, ?_, fun o => ?_, fun o => ?_⟩
  · cases ok
    · rw [h3 rfl]; exact Int.le_refl _
    · exact (h2 rfl).1
  · cases ok
    · rw [h3 rfl]; omega
    · have := h2 rfl; omega
  · subst o; rw [cF, e]; rfl
  · subst o
    obtain ⟨h, m, ok', e', i1, i2, i3⟩ := gF_bd (top := top) (a := a) (b := b) (xs.drop n) 0 0
    rw [Int.zero_add] at e'
    have es := gF_shift (top := top) (a := a) (b := b) (n : Int) (xs.drop n) 0 0
    rw [Int.add_zero, e'] at es
    dsimp only at es
    have ld : (xs.drop n).length ≤ xs.length := by rw [List.length_drop]; omega
    refine ⟨h, m, ok', e', i1, ?_, ?_, fun o' => ?_, fun o' => ?_⟩
    · cases ok'
      · rw [i3 rfl]; exact Int.le_refl _
      · exact (i2 rfl).1
    · cases ok'
      · rw [i3 rfl]; omega
      · have := i2 rfl; omega
    · subst o'; rw [cF, e]; dsimp only; rw [if_pos rfl, show ((n : Int) - 0).toNat = n by omega, cF, es]; rfl
    · subst o'; rw [cF, e]; dsimp only; rw [if_pos rfl, show ((n : Int) - 0).toNat = n by omega, cF, es]; rfl
theorem cF_four {top a b : Int} (xs : List Int) : (cF top a b 2 xs 0 = none ∧ cF top a b 4 xs 0 = none) ∨
    ∃ (g h : Int) (n : Nat), cF top a b 2 xs 0 = some ([g, h], (n : Int)) ∧ n ≤ xs.length ∧ ((cF top a b 2 (xs.drop n) 0 = none ∧ cF top a b 4 xs 0 = none) ∨
      ∃ (p q : Int) (m : Nat), cF top a b 2 (xs.drop n) 0 = some ([p, q], (m : Int)) ∧ m ≤ (xs.drop n).length ∧ cF top a b 4 xs 0 = some ([g, h, p, q], (n : Int) + (m : Int))) := by
  obtain ⟨g, n1, ok1, e1, h1⟩ := cF_two (top := top) (a := a) (b := b) xs
  cases ok1
  · refine .inl ⟨h1.2.2.2.1 rfl, ?_⟩
    rw [cF, e1]; rfl
  · obtain ⟨l1, _, _, _, h2⟩ := h1
    obtain ⟨h, n2, ok2, e2, h3⟩ := h2 rfl
    have es := gF_shift (top := top) (a := a) (b := b) (n1 : Int) (xs.drop n1) 0 0
    rw [Int.add_zero, e2] at es
    dsimp only at es
    have e4 : cF top a b 4 xs 0 = if ok2 then (cF top a b 2 (xs.drop (n1 + n2)) ((n1 : Int) + n2)).map (fun r => (g :: h :: r.1, r.2)) else none := by
      rw [cF, e1]; dsimp only; rw [if_pos rfl, show ((n1 : Int) - 0).toNat = n1 by omega, cF, es]
      dsimp only
      split
      · rw [show ((n1 : Int) + (n2 : Int) - (n1 : Int)).toNat = n2 by omega, List.drop_drop, Option.map_map]
        rfl
      · rfl
    cases ok2
    · refine .inl ⟨h3.2.2.2.1 rfl, ?_⟩
      rw [e4]; rfl
    · have l2 := h3.1
      rw [List.length_drop] at l2
      refine .inr ⟨g, h, n1 + n2, by rw [h3.2.2.2.2 rfl]; simp, by omega, ?_⟩
      have sh := cF_shift (top := top) (a := a) (b := b) ((n1 : Int) + n2) 2 (xs.drop (n1 + n2)) 0
      rw [Int.add_zero] at sh
      rw [if_pos rfl, sh, Option.map_map] at e4
      cases hc : cF top a b 2 (xs.drop (n1 + n2)) 0 with
      | none => rw [hc] at e4; exact .inl ⟨rfl, e4⟩
      | some r =>
        obtain ⟨ds, t⟩ := r
        obtain ⟨b1, b2, b3, _⟩ := cF_bd _ _ _ _ _ hc
        rw [hc] at e4
        match ds, b1, e4 with
        | [p, q], _, e4 =>
          refine .inr ⟨p, q, t.toNat, by rw [Int.toNat_of_nonneg b2], by omega, ?_⟩
          rw [e4, Int.toNat_of_nonneg b2]
          simp
end Go.Proofs.Ytafjodaeckiedaa
