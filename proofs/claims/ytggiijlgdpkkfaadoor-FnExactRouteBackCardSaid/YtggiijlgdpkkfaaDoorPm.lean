/- Orders of numbers: what exchanges of places make of them, as functions on lists. -/
import Derived.WalkKit
namespace Go.Proofs.YtggiijlgdpkkfaaDoor
set_option maxHeartbeats 1000000
/-- the numbers from 0, each at its place -/
def rg (n : Nat) : List Int := (List.range n).map fun i : Nat => (i : Int)
theorem rg_len (n : Nat) : (rg n).length = n := by simp [rg]
theorem rg_at (n i : Nat) (h : i < n) : (rg n).getD i 0 = (i : Int) := by simp [rg, h]
theorem rg_succ (n : Nat) : rg (n + 1) = rg n ++ [(n : Int)] := by simp [rg, List.range_succ]
/-- two places exchanged -/
def swp (o : List Int) (i j : Nat) : List Int := (o.set i (o.getD j 0)).set j (o.getD i 0)
theorem swp_len (o : List Int) (i j : Nat) : (swp o i j).length = o.length := by simp [swp]
theorem getD_set (o : List Int) (i k : Nat) (x : Int) (h : i < o.length) : (o.set i x).getD k 0 = if i = k then x else o.getD k 0 := by
  rw [List.getD_eq_getElem?_getD, List.getElem?_set]
  by_cases e : i = k
  · subst e; simp [h]
  · rw [if_neg e, if_neg e, List.getD_eq_getElem?_getD]
theorem swp_at (o : List Int) (i j k : Nat) (hi : i < o.length) (hj : j < o.length) : (swp o i j).getD k 0 = if j = k then o.getD i 0 else if i = k then o.getD j 0 else o.getD k 0 := by
  unfold swp
  rw [getD_set _ _ _ _ (by simpa using hj), getD_set _ _ _ _ hi]
theorem swp_other (o : List Int) (i j : Nat) (x : Int) (hx : o.getD j 0 = x) : (o.set j (o.getD i 0)).set i x = swp o i j := by
  subst hx
  unfold swp
  by_cases e : i = j
  · subst e; rfl
  · rw [List.set_comm _ _ e]
/-- each place differs -/
def dis (o : List Int) : Prop := ∀ i j, i < o.length → j < o.length → o.getD i 0 = o.getD j 0 → i = j
theorem swp_at2 (o : List Int) (i j k : Nat) (hi : i < o.length) (hj : j < o.length) : (swp o i j).getD k 0 = o.getD (if j = k then i else if i = k then j else k) 0 := by
  rw [swp_at o i j k hi hj]
  split
  · rfl
  · split <;> rfl
theorem dis_swp {o : List Int} {i j : Nat} (h : dis o) (hi : i < o.length) (hj : j < o.length) : dis (swp o i j) := by
  intro a b ha hb
  rw [swp_len] at ha hb
  rw [swp_at2 _ _ _ _ hi hj, swp_at2 _ _ _ _ hi hj]
  intro e
  have := h _ _ (by split; · exact hi
                    · split; · exact hj
                      · exact ha) (by split; · exact hi
                                      · split; · exact hj
                                        · exact hb) e
  split at this <;> split at this <;> (try split at this) <;> (try split at this) <;> omega
theorem dis_rg (n : Nat) : dis (rg n) := by
  intro i j hi hj
  rw [rg_len] at hi hj
  rw [rg_at n i hi, rg_at n j hj]
  omega
/-- from the last place on each is exchanged with the one that a choice tells -/
def goF : List Int → List Int → List Int
  | [], o => o
  | c :: cs, o => goF cs (swp o (cs.length + 1) c.toNat)
def pOf (cs : List Int) : List Int := goF cs (rg (cs.length + 1))
def chB : List Int → Bool
  | [] => true
  | c :: cs => (decide (0 ≤ c) && decide (c ≤ (cs.length : Int) + 1)) && chB cs
theorem chB_cons {c : Int} {cs : List Int} (h : chB (c :: cs) = true) : 0 ≤ c ∧ c ≤ (cs.length : Int) + 1 ∧ chB cs = true := by
  simpa [chB, and_assoc] using h
theorem goF_len : ∀ (cs o : List Int), (goF cs o).length = o.length
  | [], _ => rfl
  | c :: cs, o => by rw [goF, goF_len, swp_len]
theorem pOf_len (cs : List Int) : (pOf cs).length = cs.length + 1 := by rw [pOf, goF_len, rg_len]
theorem goF_dis : ∀ (cs o : List Int), chB cs = true → cs.length < o.length → dis o → dis (goF cs o)
  | [], _, _, _, h => h
  | c :: cs, o, hc, hl, h => by
    obtain ⟨h0, h1, h2⟩ := chB_cons hc
    rw [List.length_cons] at hl
    exact goF_dis cs _ h2 (by rw [swp_len]; omega) (dis_swp h (by omega) (by omega))
/-- places behind the choices stay -/
theorem goF_late : ∀ (cs o : List Int), chB cs = true → cs.length < o.length → ∀ k, cs.length < k → (goF cs o).getD k 0 = o.getD k 0
  | [], _, _, _, _, _ => rfl
  | c :: cs, o, hc, hl, k, hk => by
    obtain ⟨h0, h1, h2⟩ := chB_cons hc
    rw [List.length_cons] at hl hk
    rw [goF, goF_late cs _ h2 (by rw [swp_len]; omega) k (by omega), swp_at _ _ _ _ (by omega) (by omega), if_neg (by omega), if_neg (by omega)]
theorem goF_in (P : Int → Prop) : ∀ (cs o : List Int), chB cs = true → cs.length < o.length → (∀ k, k < o.length → P (o.getD k 0)) → ∀ k, k < o.length → P ((goF cs o).getD k 0)
  | [], _, _, _, h, k, hk => h k hk
  | c :: cs, o, hc, hl, h, k, hk => by
    obtain ⟨h0, h1, h2⟩ := chB_cons hc
    rw [List.length_cons] at hl
    refine goF_in P cs _ h2 (by rw [swp_len]; omega) (fun m hm => ?_) k (by rw [swp_len]; exact hk)
    rw [swp_len] at hm
    rw [swp_at _ _ _ _ (by omega) (by omega)]
    split
    · exact h _ (by omega)
    · split
      · exact h _ (by omega)
      · exact h _ hm
/-- the first place of x, or how many there are -/
def idx : List Int → Int → Nat
  | [], _ => 0
  | y :: ys, x => if y = x then 0 else idx ys x + 1
theorem idx_le : ∀ (o : List Int) (x : Int), idx o x ≤ o.length
  | [], _ => Nat.le_refl _
  | y :: ys, x => by
    unfold idx
    split
    · omega
    · have := idx_le ys x; rw [List.length_cons]; omega
theorem idx_before : ∀ (o : List Int) (x : Int) (j : Nat), j < idx o x → o.getD j 0 ≠ x
  | [], _, j, h => by simp [idx] at h
  | y :: ys, x, j, h => by
    unfold idx at h
    split at h
    · omega
    · rename_i hne
      cases j with
      | zero => exact hne
      | succ j => exact idx_before ys x j (by omega)
theorem idx_at : ∀ (o : List Int) (x : Int), idx o x < o.length → o.getD (idx o x) 0 = x
  | [], _, h => by simp at h
  | y :: ys, x, h => by
    unfold idx at h ⊢
    by_cases e : y = x
    · rw [if_pos e]; exact e
    · rw [if_neg e] at h ⊢
      rw [List.length_cons] at h
      exact idx_at ys x (by omega)
theorem idx_lt {o : List Int} {x : Int} {k : Nat} (hx : o.getD k 0 = x) : idx o x ≤ k := by
  rcases Nat.lt_or_ge k (idx o x) with h | h
  · exact absurd hx (idx_before o x k h)
  · exact h
theorem idx_is {o : List Int} {k : Nat} (h : dis o) (hk : k < o.length) : idx o (o.getD k 0) = k := by
  have h1 := idx_lt (o := o) (k := k) rfl
  exact h _ _ (by omega) hk (idx_at o _ (by omega))
/-- from place i on: where what the order has there stands now -/
def chF (ps : List Int) : Nat → List Int → List Int
  | 0, _ => []
  | i + 1, o => ((idx o (ps.getD (i + 1) 0) : Nat) : Int) :: chF ps i (swp o (i + 1) (idx o (ps.getD (i + 1) 0)))
theorem chF_len (ps : List Int) : ∀ (i : Nat) (o : List Int), (chF ps i o).length = i
  | 0, _ => rfl
  | i + 1, o => by rw [chF, List.length_cons, chF_len]
theorem chF_goF : ∀ (cs o : List Int), chB cs = true → cs.length < o.length → dis o → chF (goF cs o) cs.length o = cs
  | [], _, _, _, _ => rfl
  | c :: cs, o, hc, hl, h => by
    obtain ⟨h0, h1, h2⟩ := chB_cons hc
    rw [List.length_cons] at hl
    have hd := dis_swp (i := cs.length + 1) (j := c.toNat) h (by omega) (by omega)
    have e : (goF (c :: cs) o).getD (cs.length + 1) 0 = o.getD c.toNat 0 := by
      rw [goF, goF_late cs _ h2 (by rw [swp_len]; omega) _ (by omega), swp_at _ _ _ _ (by omega) (by omega)]
      split
      · rename_i e; rw [e]
      · rw [if_pos rfl]
    rw [List.length_cons, chF, e, idx_is h (by omega), goF, chF_goF cs _ h2 (by rw [swp_len]; omega) hd, Int.toNat_of_nonneg h0]
/-- all that there is, stays -/
def hasAll (n : Nat) (o : List Int) : Prop := ∀ x : Int, 0 ≤ x → x < n → ∃ k, k < o.length ∧ o.getD k 0 = x
theorem hasAll_rg (n : Nat) : hasAll n (rg n) := fun x h0 h1 => ⟨x.toNat, by rw [rg_len]; omega, by rw [rg_at n _ (by omega)]; omega⟩
theorem hasAll_swp {n : Nat} {o : List Int} {i j : Nat} (h : hasAll n o) (hi : i < o.length) (hj : j < o.length) : hasAll n (swp o i j) := by
  intro x h0 h1
  obtain ⟨k, hk, e⟩ := h x h0 h1
  by_cases e1 : k = i
  · subst e1; exact ⟨j, by rw [swp_len]; exact hj, by rw [swp_at _ _ _ _ hi hj, if_pos rfl]; exact e⟩
  · by_cases e2 : k = j
    · subst e2
      exact ⟨i, by rw [swp_len]; exact hi, by rw [swp_at _ _ _ _ hi hj, if_neg e1, if_pos rfl]; exact e⟩
    · exact ⟨k, by rw [swp_len]; exact hk, by rw [swp_at _ _ _ _ hi hj, if_neg (by omega), if_neg (by omega)]; exact e⟩
/-- different numbers below n, none of them marked yet -/
def disB (n : Nat) : List Int → List Bool → Bool
  | [], _ => true
  | p :: ps, s => (decide (0 ≤ p) && decide (p < (n : Int)) && !s.getD p.toNat false) && disB n ps (s.set p.toNat true)
def pOK (ps : List Int) : Bool := (decide (1 ≤ ps.length) && decide (ps.length ≤ 16)) && disB ps.length ps (List.replicate ps.length false)
theorem disB_ok (n : Nat) : ∀ (ps : List Int) (s : List Bool), s.length = n → (∀ k, k < ps.length → 0 ≤ ps.getD k 0 ∧ ps.getD k 0 < n ∧ s.getD (ps.getD k 0).toNat false = false) → dis ps → disB n ps s = true
  | [], _, _, _, _ => rfl
  | p :: ps, s, hs, h, hd => by
    obtain ⟨h0, h1, h2⟩ := h 0 (by simp)
    have e0 : (p :: ps).getD 0 0 = p := rfl
    rw [e0] at h0 h1 h2
    unfold disB
    rw [decide_eq_true h0, decide_eq_true h1, h2, disB_ok n ps _ (by simpa using hs) (fun k hk => ?_) (fun i j hi hj e => ?_)]
    · rfl
    · obtain ⟨g0, g1, g2⟩ := h (k + 1) (by simpa using hk)
      have ek : (p :: ps).getD (k + 1) 0 = ps.getD k 0 := rfl
      rw [ek] at g0 g1 g2
      refine ⟨g0, g1, ?_⟩
      rw [List.getD_eq_getElem?_getD, List.getElem?_set]
      have hne : p.toNat ≠ (ps.getD k 0).toNat := by
        intro e
        have := hd 0 (k + 1) (by simp) (by simpa using hk) (by rw [e0, ek]; omega)
        omega
      rw [if_neg hne, ← List.getD_eq_getElem?_getD]
      exact g2
    · have := hd (i + 1) (j + 1) (by simpa using hi) (by simpa using hj) e
      omega
theorem disB_in {n : Nat} : ∀ {ps : List Int} {s : List Bool}, disB n ps s = true → ∀ k, k < ps.length → 0 ≤ ps.getD k 0 ∧ ps.getD k 0 < n
  | [], _, _, k, hk => by simp at hk
  | p :: ps, s, h, k, hk => by
    unfold disB at h
    simp only [Bool.and_eq_true] at h
    cases k with
    | zero => exact ⟨of_decide_eq_true h.1.1.1, of_decide_eq_true h.1.1.2⟩
    | succ k => exact disB_in h.2 k (by simpa using hk)
theorem pOf_in {cs : List Int} (hc : chB cs = true) (k : Nat) (hk : k < cs.length + 1) : 0 ≤ (pOf cs).getD k 0 ∧ (pOf cs).getD k 0 < ((cs.length + 1 : Nat) : Int) := by
  refine goF_in (fun x => 0 ≤ x ∧ x < ((cs.length + 1 : Nat) : Int)) cs _ hc (by rw [rg_len]; omega) (fun k hk => ?_) k (by rw [rg_len]; exact hk)
  rw [rg_len] at hk
  rw [rg_at _ _ hk]
  omega
theorem pOf_dis {cs : List Int} (hc : chB cs = true) : dis (pOf cs) := goF_dis cs _ hc (by rw [rg_len]; omega) (dis_rg _)
theorem pOf_ok {cs : List Int} (hc : chB cs = true) (hl : cs.length ≤ 15) : pOK (pOf cs) = true := by
  unfold pOK
  rw [pOf_len, decide_eq_true (by omega), decide_eq_true (by omega), disB_ok _ _ _ (by simp) (fun k hk => ?_) (pOf_dis hc)]
  · rfl
  · rw [pOf_len] at hk
    obtain ⟨h0, h1⟩ := pOf_in hc k hk
    exact ⟨h0, h1, by simp [List.getD_eq_getElem?_getD, List.getElem?_replicate]; split <;> rfl⟩
theorem chF_pOf {cs : List Int} (hc : chB cs = true) : chF (pOf cs) cs.length (rg (cs.length + 1)) = cs := chF_goF cs _ hc (by rw [rg_len]; omega) (dis_rg _)
/-- where each number stands -/
def invF : List Int → Nat → List Int → List Int
  | [], _, o => o
  | p :: ps, i, o => invF ps (i + 1) (o.set p.toNat (i : Int))
theorem invF_len : ∀ (ps : List Int) (i : Nat) (o : List Int), (invF ps i o).length = o.length
  | [], _, _ => rfl
  | p :: ps, i, o => by rw [invF, invF_len]; simp
theorem invF_stay : ∀ (ps : List Int) (i : Nat) (o : List Int) (x : Nat), (∀ k, k < ps.length → 0 ≤ ps.getD k 0 ∧ (ps.getD k 0).toNat ≠ x) → (invF ps i o).getD x 0 = o.getD x 0
  | [], _, _, _, _ => rfl
  | p :: ps, i, o, x, h => by
    rw [invF, invF_stay ps _ _ x (fun k hk => h (k + 1) (by simpa using hk)), List.getD_eq_getElem?_getD, List.getElem?_set_ne (show p.toNat ≠ x from (h 0 (by simp)).2), ← List.getD_eq_getElem?_getD]
theorem invF_at : ∀ (ps : List Int) (i : Nat) (o : List Int), (∀ k, k < ps.length → 0 ≤ ps.getD k 0 ∧ ps.getD k 0 < (o.length : Int)) → dis ps → ∀ k, k < ps.length → (invF ps i o).getD (ps.getD k 0).toNat 0 = ((i + k : Nat) : Int)
  | [], _, _, _, _, k, hk => by simp at hk
  | p :: ps, i, o, h, hd, k, hk => by
    have h0 := h 0 (by simp)
    have e0 : (p :: ps).getD 0 0 = p := rfl
    rw [e0] at h0
    have hd' : dis ps := fun a b ha hb e => by have := hd (a + 1) (b + 1) (by simpa using ha) (by simpa using hb) e; omega
    cases k with
    | zero =>
      rw [e0, invF, invF_stay]
      · rw [getD_set _ _ _ _ (by omega), if_pos rfl]; rfl
      · intro k hk
        have := h (k + 1) (by simpa using hk)
        have ek : (p :: ps).getD (k + 1) 0 = ps.getD k 0 := rfl
        rw [ek] at this
        refine ⟨this.1, fun e => ?_⟩
        have := hd 0 (k + 1) (by simp) (by simpa using hk) (by rw [e0, ek]; omega)
        omega
    | succ k =>
      have ek : (p :: ps).getD (k + 1) 0 = ps.getD k 0 := rfl
      rw [ek, invF, invF_at ps (i + 1) _ (fun k hk => by rw [List.length_set]; exact h (k + 1) (by simpa using hk)) hd' k (by simpa using hk)]
      congr 1; omega
theorem inv_pOf {cs : List Int} (hc : chB cs = true) (k : Nat) (hk : k < cs.length + 1) : (invF (pOf cs) 0 (List.replicate (cs.length + 1) 0)).getD ((pOf cs).getD k 0).toNat 0 = (k : Int) := by
  rw [invF_at (pOf cs) 0 _ (fun k hk => by rw [pOf_len] at hk; rw [List.length_replicate]; exact pOf_in hc k hk) (pOf_dis hc) k (by rw [pOf_len]; exact hk), Nat.zero_add]
end Go.Proofs.YtggiijlgdpkkfaaDoor
