/- Bodies that are exchanged, as functions on lists. -/
import Derived.Test.YtggiijlgdpkkfaaAcs
namespace Go.Proofs.Ytggiijlgdpkkfaa
open Go.RowKit
set_option maxHeartbeats 4000000
set_option maxRecDepth 20000
abbrev dr (ps : List Acs) (m : Nat) : ByteArray := (ps.getD m noA).1
abbrev bd (ps : List Acs) (m : Nat) : ByteArray := (ps.getD m noA).2
/-- how many accesses of a drop -/
def cA (us : List Acs) (d : ByteArray) : Nat := us.countP (fun x => decide (x.1 = d))
theorem cA_take (ps : List Acs) (j : Nat) (h : j < ps.length) (d : ByteArray) : cA (ps.take (j + 1)) d = cA (ps.take j) d + if dr ps j = d then 1 else 0 := by
  have e : ps[j] = ps.getD j noA := by rw [List.getD_eq_getElem?_getD, List.getElem?_eq_getElem h]; rfl
  rw [← List.take_append_getElem h, e]
  unfold cA dr
  rw [List.countP_append, List.countP_singleton]
  by_cases h : (ps.getD j noA).1 = d <;> simp
theorem cA_mono (ps : List Acs) (d : ByteArray) : ∀ (k j : Nat), j + k ≤ ps.length → cA (ps.take j) d ≤ cA (ps.take (j + k)) d
  | 0, j, _ => Nat.le_refl _
  | k + 1, j, h => by
    have := cA_mono ps d k j (by omega)
    have := cA_take ps (j + k) (by omega) d
    rw [← Nat.add_assoc, this]; omega
theorem cA_lt {ps : List Acs} {s s' : Nat} (h : s < s') (h' : s' ≤ ps.length) : cA (ps.take s) (dr ps s) + 1 ≤ cA (ps.take s') (dr ps s) := by
  have a := cA_take ps s (by omega) (dr ps s)
  rw [if_pos rfl] at a
  have := cA_mono ps (dr ps s) (s' - (s + 1)) (s + 1) (by omega)
  rw [show s + 1 + (s' - (s + 1)) = s' by omega] at this
  omega
theorem cA_le (us : List Acs) (d : ByteArray) : cA us d ≤ us.length := List.countP_le_length
/-- how many came to its drop ahead of it -/
def ah (ps : List Acs) (m : Nat) : Nat := cA (ps.take m) (dr ps m)
theorem ah_lt {ps : List Acs} {s s' : Nat} (h : s < s') (h' : s' ≤ ps.length) (e : dr ps s = dr ps s') : ah ps s < ah ps s' := by
  have := cA_lt h h'
  unfold ah
  rw [← e]
  omega
theorem ah_inj {ps : List Acs} {s s' : Nat} (h : s < ps.length) (h' : s' < ps.length) (e : dr ps s = dr ps s') (ea : ah ps s = ah ps s') : s = s' := by
  rcases Nat.lt_trichotomy s s' with q | q | q
  · have := ah_lt q (by omega) e; omega
  · exact q
  · have := ah_lt q (by omega) e.symm; omega
/-- the first two of a drop -/
def mates (ps : List Acs) (m s : Nat) : Bool := decide (dr ps m = dr ps s) && ((decide (ah ps m = 0) && decide (ah ps s = 1)) || (decide (ah ps m = 1) && decide (ah ps s = 0)))
theorem mates_iff {ps : List Acs} {m s : Nat} : mates ps m s = true ↔ dr ps m = dr ps s ∧ ((ah ps m = 0 ∧ ah ps s = 1) ∨ (ah ps m = 1 ∧ ah ps s = 0)) := by
  unfold mates
  simp only [Bool.and_eq_true, Bool.or_eq_true, decide_eq_true_eq]
theorem mates_symm {ps : List Acs} {m s : Nat} (h : mates ps m s = true) : mates ps s m = true := by
  rw [mates_iff] at h ⊢
  exact ⟨h.1.symm, by omega⟩
theorem mates_uniq {ps : List Acs} {m s s' : Nat} (h : mates ps m s = true) (h' : mates ps m s' = true) (l : s < ps.length) (l' : s' < ps.length) : s = s' := by
  rw [mates_iff] at h h'
  exact ah_inj l l' (h.1.symm.trans h'.1) (by omega)
theorem mates_ne {ps : List Acs} {m s : Nat} (h : mates ps m s = true) : m ≠ s := by
  rw [mates_iff] at h
  intro e; subst e; omega
/-- what one gets of its mate, if it is let -/
def gA (ps : List Acs) (P : Nat → Nat → Bool) (m : Nat) : ByteArray := (((List.range ps.length).find? (fun s => mates ps m s && P m s)).map (bd ps)).getD noS
def gL (ps : List Acs) (P : Nat → Nat → Bool) : List ByteArray := (List.range ps.length).map (gA ps P)
theorem gL_len (ps : List Acs) (P : Nat → Nat → Bool) : (gL ps P).length = ps.length := by simp [gL]
theorem gL_at {ps : List Acs} {P : Nat → Nat → Bool} {m : Nat} (h : m < ps.length) : (gL ps P).getD m noS = gA ps P m := by
  rw [List.getD_eq_getElem?_getD, gL, List.getElem?_map, List.getElem?_range h]; rfl
theorem gA_some {ps : List Acs} {P : Nat → Nat → Bool} {m s : Nat} (hs : s < ps.length) (hm : mates ps m s = true) (hp : P m s = true) : gA ps P m = bd ps s := by
  unfold gA
  cases hf : (List.range ps.length).find? (fun s => mates ps m s && P m s) with
  | none =>
    have := List.find?_eq_none.1 hf s (List.mem_range.2 hs)
    rw [hm, hp] at this
    exact absurd rfl this
  | some s' =>
    have h1 := List.find?_some hf
    have h2 := List.mem_range.1 (List.mem_of_find?_eq_some hf)
    rw [Bool.and_eq_true] at h1
    rw [mates_uniq hm h1.1 hs h2]
    rfl
theorem gA_none {ps : List Acs} {P : Nat → Nat → Bool} {m : Nat} (h : ∀ s, s < ps.length → mates ps m s = true → P m s = false) : gA ps P m = noS := by
  unfold gA
  rw [List.find?_eq_none.2]
  · rfl
  · intro s hs
    cases hm : mates ps m s
    · simp
    · rw [h s (List.mem_range.1 hs) hm]; simp
theorem gA_congr {ps : List Acs} {P P' : Nat → Nat → Bool} {m : Nat} (h : ∀ s, s < ps.length → mates ps m s = true → P m s = P' m s) : gA ps P m = gA ps P' m := by
  by_cases he : ∃ s, s < ps.length ∧ mates ps m s = true ∧ P m s = true
  · obtain ⟨s, hs, hm, hp⟩ := he
    rw [gA_some hs hm hp, gA_some hs hm ((h s hs hm).symm.trans hp)]
  · have q : ∀ s, s < ps.length → mates ps m s = true → P m s = false := fun s hs hm => by
      cases hp : P m s
      · rfl
      · exact absurd ⟨s, hs, hm, hp⟩ he
    rw [gA_none q, gA_none (fun s hs hm => (h s hs hm).symm.trans (q s hs hm))]
theorem gL_congr {ps : List Acs} {P P' : Nat → Nat → Bool} (h : ∀ m s, m < ps.length → s < ps.length → mates ps m s = true → P m s = P' m s) : gL ps P = gL ps P' := by
  unfold gL
  exact List.map_congr_left fun m hm => gA_congr fun s hs he => h m s (List.mem_range.1 hm) hs he
theorem list_ext {a b : List ByteArray} {n : Nat} (ha : a.length = n) (hb : b.length = n) (h : ∀ m, m < n → a.getD m noS = b.getD m noS) : a = b := by
  apply List.ext_getElem (by omega)
  intro m h1 h2
  have := h m (by omega)
  rwa [List.getD_eq_getElem?_getD, List.getD_eq_getElem?_getD, List.getElem?_eq_getElem h1, List.getElem?_eq_getElem h2] at this
theorem getD_setS {a : List ByteArray} {i m : Nat} {x : ByteArray} (h : i < a.length) : (a.set i x).getD m noS = if i = m then x else a.getD m noS := by
  rw [List.getD_eq_getElem?_getD, List.getD_eq_getElem?_getD, List.getElem?_set]
  by_cases e : i = m
  · subst e; simp [h]
  · simp [e]
/-- one pair more is let -/
theorem gL_pair {ps : List Acs} {P P' : Nat → Nat → Bool} {f j : Nat} (hf : f < ps.length) (hj : j < ps.length) (hm : mates ps f j = true)
    (h1 : P' f j = true) (h2 : P' j f = true) (h : ∀ m s, m ≠ f → m ≠ j → m < ps.length → s < ps.length → mates ps m s = true → P' m s = P m s) :
    ((gL ps P).set j (bd ps f)).set f (bd ps j) = gL ps P' := by
  have hne := mates_ne hm
  refine list_ext (n := ps.length) (by simp [gL_len]) (gL_len _ _) fun m hmm => ?_
  rw [getD_setS (by rw [List.length_set, gL_len]; exact hf), getD_setS (by rw [gL_len]; exact hj), gL_at hmm, gL_at hmm]
  by_cases e : f = m
  · subst e; rw [if_pos rfl, gA_some hj hm h1]
  · rw [if_neg e]
    by_cases e2 : j = m
    · subst e2; rw [if_pos rfl, gA_some hf (mates_symm hm) h2]
    · rw [if_neg e2]
      exact gA_congr fun s hs he => (h m s (fun q => e q.symm) (fun q => e2 q.symm) hmm hs he).symm
theorem gL_none (ps : List Acs) : gL ps (fun _ _ => false) = List.replicate ps.length noS := by
  refine list_ext (n := ps.length) (gL_len _ _) (by simp) fun m hm => ?_
  rw [gL_at hm, gA_none (fun _ _ _ => rfl), List.getD_eq_getElem?_getD, List.getElem?_replicate, if_pos hm]; rfl
/-- both came -/
abbrev both (j : Nat) (m s : Nat) : Bool := decide (m < j) && decide (s < j)
/-- one of both came -/
abbrev one (j : Nat) (m s : Nat) : Bool := decide (m < j) || decide (s < j)
abbrev all2 (_ _ : Nat) : Bool := true
theorem both_step {ps : List Acs} {j : Nat} (hj : j < ps.length) (h : ∀ f, f < j → mates ps f j = false) : gL ps (both (j + 1)) = gL ps (both j) := by
  refine gL_congr fun m s hm hs he => ?_
  unfold both
  by_cases a : m = j
  · subst a
    by_cases b : s < m
    · have := h s b; rw [mates_symm he] at this; cases this
    · have := mates_ne he
      rw [decide_eq_false (show ¬ s < m + 1 by omega), decide_eq_false (show ¬ m < m by omega)]; simp
  · by_cases b : s = j
    · subst b
      by_cases c : m < s
      · have := h m c; rw [he] at this; cases this
      · rw [decide_eq_false (show ¬ m < s + 1 by omega), decide_eq_false (show ¬ s < s by omega)]; simp
    · rw [decide_eq_decide.2 (show m < j + 1 ↔ m < j by omega), decide_eq_decide.2 (show s < j + 1 ↔ s < j by omega)]
theorem both_pair {ps : List Acs} {f j : Nat} (hj : j < ps.length) (hf : f < j) (hm : mates ps f j = true) : ((gL ps (both j)).set j (bd ps f)).set f (bd ps j) = gL ps (both (j + 1)) := by
  refine gL_pair (by omega) hj hm (by unfold both; simp; omega) (by unfold both; simp; omega) fun m s h1 h2 hmm hs he => ?_
  unfold both
  have h3 : s ≠ j := fun e => h1 (by subst e; exact mates_uniq (mates_symm he) (mates_symm hm) hmm (by omega))
  rw [decide_eq_decide.2 (show m < j + 1 ↔ m < j by omega), decide_eq_decide.2 (show s < j + 1 ↔ s < j by omega)]
theorem both_end (ps : List Acs) : gL ps (both ps.length) = gL ps all2 := gL_congr fun m s hm hs _ => by unfold both; simp [hm, hs]
theorem both_start (ps : List Acs) : gL ps (both 0) = List.replicate ps.length noS := by
  rw [← gL_none]; exact gL_congr fun m s _ _ _ => by unfold both; simp
theorem one_end (ps : List Acs) : gL ps (one ps.length) = gL ps all2 := gL_congr fun m s hm hs _ => by unfold one; simp [hm]
theorem one_start (ps : List Acs) : gL ps (one 0) = List.replicate ps.length noS := by
  rw [← gL_none]; exact gL_congr fun m s _ _ _ => by unfold one; simp
theorem one_step {ps : List Acs} {i : Nat} (hi : i < ps.length) (h : ∀ k, i < k → k < ps.length → mates ps i k = false) : gL ps (one (i + 1)) = gL ps (one i) := by
  refine gL_congr fun m s hm hs he => ?_
  unfold one
  by_cases a : m = i
  · subst a
    by_cases b : m < s
    · have := h s b hs; rw [he] at this; cases this
    · have := mates_ne he
      rw [decide_eq_true (show s < m + 1 by omega), decide_eq_true (show s < m by omega)]; simp
  · by_cases b : s = i
    · subst b
      by_cases c : s < m
      · have := h m c hm; rw [mates_symm he] at this; cases this
      · rw [decide_eq_true (show m < s + 1 by omega), decide_eq_true (show m < s by omega)]; simp
    · rw [decide_eq_decide.2 (show m < i + 1 ↔ m < i by omega), decide_eq_decide.2 (show s < i + 1 ↔ s < i by omega)]
theorem one_pair {ps : List Acs} {i k : Nat} (hk : k < ps.length) (hi : i < k) (hm : mates ps i k = true) : ((gL ps (one i)).set i (bd ps k)).set k (bd ps i) = gL ps (one (i + 1)) := by
  refine gL_pair (f := k) (j := i) hk (by omega) (mates_symm hm) (by unfold one; simp) (by unfold one; simp) fun m s h1 h2 hmm hs he => ?_
  unfold one
  have h3 : s ≠ i := fun e => h1 (by subst e; exact mates_uniq (mates_symm he) hm hmm hk)
  rw [decide_eq_decide.2 (show m < i + 1 ↔ m < i by omega), decide_eq_decide.2 (show s < i + 1 ↔ s < i by omega)]
end Go.Proofs.Ytggiijlgdpkkfaa
