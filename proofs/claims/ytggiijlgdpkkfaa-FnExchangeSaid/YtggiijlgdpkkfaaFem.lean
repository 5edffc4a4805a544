/- Who gets which body. -/
import Derived.Test.YtggiijlgdpkkfaaExm
namespace Go.Proofs.Ytggiijlgdpkkfaa
open Go.RowKit
set_option maxHeartbeats 4000000
set_option maxRecDepth 20000
theorem cA_more (ps : List Acs) (d : ByteArray) : ∀ (k a : Nat), a + k ≤ ps.length → cA (ps.take a) d < cA (ps.take (a + k)) d → ∃ s, a ≤ s ∧ s < a + k ∧ dr ps s = d
  | 0, a, _, h => absurd h (Nat.lt_irrefl _)
  | k + 1, a, hl, h => by
    have e := cA_take ps (a + k) (by omega) d
    by_cases hd : dr ps (a + k) = d
    · exact ⟨a + k, by omega, by omega, hd⟩
    · rw [if_neg hd, Nat.add_zero] at e
      rw [← Nat.add_assoc, e] at h
      obtain ⟨s, h1, h2, h3⟩ := cA_more ps d k a (by omega) h
      exact ⟨s, h1, by omega, h3⟩
/-- all others of i's drop, up to j -/
def oth (ps : List Acs) (i j : Nat) : List Nat := (List.range j).filter (fun k => decide (k ≠ i) && decide (dr ps k = dr ps i))
theorem oth_mem {ps : List Acs} {i j k : Nat} : k ∈ oth ps i j ↔ k < j ∧ k ≠ i ∧ dr ps k = dr ps i := by
  unfold oth
  rw [List.mem_filter, List.mem_range, Bool.and_eq_true, decide_eq_true_eq, decide_eq_true_eq]
theorem oth_snoc (ps : List Acs) (i j : Nat) : oth ps i (j + 1) = if j ≠ i ∧ dr ps j = dr ps i then oth ps i j ++ [j] else oth ps i j := by
  unfold oth
  rw [List.range_succ, List.filter_append]
  by_cases h : j ≠ i ∧ dr ps j = dr ps i
  · rw [if_pos h, List.filter_cons_of_pos (by simp [h.1, h.2])]; rfl
  · rw [if_neg h, List.filter_cons_of_neg (by rw [Bool.and_eq_true, decide_eq_true_eq, decide_eq_true_eq]; exact h), List.filter_nil, List.append_nil]
theorem oth_len (ps : List Acs) (i j : Nat) : (oth ps i j).length ≤ j := by
  unfold oth; exact Nat.le_trans (List.length_filter_le _ _) (by simp)
theorem mates_oth {ps : List Acs} {i s : Nat} (hs : s < ps.length) (h : mates ps i s = true) : s ∈ oth ps i ps.length :=
  oth_mem.2 ⟨hs, fun e => mates_ne h e.symm, ((mates_iff.1 h).1).symm⟩
theorem gA_out (ps : List Acs) (i : Nat) : gA ps all2 i = noS ∨ ∃ s ∈ oth ps i ps.length, gA ps all2 i = bd ps s := by
  by_cases h : ∃ s, s < ps.length ∧ mates ps i s = true
  · obtain ⟨s, hs, hm⟩ := h
    exact .inr ⟨s, mates_oth hs hm, gA_some hs hm rfl⟩
  · left
    exact gA_none fun s hs hm => absurd ⟨s, hs, hm⟩ h
theorem gA_alone {ps : List Acs} {i : Nat} (h : oth ps i ps.length = []) : gA ps all2 i = noS := by
  rcases gA_out ps i with e | ⟨s, hs, _⟩
  · exact e
  · rw [h] at hs; cases hs
theorem gA_two {ps : List Acs} {i k : Nat} (hi : i < ps.length) (h : oth ps i ps.length = [k]) : gA ps all2 i = bd ps k := by
  have hk : k ∈ oth ps i ps.length := by rw [h]; exact List.mem_singleton.2 rfl
  obtain ⟨hkl, hne, hd⟩ := oth_mem.1 hk
  have only : ∀ s, s < ps.length → dr ps s = dr ps i → s = i ∨ s = k := fun s hs hds => by
    by_cases e : s = i
    · exact .inl e
    · have : s ∈ oth ps i ps.length := oth_mem.2 ⟨hs, e, hds⟩
      rw [h] at this
      exact .inr (List.mem_singleton.1 this)
  -- the lower one of both is the first, the higher one the second
  have key : ∀ a b : Nat, a < b → b < ps.length → dr ps a = dr ps b → (∀ s, s < ps.length → dr ps s = dr ps b → s = a ∨ s = b) → ah ps a = 0 ∧ ah ps b = 1 := by
    intro a b hab hb hdd ho
    have h0 : ah ps a = 0 := by
      rcases Nat.eq_zero_or_pos (ah ps a) with e | e
      · exact e
      · obtain ⟨s, _, h2, h3⟩ := cA_more ps (dr ps a) a 0 (by omega) (by rw [Nat.zero_add]; have : cA (ps.take 0) (dr ps a) = 0 := rfl; unfold ah at e; omega)
        have := ho s (by omega) (h3.trans hdd)
        omega
    have h1 : cA (ps.take (a + 1)) (dr ps b) = 1 := by
      rw [cA_take ps a (by omega), if_pos hdd, ← hdd]
      unfold ah at h0
      omega
    refine ⟨h0, ?_⟩
    have h2 : 1 ≤ ah ps b := by have := ah_lt hab (by omega) hdd; omega
    rcases Nat.lt_or_ge 1 (ah ps b) with e | e
    · obtain ⟨s, g1, g2, g3⟩ := cA_more ps (dr ps b) (b - (a + 1)) (a + 1) (by omega) (by rw [show a + 1 + (b - (a + 1)) = b by omega]; unfold ah at e; omega)
      have := ho s (by omega) g3
      omega
    · omega
  have hm : mates ps i k = true := by
    rcases Nat.lt_or_gt_of_ne hne with q | q
    · have := key k i q hi hd (fun s hs e => (only s hs e).symm)
      exact mates_iff.2 ⟨hd.symm, .inr ⟨this.2, this.1⟩⟩
    · have := key i k q hkl hd.symm (fun s hs e => only s hs (e.trans hd))
      exact mates_iff.2 ⟨hd.symm, .inl ⟨this.1, this.2⟩⟩
  exact gA_some hkl hm rfl
/-- whether a body of the first m others is it -/
def fnd (ps : List Acs) (L : List Nat) (y : ByteArray) (m : Nat) : Bool := decide (y = noS) || (L.take m).any (fun k => decide (bd ps k = y))
theorem fnd_step (ps : List Acs) (L : List Nat) (y : ByteArray) (m : Nat) (h : m < L.length) : fnd ps L y (m + 1) = (fnd ps L y m || decide (bd ps (L.getD m 0) = y)) := by
  unfold fnd
  rw [← List.take_append_getElem h, List.any_append, List.getD_eq_getElem?_getD, List.getElem?_eq_getElem h, Bool.or_assoc]
  simp
theorem fnd_end (ps : List Acs) (i : Nat) : fnd ps (oth ps i ps.length) (gA ps all2 i) (oth ps i ps.length).length = true := by
  unfold fnd
  rw [List.take_length]
  rcases gA_out ps i with e | ⟨s, hs, e⟩
  · rw [e]; simp
  · rw [Bool.or_eq_true]
    right
    rw [List.any_eq_true]
    exact ⟨s, hs, by rw [e]; simp⟩
end Go.Proofs.Ytggiijlgdpkkfaa
