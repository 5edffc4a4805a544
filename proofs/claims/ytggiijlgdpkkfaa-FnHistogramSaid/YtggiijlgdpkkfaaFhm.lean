/- Histograms, by counting. -/
import Derived.Test.YtggiijlgdpkkfaaHsm
namespace Go.Proofs.Ytggiijlgdpkkfaa
open Go.RowKit
set_option maxHeartbeats 4000000
set_option maxRecDepth 20000
theorem cn_perm {ts us : List ByteArray} (h : ts.Perm us) (t : ByteArray) : cn ts t = cn us t := List.Perm.countP_eq _ h
theorem kk_perm {ts us : List ByteArray} (h : ts.Perm us) : (kk ts).Perm (kk us) :=
  (List.perm_ext_iff_of_nodup (kk_nodup ts) (kk_nodup us)).2 fun a => by rw [kk_mem, kk_mem]; exact h.mem_iff
theorem hs_perm {ts us : List ByteArray} (h : ts.Perm us) (m : Nat) : hs ts m = hs us m := by
  unfold hs hsL
  rw [List.Perm.countP_eq _ (kk_perm h)]
  congr 1
  funext k
  rw [cn_perm h]
theorem sum_add (f g : ByteArray → Nat) : ∀ l : List ByteArray, (l.map fun k => f k + g k).sum = (l.map f).sum + (l.map g).sum
  | [] => rfl
  | x :: l => by simp [sum_add f g l]; omega
theorem sum_if (x : ByteArray) : ∀ l : List ByteArray, (l.map fun k => if x = k then 1 else 0).sum = cn l x
  | [] => rfl
  | y :: l => by
    have := sum_if x l
    unfold cn at *
    rw [List.map_cons, List.sum_cons, this, List.countP_cons]
    by_cases e : x = y
    · subst e; simp; omega
    · simp [e]; exact fun q => e q.symm
theorem cn_nodup {l : List ByteArray} (h : l.Nodup) (x : ByteArray) : cn l x ≤ 1 := by
  by_cases hx : x ∈ l
  · exact Nat.le_of_eq (countP_one h hx)
  · have := mt cn_pos.1 hx; omega
theorem sum_kk (ts : List ByteArray) : ((kk ts).map (cn ts)).sum = ts.length := by
  refine kk_induct (fun ts => ((kk ts).map (cn ts)).sum = ts.length) rfl (fun ts x ih => ?_) ts
  have e : cn (ts ++ [x]) = fun k => cn ts k + if x = k then 1 else 0 := funext fun k => cn_snoc ts x k
  rw [kk_snoc, e, List.length_append]
  split
  · rename_i h
    rw [sum_add, ih, sum_if]
    have := cn_nodup (kk_nodup ts) x
    simp; omega
  · rename_i h
    have hx : cn ts x = 0 := by
      have : ¬ x ∈ ts := fun q => h (cn_pos.2 ((kk_mem ts x).2 q))
      have := mt cn_pos.1 this
      omega
    rw [List.map_append, List.sum_append, sum_add, ih, sum_if]
    simp [hx]
    omega
theorem sum_split (f : ByteArray → Nat) : ∀ l : List ByteArray, (∀ k ∈ l, 1 ≤ f k) →
    l.countP (fun k => true && decide (cls (f k) = 1)) + 2 * l.countP (fun k => true && decide (cls (f k) = 2)) + 3 * l.countP (fun k => true && decide (cls (f k) = 3)) ≤ (l.map f).sum ∧
    (l.countP (fun k => true && decide (cls (f k) = 3)) = 0 → (l.map f).sum = l.countP (fun k => true && decide (cls (f k) = 1)) + 2 * l.countP (fun k => true && decide (cls (f k) = 2)))
  | [], _ => ⟨Nat.le_refl _, fun _ => rfl⟩
  | x :: l, h => by
    have ih := sum_split f l (fun k hk => h k (List.mem_cons_of_mem _ hk))
    have h1 := h x List.mem_cons_self
    rw [List.map_cons, List.sum_cons, List.countP_cons, List.countP_cons, List.countP_cons]
    simp only [Bool.true_and, decide_eq_true_eq] at *
    generalize List.countP (fun k => decide (cls (f k) = 1)) l = a at *
    generalize List.countP (fun k => decide (cls (f k) = 2)) l = b at *
    generalize List.countP (fun k => decide (cls (f k) = 3)) l = c at *
    generalize (l.map f).sum = s at *
    have hc : cls (f x) = min (f x) 3 := rfl
    generalize cls (f x) = y at *
    generalize f x = z at *
    obtain ⟨i1, i2⟩ := ih
    rcases (show y = 1 ∧ z = 1 ∨ y = 2 ∧ z = 2 ∨ y = 3 ∧ 3 ≤ z by omega) with ⟨rfl, rfl⟩ | ⟨rfl, rfl⟩ | ⟨rfl, hz⟩
    · simp; constructor
      · omega
      · intro q; have := i2 q; omega
    · simp; constructor
      · omega
      · intro q; have := i2 q; omega
    · simp; omega
theorem hs_sum (ts : List ByteArray) : hs ts 1 + 2 * hs ts 2 + 3 * hs ts 3 ≤ ts.length ∧ (hs ts 3 = 0 → ts.length = hs ts 1 + 2 * hs ts 2) := by
  have := sum_split (cn ts) (kk ts) (fun k hk => cn_pos.2 ((kk_mem ts k).1 hk))
  rw [sum_kk] at this
  exact this
end Go.Proofs.Ytggiijlgdpkkfaa
