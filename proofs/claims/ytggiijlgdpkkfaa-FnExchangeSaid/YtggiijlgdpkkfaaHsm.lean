/- How often texts stand in a list, as functions on lists; maps that hold it. -/
import Derived.Test.YtggiijlgdpkkfaaLst
import Derived.Maps.RangeWalk
import Derived.Maps.OwnOps
import Derived.Maps.Ext
namespace Go.Proofs.Ytggiijlgdpkkfaa
open Go.RowKit Go.Maps
set_option maxHeartbeats 4000000
set_option maxRecDepth 20000
/-- how often -/
def cn (ts : List ByteArray) (t : ByteArray) : Nat := ts.countP (fun x => decide (x = t))
/-- the different ones, each where it stands first -/
def kk (ts : List ByteArray) : List ByteArray := ts.foldl (fun acc t => if 0 < cn acc t then acc else acc ++ [t]) []
theorem cn_snoc (ts : List ByteArray) (x t : ByteArray) : cn (ts ++ [x]) t = cn ts t + if x = t then 1 else 0 := by
  unfold cn; rw [List.countP_append, List.countP_singleton]; by_cases h : x = t <;> simp [h]
theorem cn_le (ts : List ByteArray) (t : ByteArray) : cn ts t ≤ ts.length := List.countP_le_length
theorem cn_pos {ts : List ByteArray} {t : ByteArray} : 0 < cn ts t ↔ t ∈ ts := by
  unfold cn; rw [List.countP_pos_iff]; simp
theorem kk_snoc (ts : List ByteArray) (x : ByteArray) : kk (ts ++ [x]) = if 0 < cn (kk ts) x then kk ts else kk ts ++ [x] := by
  unfold kk; rw [List.foldl_append]; rfl
theorem kk_induct (P : List ByteArray → Prop) (h0 : P []) (h1 : ∀ ts x, P ts → P (ts ++ [x])) (ts : List ByteArray) : P ts := by
  have h : ∀ r : List ByteArray, P r.reverse := by
    intro r
    induction r with
    | nil => exact h0
    | cons x r ih => rw [List.reverse_cons]; exact h1 _ _ ih
  have := h ts.reverse
  rwa [List.reverse_reverse] at this
theorem kk_mem (ts : List ByteArray) (t : ByteArray) : t ∈ kk ts ↔ t ∈ ts := by
  refine kk_induct (fun ts => t ∈ kk ts ↔ t ∈ ts) (by simp [kk]) (fun ts x ih => ?_) ts
  rw [kk_snoc]
  split
  · rename_i h
    rw [ih, List.mem_append, List.mem_singleton]
    constructor
    · exact fun h => .inl h
    · rintro (h1 | rfl)
      · exact h1
      · exact ih.1 (cn_pos.1 h)
  · rw [List.mem_append, List.mem_append, ih]
theorem kk_nodup (ts : List ByteArray) : (kk ts).Nodup := by
  refine kk_induct (fun ts => (kk ts).Nodup) (by simp [kk]) (fun ts x ih => ?_) ts
  rw [kk_snoc]
  split
  · exact ih
  · rename_i h
    rw [List.nodup_append]
    exact ⟨ih, by simp, fun a ha b hb => by simp at hb; subst hb; intro e; subst e; exact h (cn_pos.2 ha)⟩
theorem kk_len (ts : List ByteArray) : (kk ts).length ≤ ts.length := by
  refine kk_induct (fun ts => (kk ts).length ≤ ts.length) (by simp [kk]) (fun ts x ih => ?_) ts
  rw [kk_snoc]
  split <;> simp <;> omega
/-- which counter -/
def cls (n : Nat) : Nat := min n 3
/-- how many of the different ones that are done stand so often -/
def hsL (ts : List ByteArray) (done : ByteArray → Bool) (m : Nat) : Nat := (kk ts).countP (fun k => done k && decide (cls (cn ts k) = m))
theorem hsL_none (ts : List ByteArray) (m : Nat) : hsL ts (fun _ => false) m = 0 := by unfold hsL; simp
theorem countP_two {α : Type} {p q r : α → Bool} : ∀ {l : List α}, (∀ x ∈ l, p x = (q x || r x)) → (∀ x ∈ l, (q x && r x) = false) → l.countP p = l.countP q + l.countP r
  | [], _, _ => rfl
  | x :: l, h1, h2 => by
    have := countP_two (l := l) (fun y hy => h1 y (List.mem_cons_of_mem _ hy)) (fun y hy => h2 y (List.mem_cons_of_mem _ hy))
    rw [List.countP_cons, List.countP_cons, List.countP_cons, this, h1 x List.mem_cons_self]
    have := h2 x List.mem_cons_self
    cases hq : q x <;> cases hr : r x <;> simp [hq, hr] at this ⊢ <;> omega
theorem countP_one {α : Type} [DecidableEq α] : ∀ {l : List α} {a : α}, l.Nodup → a ∈ l → l.countP (fun x => decide (x = a)) = 1
  | [], _, _, h => by cases h
  | x :: l, a, hn, h => by
    rw [List.nodup_cons] at hn
    rw [List.countP_cons]
    by_cases e : x = a
    · subst e
      have : l.countP (fun y => decide (y = x)) = 0 := by
        rw [List.countP_eq_zero]; intro y hy; simp; intro e; subst e; exact hn.1 hy
      rw [this]; simp
    · rw [countP_one hn.2 (by rcases List.mem_cons.1 h with h | h; exact absurd h.symm e; exact h)]
      simp [e]
/-- one more is done -/
theorem hsL_more (ts : List ByteArray) (done : ByteArray → Bool) (a : ByteArray) (m : Nat) (ha : a ∈ ts) (hd : done a = false) :
    hsL ts (fun k => done k || decide (k = a)) m = hsL ts done m + if cls (cn ts a) = m then 1 else 0 := by
  unfold hsL
  rw [countP_two (q := fun k => done k && decide (cls (cn ts k) = m)) (r := fun k => decide (k = a) && decide (cls (cn ts a) = m))]
  · congr 1
    by_cases h : cls (cn ts a) = m
    · simp only [h, decide_true, Bool.and_true, if_true]
      exact countP_one (kk_nodup ts) ((kk_mem ts a).2 ha)
    · simp [h]
  · intro x _
    by_cases e : x = a
    · subst e; simp [hd]
    · simp [e]
  · intro x _
    by_cases e : x = a
    · subst e; simp [hd]
    · simp [e]
theorem hsL_congr (ts : List ByteArray) {d d' : ByteArray → Bool} (m : Nat) (h : ∀ k, k ∈ ts → d k = d' k) : hsL ts d m = hsL ts d' m := by
  unfold hsL
  exact List.countP_congr fun x hx => by rw [h x ((kk_mem ts x).1 hx)]
theorem hsL_le (ts : List ByteArray) (d : ByteArray → Bool) (m : Nat) : hsL ts d m ≤ ts.length := Nat.le_trans List.countP_le_length (kk_len ts)
/-- how many stand so often -/
def hs (ts : List ByteArray) (m : Nat) : Nat := hsL ts (fun _ => true) m
/-- a text as a key -/
abbrev ky (t : ByteArray) : Lit := .string t.data.toList
theorem ky_inj {s t : ByteArray} (h : ky s = ky t) : s = t := by
  injection h with h
  cases s; cases t
  simp at h
  simp [h]
theorem ky_is (t : ByteArray) : WideAt.IsKeyLit (ky t) := by trivial
/-- a map that holds how often each stands -/
structure CntD (us : List ByteArray) (D : DataW Unit) : Prop where
  map : IsMap D
  at_ : ∀ s, D.atKey (ky s) (.lit (.int .i64 0)) = .lit (.int .i64 (cn us s : Nat))
  has_ : ∀ s, Maps.has D (ky s) = decide (0 < cn us s)
theorem CntD.start : CntD [] (.map []) := ⟨isMap_empty, fun _ => rfl, fun s => by simp [Maps.has, cn]⟩
theorem CntD.step {us : List ByteArray} {D : DataW Unit} (h : CntD us D) (t : ByteArray) (c : Int) (hc : c = ((cn us t : Nat) : Int) + 1) : CntD (us ++ [t]) (D.put (ky t) (.lit (.int .i64 c))) := by
  refine ⟨h.map.put _ _, fun s => ?_, fun s => ?_⟩
  · by_cases e : s = t
    · subst e
      rw [atKey_put_same h.map (ky_is s), cn_snoc, if_pos rfl, hc]
      rfl
    · rw [atKey_put_other (fun q => e (ky_inj q)), h.at_ s, cn_snoc, if_neg (fun q => e q.symm), Nat.add_zero]
  · by_cases e : s = t
    · subst e
      rw [has_put_same h.map (ky_is s), cn_snoc, if_pos rfl]; simp
    · rw [has_put_other (fun q => e (ky_inj q)), h.has_ s, cn_snoc, if_neg (fun q => e q.symm), Nat.add_zero]
end Go.Proofs.Ytggiijlgdpkkfaa
