/- Words of a line, as functions on lists of bytes; no program in it. -/
import Derived.WalkKit
import Derived.Lib.TrimByte
namespace Go.Proofs.YtbkcgkffafjbgaaDoor
set_option linter.unusedSimpArgs false
abbrev By := List UInt8
def bla (b : UInt8) : Bool := b == 32
def non (b : UInt8) : Bool := b != 32
theorem non_bla (b : UInt8) : non b = !bla b := rfl
/-- without the blanks ahead -/
def tl (l : By) : By := l.dropWhile bla
/-- without the blanks behind -/
def tb (l : By) : By := (l.reverse.dropWhile bla).reverse
/-- without the blanks around -/
def tr (l : By) : By := tl (tb l)
/-- the first word -/
def wd (l : By) : By := (tl l).takeWhile non
/-- what stands behind the first word -/
def rs (l : By) : By := (tl l).dropWhile non
theorem tr_lib (l : By) : Lib.trimB l 32 = tr l := rfl
theorem tl_cons_bla {b : UInt8} {l : By} (h : bla b = true) : tl (b :: l) = tl l := by
  unfold tl; rw [List.dropWhile_cons, if_pos h]
theorem tl_cons_non {b : UInt8} {l : By} (h : bla b = false) : tl (b :: l) = b :: l := by
  unfold tl; rw [List.dropWhile_cons, if_neg (by simp [h])]
theorem tl_nil : tl [] = [] := rfl
theorem tb_nil : tb [] = [] := rfl
theorem tl_all {l : By} (h : ∀ b ∈ l, bla b = true) : tl l = [] := by
  induction l with
  | nil => rfl
  | cons b l ih => rw [tl_cons_bla (h b (by simp))]; exact ih fun x hx => h x (by simp [hx])
theorem tl_split (l : By) : (∀ b ∈ l, bla b = true) ∨ ∃ b t, tl l = b :: t ∧ bla b = false := by
  induction l with
  | nil => exact Or.inl (by simp)
  | cons b l ih =>
    cases hb : bla b with
    | false => exact Or.inr ⟨b, l, tl_cons_non hb, hb⟩
    | true =>
      rcases ih with h | ⟨c, t, h, hc⟩
      · exact Or.inl (by intro x hx; exact (List.mem_cons.1 hx).elim (fun e => e ▸ hb) (h x))
      · exact Or.inr ⟨c, t, by rw [tl_cons_bla hb, h], hc⟩
theorem tl_tl (l : By) : tl (tl l) = tl l := by
  rcases tl_split l with h | ⟨b, t, h, hb⟩
  · rw [tl_all h]; rfl
  · rw [h, tl_cons_non hb]
theorem tb_snoc_bla {b : UInt8} {l : By} (h : bla b = true) : tb (l ++ [b]) = tb l := by
  unfold tb; simp [List.dropWhile_cons, h]
theorem tb_snoc_non {b : UInt8} {l : By} (h : bla b = false) : tb (l ++ [b]) = l ++ [b] := by
  unfold tb; simp [List.dropWhile_cons, h]
theorem tb_all {l : By} (h : ∀ b ∈ l, bla b = true) : tb l = [] := by
  unfold tb
  have : tl l.reverse = [] := tl_all fun b hb => h b (by simpa using hb)
  unfold tl at this; rw [this]; rfl
/-- what has a byte that is no blank keeps what stands ahead of it -/
theorem tb_append {l r : By} (h : ∃ b ∈ r, bla b = false) : tb (l ++ r) = l ++ tb r := by
  unfold tb
  rw [List.reverse_append]
  have : ∀ (x y : By), (∃ b ∈ x, bla b = false) → (x ++ y).dropWhile bla = x.dropWhile bla ++ y := by
    intro x y hx
    induction x with
    | nil => obtain ⟨b, hb, _⟩ := hx; cases hb
    | cons c x ih =>
      simp only [List.cons_append, List.dropWhile_cons]
      cases hc : bla c with
      | false => simp
      | true =>
        simp only [if_true]
        apply ih
        obtain ⟨b, hb, hn⟩ := hx
        rcases List.mem_cons.1 hb with rfl | hb
        · rw [hc] at hn; cases hn
        · exact ⟨b, hb, hn⟩
  obtain ⟨b, hb, hn⟩ := h
  rw [this _ _ ⟨b, by simpa using hb, hn⟩, List.reverse_append, List.reverse_reverse]
theorem tb_append_all {l r : By} (h : ∀ b ∈ r, bla b = true) : tb (l ++ r) = tb l := by
  unfold tb
  rw [List.reverse_append]
  have : ∀ (x y : By), (∀ b ∈ x, bla b = true) → (x ++ y).dropWhile bla = y.dropWhile bla := by
    intro x y hx
    induction x with
    | nil => rfl
    | cons c x ih =>
      simp only [List.cons_append, List.dropWhile_cons, hx c (by simp), if_true]
      exact ih fun b hb => hx b (by simp [hb])
  rw [this _ _ (fun b hb => h b (by simpa using hb))]
theorem split_bla (l : By) : ∃ a, l = a ++ tl l ∧ ∀ b ∈ a, bla b = true := by
  induction l with
  | nil => exact ⟨[], rfl, by simp⟩
  | cons c l ih =>
    cases hc : bla c with
    | false => exact ⟨[], by rw [tl_cons_non hc]; rfl, by simp⟩
    | true =>
      obtain ⟨a, ha, hb⟩ := ih
      refine ⟨c :: a, by rw [tl_cons_bla hc, List.cons_append, ← ha], ?_⟩
      intro x hx; exact (List.mem_cons.1 hx).elim (fun e => e ▸ hc) (hb x)
theorem tl_append_all {a r : By} (h : ∀ b ∈ a, bla b = true) : tl (a ++ r) = tl r := by
  induction a with
  | nil => rfl
  | cons c a ih => rw [List.cons_append, tl_cons_bla (h c (by simp))]; exact ih fun b hb => h b (by simp [hb])
/-- both ends may be taken off in either order -/
theorem tb_tl (l : By) : tb (tl l) = tr l := by
  unfold tr
  obtain ⟨a, ha, hb⟩ := split_bla l
  rcases tl_split l with h | ⟨c, t, h, hc⟩
  · rw [tl_all h, tb_all h]; rfl
  · have e : ∃ b ∈ tl l, bla b = false := ⟨c, by rw [h]; simp, hc⟩
    conv => rhs; rw [ha]
    rw [tb_append e, tl_append_all hb, h]
    cases t with
    | nil => unfold tb; simp [List.dropWhile_cons, hc, tl]
    | cons d t =>
      by_cases ht : ∃ b ∈ d :: t, bla b = false
      · rw [show c :: d :: t = [c] ++ (d :: t) from rfl, tb_append ht, List.singleton_append, tl_cons_non hc]
      · have ht : ∀ b ∈ d :: t, bla b = true := fun b hb => by
          cases hh : bla b with
          | true => rfl
          | false => exact absurd ⟨b, hb, hh⟩ ht
        rw [show c :: d :: t = [c] ++ (d :: t) from rfl, tb_append_all ht]
        unfold tb; simp [List.dropWhile_cons, hc, tl]
theorem tl_tr (l : By) : tl (tr l) = tr l := tl_tl _
theorem tr_tl (l : By) : tr (tl l) = tr l := by rw [← tb_tl, tl_tl, tb_tl]
theorem tb_tb (l : By) : tb (tb l) = tb l := by
  unfold tb; rw [List.reverse_reverse]
  have := tl_tl l.reverse
  unfold tl at this; rw [this]
theorem tr_tr (l : By) : tr (tr l) = tr l := by
  show tl (tb (tl (tb l))) = tl (tb l)
  rw [tb_tl]
  show tl (tl (tb (tb l))) = _
  rw [tb_tb, tl_tl]
/-- a line is a word, and what stands behind it -/
theorem wd_rs (l : By) : tl l = wd l ++ rs l := (List.takeWhile_append_dropWhile).symm
theorem wd_non (l : By) : ∀ b ∈ wd l, bla b = false := by
  intro b hb
  have := List.all_takeWhile (p := non) (l := tl l)
  rw [List.all_eq_true] at this
  have := this b hb
  rw [non_bla] at this; simpa using this
theorem rs_head (l : By) : rs l = [] ∨ ∃ t, rs l = 32 :: t := by
  unfold rs
  generalize tl l = x
  induction x with
  | nil => exact Or.inl rfl
  | cons b x ih =>
    rw [List.dropWhile_cons]
    cases hb : non b with
    | true => simpa using ih
    | false =>
      refine Or.inr ⟨x, ?_⟩
      have : b = 32 := by unfold non at hb; simpa using hb
      rw [this]; simp
theorem wd_nil {l : By} (h : wd l = []) : tl l = [] := by
  rcases tl_split l with e | ⟨b, t, e, hb⟩
  · exact tl_all e
  · unfold wd at h; rw [e, List.takeWhile_cons, non_bla, hb] at h; simp at h
theorem tr_nil {l : By} : tr l = [] ↔ wd l = [] := by
  constructor
  · intro h
    rcases tl_split l with e | ⟨b, t, e, hb⟩
    · unfold wd; rw [tl_all e]; rfl
    · exfalso
      rw [← tb_tl, e] at h
      by_cases ht : ∃ c ∈ t, bla c = false
      · rw [show b :: t = [b] ++ t from rfl, tb_append ht] at h; cases h
      · have ht : ∀ c ∈ t, bla c = true := fun c hc => by
          cases hh : bla c with
          | true => rfl
          | false => exact absurd ⟨c, hc, hh⟩ ht
        rw [show b :: t = [b] ++ t from rfl, tb_append_all ht] at h
        unfold tb at h; simp [List.dropWhile_cons, hb] at h
  · intro h; rw [← tb_tl, wd_nil h]; rfl
theorem takeWhile_word {a r : By} (h : ∀ b ∈ a, bla b = false) (hr : r = [] ∨ ∃ t, r = 32 :: t) : (a ++ r).takeWhile non = a ∧ (a ++ r).dropWhile non = r := by
  induction a with
  | nil =>
    rcases hr with rfl | ⟨t, rfl⟩
    · exact ⟨rfl, rfl⟩
    · exact ⟨by rw [List.nil_append, List.takeWhile_cons]; rfl, by rw [List.nil_append, List.dropWhile_cons]; rfl⟩
  | cons c a ih =>
    have hc : non c = true := by rw [non_bla, h c (by simp)]; rfl
    obtain ⟨h1, h2⟩ := ih fun b hb => h b (by simp [hb])
    exact ⟨by rw [List.cons_append, List.takeWhile_cons, if_pos hc, h1], by rw [List.cons_append, List.dropWhile_cons, if_pos hc, h2]⟩
/-- what is left of a line when its first word was taken off, as the program has it -/
def lf (l : By) : By := ((tr l).dropWhile non).tail
/-- the line without blanks around: its first word, then nothing, or a blank and the rest -/
theorem tr_shape (l : By) : (tr l = wd l ∧ tr (rs l) = []) ∨ ∃ t, tr l = wd l ++ 32 :: t ∧ tr t = tr (rs l) := by
  by_cases hw : wd l = []
  · have h0 := wd_nil hw
    refine Or.inl ⟨by rw [tr_nil.2 hw, hw], ?_⟩
    have : rs l = [] := by unfold rs; rw [h0]; rfl
    rw [this]; rfl
  · rw [← tb_tl, wd_rs l]
    by_cases hr : ∃ b ∈ rs l, bla b = false
    · rw [tb_append hr]
      rcases rs_head l with e | ⟨t, e⟩
      · rw [e] at hr; obtain ⟨b, hb, _⟩ := hr; cases hb
      · rw [e] at hr ⊢
        have ht : ∃ b ∈ t, bla b = false := by
          obtain ⟨b, hb, hn⟩ := hr
          rcases List.mem_cons.1 hb with rfl | hb
          · cases hn
          · exact ⟨b, hb, hn⟩
        rw [show (32 : UInt8) :: t = [32] ++ t from rfl, tb_append ht]
        refine Or.inr ⟨tb t, rfl, ?_⟩
        have e1 : tr (tb t) = tr t := by unfold tr; rw [tb_tb]
        rw [e1, ← tr_tl ([32] ++ t), List.singleton_append, tl_cons_bla rfl, tr_tl]
    · have hr : ∀ b ∈ rs l, bla b = true := fun b hb => by
        cases hh : bla b with
        | true => rfl
        | false => exact absurd ⟨b, hb, hh⟩ hr
      refine Or.inl ⟨?_, by unfold tr; rw [tb_all hr]; rfl⟩
      rw [tb_append_all hr]
      unfold tb
      have : wd l = (wd l).reverse.reverse := by simp
      generalize hx : (wd l).reverse = x at *
      cases x with
      | nil => simp at this; exact absurd this hw
      | cons c x =>
        have hc : bla c = false := wd_non l c (by rw [this]; simp)
        rw [List.dropWhile_cons, if_neg (by simp [hc]), ← this]
theorem wd_tr (l : By) : (tr l).takeWhile non = wd l := by
  rcases tr_shape l with ⟨h, _⟩ | ⟨t, h, _⟩
  · have := (takeWhile_word (r := []) (wd_non l) (Or.inl rfl)).1
    rw [List.append_nil] at this; rw [h]; exact this
  · rw [h]; exact (takeWhile_word (wd_non l) (Or.inr ⟨t, rfl⟩)).1
theorem wd_of_tr (l : By) : wd (tr l) = wd l := by
  show (tl (tr l)).takeWhile non = _
  rw [tl_tr]; exact wd_tr l
theorem tr_lf (l : By) : tr (lf l) = tr (rs l) := by
  unfold lf
  rcases tr_shape l with ⟨h, h2⟩ | ⟨t, h, h2⟩
  · have := (takeWhile_word (r := []) (wd_non l) (Or.inl rfl)).2
    rw [List.append_nil] at this; rw [h, this, h2]; rfl
  · rw [h, (takeWhile_word (wd_non l) (Or.inr ⟨t, rfl⟩)).2]; exact h2
theorem lf_tr {l m : By} (h : tr l = tr m) : lf l = lf m := by unfold lf; rw [h]
theorem wd_eq {l m : By} (h : tr l = tr m) : wd l = wd m := by rw [← wd_of_tr l, h, wd_of_tr]
theorem wd_lf (l : By) : wd (lf l) = wd (rs l) := wd_eq (tr_lf l)
theorem tr_rs {l m : By} (h : tr l = tr m) : tr (rs l) = tr (rs m) := by rw [← tr_lf, ← tr_lf, lf_tr h]
/-- words, byte by byte -/
def wgo : List By → By → By → List By
  | out, cur, [] => if cur = [] then out else out ++ [cur]
  | out, cur, b :: l => if bla b = true then wgo (if cur = [] then out else out ++ [cur]) [] l else wgo out (cur ++ [b]) l
def wds (l : By) : List By := wgo [] [] l
theorem wgo_out (out : List By) (cur l : By) : wgo out cur l = out ++ wgo [] cur l := by
  induction l generalizing out cur with
  | nil => unfold wgo; split <;> simp
  | cons b l ih =>
    unfold wgo
    split
    · rw [ih, ih (if cur = [] then [] else [] ++ [cur])]
      split <;> simp
    · rw [ih]
theorem wgo_word (cur l : By) (h : cur ≠ []) : wgo [] cur l = (cur ++ l.takeWhile non) :: wds (l.dropWhile non) := by
  induction l generalizing cur with
  | nil => unfold wgo; rw [if_neg h]; simp [wds, wgo]
  | cons b l ih =>
    unfold wgo
    rw [List.takeWhile_cons, List.dropWhile_cons, non_bla]
    cases hb : bla b with
    | true =>
      simp only [if_true, if_neg h, Bool.not_true, Bool.false_eq_true, if_false, List.append_nil, List.nil_append]
      rw [wgo_out]
      simp only [wds, List.singleton_append]
      conv => rhs; rw [wgo]
      simp [hb]
    | false =>
      simp only [Bool.false_eq_true, if_false, Bool.not_false, if_true]
      rw [ih _ (by simp)]; simp
theorem wds_tl (l : By) : wds l = wds (tl l) := by
  induction l with
  | nil => rfl
  | cons b l ih =>
    cases hb : bla b with
    | false => rw [tl_cons_non hb]
    | true =>
      rw [tl_cons_bla hb, ← ih]
      show wgo [] [] (b :: l) = _
      rw [wgo]; simp [hb, wds]
theorem wds_eq (l : By) : wds l = if wd l = [] then [] else wd l :: wds (rs l) := by
  rw [wds_tl]
  split
  · rename_i h; rw [wd_nil h]; rfl
  · rename_i h
    rcases tl_split l with e | ⟨b, t, e, hb⟩
    · exfalso; apply h; unfold wd; rw [tl_all e]; rfl
    · have e1 : wd l = b :: t.takeWhile non := by unfold wd; rw [e, List.takeWhile_cons, non_bla, hb]; rfl
      have e2 : rs l = t.dropWhile non := by unfold rs; rw [e, List.dropWhile_cons, non_bla, hb]; rfl
      rw [e, e1, e2]
      show wgo [] [] (b :: t) = _
      rw [wgo]
      simp only [hb, Bool.false_eq_true, if_false, List.nil_append]
      rw [wgo_word _ _ (by simp)]; rfl
end Go.Proofs.YtbkcgkffafjbgaaDoor
