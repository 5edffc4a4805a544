/- Acts that are read off a line; the program's side. -/
import Derived.WalkKit
import Derived.Lib.TrimByte
import Derived.Test.YtbkcgkffafjbgaaGreatDoorGb
import Derived.WalkSpells
import Derived.WalkLawsBesides
import Derived.Handy
import Derived.Outline
import Derived.Deep.QuietTactic
import Derived.BigQuiet
import Derived.BigRegion
import Derived.Deep.RegionHeld3
import Derived.OwnWalk
import Derived.Laws.AppendOwn
import Derived.Deep.AppendLies
import Derived.Deep.AppendSrc
import Derived.Test.YtbkcgkffafjbgaaGreatDoorShf
import Derived.Laws.Rows
/- Words of a line, as functions on lists of bytes; no program in it. -/
namespace Go.Proofs.YtbkcgkffafjbgaaGreatDoor
set_option linter.unusedSimpArgs false
abbrev By := List UInt8
def bla (b : UInt8) : Bool := b == 32
def non (b : UInt8) : Bool := b != 32
theorem non_bla (b : UInt8) : non b = !bla b := rfl
/-- without the blanks ahead -/
def tl (l : By) : By := l.dropWhile bla
/-- without the blanks behind -/
def tb (l : By) : By := (l.reverse.dropWhile bla).reverse
/-- without the blanks around -/
def tr (l : By) : By := tl (tb l)
/-- the first word -/
def wd (l : By) : By := (tl l).takeWhile non
/-- what stands behind the first word -/
def rs (l : By) : By := (tl l).dropWhile non
theorem tr_lib (l : By) : Lib.trimB l 32 = tr l := rfl
theorem tl_cons_bla {b : UInt8} {l : By} (h : bla b = true) : tl (b :: l) = tl l := by
  unfold tl; rw [List.dropWhile_cons, if_pos h]
theorem tl_cons_non {b : UInt8} {l : By} (h : bla b = false) : tl (b :: l) = b :: l := by
  unfold tl; rw [List.dropWhile_cons, if_neg (by simp [h])]
theorem tl_nil : tl [] = [] := rfl
theorem tb_nil : tb [] = [] := rfl
theorem tl_all {l : By} (h : ∀ b ∈ l, bla b = true) : tl l = [] := by
  induction l with
  | nil => rfl
  | cons b l ih => rw [tl_cons_bla (h b (by simp))]; exact ih fun x hx => h x (by simp [hx])
theorem tl_split (l : By) : (∀ b ∈ l, bla b = true) ∨ ∃ b t, tl l = b :: t ∧ bla b = false := by
  induction l with
  | nil => exact Or.inl (by simp)
  | cons b l ih =>
    cases hb : bla b with
    | false => exact Or.inr ⟨b, l, tl_cons_non hb, hb⟩
    | true =>
      rcases ih with h | ⟨c, t, h, hc⟩
      · exact Or.inl (by intro x hx; exact (List.mem_cons.1 hx).elim (fun e => e ▸ hb) (h x))
      · exact Or.inr ⟨c, t, by rw [tl_cons_bla hb, h], hc⟩
theorem tl_tl (l : By) : tl (tl l) = tl l := by
  rcases tl_split l with h | ⟨b, t, h, hb⟩
  · rw [tl_all h]; rfl
  · rw [h, tl_cons_non hb]
theorem tb_snoc_bla {b : UInt8} {l : By} (h : bla b = true) : tb (l ++ [b]) = tb l := by
  unfold tb; simp [List.dropWhile_cons, h]
theorem tb_snoc_non {b : UInt8} {l : By} (h : bla b = false) : tb (l ++ [b]) = l ++ [b] := by
  unfold tb; simp [List.dropWhile_cons, h]
theorem tb_all {l : By} (h : ∀ b ∈ l, bla b = true) : tb l = [] := by
  unfold tb
  have : tl l.reverse = [] := tl_all fun b hb => h b (by simpa using hb)
  unfold tl at this; rw [this]; rfl
/-- what has a byte that is no blank keeps what stands ahead of it -/
theorem tb_append {l r : By} (h : ∃ b ∈ r, bla b = false) : tb (l ++ r) = l ++ tb r := by
  unfold tb
  rw [List.reverse_append]
  have : ∀ (x y : By), (∃ b ∈ x, bla b = false) → (x ++ y).dropWhile bla = x.dropWhile bla ++ y := by
    intro x y hx
    induction x with
    | nil => obtain ⟨b, hb, _⟩ := hx; cases hb
    | cons c x ih =>
      simp only [List.cons_append, List.dropWhile_cons]
      cases hc : bla c with
      | false => simp
      | true =>
        simp only [if_true]
        apply ih
        obtain ⟨b, hb, hn⟩ := hx
        rcases List.mem_cons.1 hb with rfl | hb
        · rw [hc] at hn; cases hn
        · exact ⟨b, hb, hn⟩
  obtain ⟨b, hb, hn⟩ := h
  rw [this _ _ ⟨b, by simpa using hb, hn⟩, List.reverse_append, List.reverse_reverse]
theorem tb_append_all {l r : By} (h : ∀ b ∈ r, bla b = true) : tb (l ++ r) = tb l := by
  unfold tb
  rw [List.reverse_append]
  have : ∀ (x y : By), (∀ b ∈ x, bla b = true) → (x ++ y).dropWhile bla = y.dropWhile bla := by
    intro x y hx
    induction x with
    | nil => rfl
    | cons c x ih =>
      simp only [List.cons_append, List.dropWhile_cons, hx c (by simp), if_true]
      exact ih fun b hb => hx b (by simp [hb])
  rw [this _ _ (fun b hb => h b (by simpa using hb))]
theorem split_bla (l : By) : ∃ a, l = a ++ tl l ∧ ∀ b ∈ a, bla b = true := by
  induction l with
  | nil => exact ⟨[], rfl, by simp⟩
  | cons c l ih =>
    cases hc : bla c with
    | false => exact ⟨[], by rw [tl_cons_non hc]; rfl, by simp⟩
    | true =>
      obtain ⟨a, ha, hb⟩ := ih
      refine ⟨c :: a, by rw [tl_cons_bla hc, List.cons_append, ← ha], ?_⟩
      intro x hx; exact (List.mem_cons.1 hx).elim (fun e => e ▸ hc) (hb x)
theorem tl_append_all {a r : By} (h : ∀ b ∈ a, bla b = true) : tl (a ++ r) = tl r := by
  induction a with
  | nil => rfl
  | cons c a ih => rw [List.cons_append, tl_cons_bla (h c (by simp))]; exact ih fun b hb => h b (by simp [hb])
/-- both ends may be taken off in either order -/
theorem tb_tl (l : By) : tb (tl l) = tr l := by
  unfold tr
  obtain ⟨a, ha, hb⟩ := split_bla l
  rcases tl_split l with h | ⟨c, t, h, hc⟩
  · rw [tl_all h, tb_all h]; rfl
  · have e : ∃ b ∈ tl l, bla b = false := ⟨c, by rw [h]; simp, hc⟩
    conv => rhs; rw [ha]
    rw [tb_append e, tl_append_all hb, h]
    cases t with
    | nil => unfold tb; simp [List.dropWhile_cons, hc, tl]
    | cons d t =>
      by_cases ht : ∃ b ∈ d :: t, bla b = false
      · rw [show c :: d :: t = [c] ++ (d :: t) from rfl, tb_append ht, List.singleton_append, tl_cons_non hc]
      · have ht : ∀ b ∈ d :: t, bla b = true := fun b hb => by
          cases hh : bla b with
          | true => rfl
          | false => exact absurd ⟨b, hb, hh⟩ ht
        rw [show c :: d :: t = [c] ++ (d :: t) from rfl, tb_append_all ht]
        unfold tb; simp [List.dropWhile_cons, hc, tl]
theorem tl_tr (l : By) : tl (tr l) = tr l := tl_tl _
theorem tr_tl (l : By) : tr (tl l) = tr l := by rw [← tb_tl, tl_tl, tb_tl]
theorem tb_tb (l : By) : tb (tb l) = tb l := by
  unfold tb; rw [List.reverse_reverse]
  have := tl_tl l.reverse
  unfold tl at this; rw [this]
theorem tr_tr (l : By) : tr (tr l) = tr l := by
  show tl (tb (tl (tb l))) = tl (tb l)
  rw [tb_tl]
  show tl (tl (tb (tb l))) = _
  rw [tb_tb, tl_tl]
/-- a line is a word, and what stands behind it -/
theorem wd_rs (l : By) : tl l = wd l ++ rs l := (List.takeWhile_append_dropWhile).symm
theorem wd_non (l : By) : ∀ b ∈ wd l, bla b = false := by
  intro b hb
  have := List.all_takeWhile (p := non) (l := tl l)
  rw [List.all_eq_true] at this
  have := this b hb
  rw [non_bla] at this; simpa using this
theorem rs_head (l : By) : rs l = [] ∨ ∃ t, rs l = 32 :: t := by
  unfold rs
  generalize tl l = x
  induction x with
  | nil => exact Or.inl rfl
  | cons b x ih =>
    rw [List.dropWhile_cons]
    cases hb : non b with
    | true => simpa using ih
    | false =>
      refine Or.inr ⟨x, ?_⟩
      have : b = 32 := by unfold non at hb; simpa using hb
      rw [this]; simp
theorem wd_nil {l : By} (h : wd l = []) : tl l = [] := by
  rcases tl_split l with e | ⟨b, t, e, hb⟩
  · exact tl_all e
  · unfold wd at h; rw [e, List.takeWhile_cons, non_bla, hb] at h; simp at h
theorem tr_nil {l : By} : tr l = [] ↔ wd l = [] := by
  constructor
  · intro h
    rcases tl_split l with e | ⟨b, t, e, hb⟩
    · unfold wd; rw [tl_all e]; rfl
    · exfalso
      rw [← tb_tl, e] at h
      by_cases ht : ∃ c ∈ t, bla c = false
      · rw [show b :: t = [b] ++ t from rfl, tb_append ht] at h; cases h
      · have ht : ∀ c ∈ t, bla c = true := fun c hc => by
          cases hh : bla c with
          | true => rfl
          | false => exact absurd ⟨c, hc, hh⟩ ht
        rw [show b :: t = [b] ++ t from rfl, tb_append_all ht] at h
        unfold tb at h; simp [List.dropWhile_cons, hb] at h
  · intro h; rw [← tb_tl, wd_nil h]; rfl
theorem takeWhile_word {a r : By} (h : ∀ b ∈ a, bla b = false) (hr : r = [] ∨ ∃ t, r = 32 :: t) : (a ++ r).takeWhile non = a ∧ (a ++ r).dropWhile non = r := by
  induction a with
  | nil =>
    rcases hr with rfl | ⟨t, rfl⟩
    · exact ⟨rfl, rfl⟩
    · exact ⟨by rw [List.nil_append, List.takeWhile_cons]; rfl, by rw [List.nil_append, List.dropWhile_cons]; rfl⟩
  | cons c a ih =>
    have hc : non c = true := by rw [non_bla, h c (by simp)]; rfl
    obtain ⟨h1, h2⟩ := ih fun b hb => h b (by simp [hb])
    exact ⟨by rw [List.cons_append, List.takeWhile_cons, if_pos hc, h1], by rw [List.cons_append, List.dropWhile_cons, if_pos hc, h2]⟩
/-- what is left of a line when its first word was taken off, as the program has it -/
def lf (l : By) : By := ((tr l).dropWhile non).tail
/-- the line without blanks around: its first word, then nothing, or a blank and the rest -/
theorem tr_shape (l : By) : (tr l = wd l ∧ tr (rs l) = []) ∨ ∃ t, tr l = wd l ++ 32 :: t ∧ tr t = tr (rs l) := by
  by_cases hw : wd l = []
  · have h0 := wd_nil hw
    refine Or.inl ⟨by rw [tr_nil.2 hw, hw], ?_⟩
    have : rs l = [] := by unfold rs; rw [h0]; rfl
    rw [this]; rfl
  · rw [← tb_tl, wd_rs l]
    by_cases hr : ∃ b ∈ rs l, bla b = false
    · rw [tb_append hr]
      rcases rs_head l with e | ⟨t, e⟩
      · rw [e] at hr; obtain ⟨b, hb, _⟩ := hr; cases hb
      · rw [e] at hr ⊢
        have ht : ∃ b ∈ t, bla b = false := by
          obtain ⟨b, hb, hn⟩ := hr
          rcases List.mem_cons.1 hb with rfl | hb
          · cases hn
          · exact ⟨b, hb, hn⟩
        rw [show (32 : UInt8) :: t = [32] ++ t from rfl, tb_append ht]
        refine Or.inr ⟨tb t, rfl, ?_⟩
        have e1 : tr (tb t) = tr t := by unfold tr; rw [tb_tb]
        rw [e1, ← tr_tl ([32] ++ t), List.singleton_append, tl_cons_bla rfl, tr_tl]
    · have hr : ∀ b ∈ rs l, bla b = true := fun b hb => by
        cases hh : bla b with
        | true => rfl
        | false => exact absurd ⟨b, hb, hh⟩ hr
      refine Or.inl ⟨?_, by unfold tr; rw [tb_all hr]; rfl⟩
      rw [tb_append_all hr]
      unfold tb
      have : wd l = (wd l).reverse.reverse := by simp
      generalize hx : (wd l).reverse = x at *
      cases x with
      | nil => simp at this; exact absurd this hw
      | cons c x =>
        have hc : bla c = false := wd_non l c (by rw [this]; simp)
        rw [List.dropWhile_cons, if_neg (by simp [hc]), ← this]
theorem wd_tr (l : By) : (tr l).takeWhile non = wd l := by
  rcases tr_shape l with ⟨h, _⟩ | ⟨t, h, _⟩
  · have := (takeWhile_word (r := []) (wd_non l) (Or.inl rfl)).1
    rw [List.append_nil] at this; rw [h]; exact this
  · rw [h]; exact (takeWhile_word (wd_non l) (Or.inr ⟨t, rfl⟩)).1
theorem wd_of_tr (l : By) : wd (tr l) = wd l := by
  show (tl (tr l)).takeWhile non = _
  rw [tl_tr]; exact wd_tr l
theorem tr_lf (l : By) : tr (lf l) = tr (rs l) := by
  unfold lf
  rcases tr_shape l with ⟨h, h2⟩ | ⟨t, h, h2⟩
  · have := (takeWhile_word (r := []) (wd_non l) (Or.inl rfl)).2
    rw [List.append_nil] at this; rw [h, this, h2]; rfl
  · rw [h, (takeWhile_word (wd_non l) (Or.inr ⟨t, rfl⟩)).2]; exact h2
theorem lf_tr {l m : By} (h : tr l = tr m) : lf l = lf m := by unfold lf; rw [h]
theorem wd_eq {l m : By} (h : tr l = tr m) : wd l = wd m := by rw [← wd_of_tr l, h, wd_of_tr]
theorem wd_lf (l : By) : wd (lf l) = wd (rs l) := wd_eq (tr_lf l)
theorem tr_rs {l m : By} (h : tr l = tr m) : tr (rs l) = tr (rs m) := by rw [← tr_lf, ← tr_lf, lf_tr h]
/-- words, byte by byte -/
def wgo : List By → By → By → List By
  | out, cur, [] => if cur = [] then out else out ++ [cur]
  | out, cur, b :: l => if bla b = true then wgo (if cur = [] then out else out ++ [cur]) [] l else wgo out (cur ++ [b]) l
def wds (l : By) : List By := wgo [] [] l
theorem wgo_out (out : List By) (cur l : By) : wgo out cur l = out ++ wgo [] cur l := by
  induction l generalizing out cur with
  | nil => unfold wgo; split <;> simp
  | cons b l ih =>
    unfold wgo
    split
    · rw [ih, ih (if cur = [] then [] else [] ++ [cur])]
      split <;> simp
    · rw [ih]
theorem wgo_word (cur l : By) (h : cur ≠ []) : wgo [] cur l = (cur ++ l.takeWhile non) :: wds (l.dropWhile non) := by
  induction l generalizing cur with
  | nil => unfold wgo; rw [if_neg h]; simp [wds, wgo]
  | cons b l ih =>
    unfold wgo
    rw [List.takeWhile_cons, List.dropWhile_cons, non_bla]
    cases hb : bla b with
    | true =>
      simp only [if_true, if_neg h, Bool.not_true, Bool.false_eq_true, if_false, List.append_nil, List.nil_append]
      rw [wgo_out]
      simp only [wds, List.singleton_append]
      conv => rhs; rw [wgo]
      simp [hb]
    | false =>
      simp only [Bool.false_eq_true, if_false, Bool.not_false, if_true]
      rw [ih _ (by simp)]; simp
theorem wds_tl (l : By) : wds l = wds (tl l) := by
  induction l with
  | nil => rfl
  | cons b l ih =>
    cases hb : bla b with
    | false => rw [tl_cons_non hb]
    | true =>
      rw [tl_cons_bla hb, ← ih]
      show wgo [] [] (b :: l) = _
      rw [wgo]; simp [hb, wds]
theorem wds_eq (l : By) : wds l = if wd l = [] then [] else wd l :: wds (rs l) := by
  rw [wds_tl]
  split
  · rename_i h; rw [wd_nil h]; rfl
  · rename_i h
    rcases tl_split l with e | ⟨b, t, e, hb⟩
    · exfalso; apply h; unfold wd; rw [tl_all e]; rfl
    · have e1 : wd l = b :: t.takeWhile non := by unfold wd; rw [e, List.takeWhile_cons, non_bla, hb]; rfl
      have e2 : rs l = t.dropWhile non := by unfold rs; rw [e, List.dropWhile_cons, non_bla, hb]; rfl
      rw [e, e1, e2]
      show wgo [] [] (b :: t) = _
      rw [wgo]
      simp only [hb, Bool.false_eq_true, if_false, List.nil_append]
      rw [wgo_word _ _ (by simp)]; rfl
end Go.Proofs.YtbkcgkffafjbgaaGreatDoor
/- A line that is read: what is left of it, its next word; the program's side. -/
namespace Go.Proofs.YtbkcgkffafjbgaaGreatDoor
open Go.RowKit
set_option maxHeartbeats 4000000
set_option maxRecDepth 20000
def bs (l : By) : ByteArray := ⟨l.toArray⟩
theorem bs_size (l : By) : (bs l).size = l.length := by simp [bs, ByteArray.size]
theorem bs_list (l : By) : (bs l).data.toList = l := by simp [bs]
theorem bs_of (s : ByteArray) : bs s.data.toList = s := by cases s; simp [bs]
/-- what is left of a line, in its block -/
def U (q : Nat) (l : By) (w : World) : Prop := w.heap[q]? = some (.cells #[.string (bs l)] 61 (0, 0))
theorem U.lt {q : Nat} {l : By} {w : World} (h : U q l w) : q < w.heap.size := (Array.getElem?_eq_some_iff.1 h).1
theorem U.below {q : Nat} {l : By} {w w' : World} (h : U q l w) (hb : Below w.heap.size w w') : U q l w' := (hb.block q h.lt).trans h
theorem U.cell {q : Nat} {l : By} {w : World} (h : U q l w) : w.cell? ⟨q, 0, none⟩ = some (.string (bs l)) := by rw [row_cell h]; rfl
theorem U.free {q : Nat} {l : By} {w : World} (h : U q l w) : w.frozen? ⟨q, 0, none⟩ = false := row_free h
theorem U.set {q : Nat} {l m : By} {w : World} (h : U q l w) : U q m (w.setCell ⟨q, 0, none⟩ (.string (bs m))) := by
  have := row_set (i := 0) (v := .string (bs m)) h
  unfold U
  simpa using this
theorem text21 (q : Nat) (l : By) (w : World) (hu : U q l w) (hl : l.length ≤ 65536) :
    Calls Tryz.prog 65 #[.pointer (some ⟨q, 0, none⟩)] w fun e w' => e = .returned (.string (bs (tr l))) ∧ (w' = w ∨ w' = w.drew) := by
  have c := hu.cell
  have K := strings_Trim_one (bs l) 32 (by decide) w (by rw [bs_size]; omega)
  rw [bs_list, tr_lib] at K
  clear hu
  go_enter Tryz.func65, Tryz.ntmps65
  go_wp2_with (go_at_call 33; refine K.mono ?_; rintro e w' ⟨rfl, hw⟩)
  go_ret
  exact ⟨rfl, hw⟩
theorem idx_one (l : By) : (Lib.indexByte l 32 = -1 ∧ l.takeWhile non = l ∧ l.dropWhile non = []) ∨
    (Lib.indexByte l 32 = ((l.takeWhile non).length : Int) ∧ (l.takeWhile non).length < l.length ∧ l.take (l.takeWhile non).length = l.takeWhile non ∧ l.drop ((l.takeWhile non).length + 1) = (l.dropWhile non).tail) := by
  induction l with
  | nil => exact Or.inl ⟨rfl, rfl, rfl⟩
  | cons b l ih =>
    unfold Lib.indexByte
    rw [List.takeWhile_cons, List.dropWhile_cons]
    by_cases hb : b = 32
    · subst hb
      exact Or.inr ⟨rfl, by simp [non], by simp [non], by simp [non]⟩
    · have hn : non b = true := by unfold non; simpa using hb
      rw [if_neg (by simpa using hb), if_pos hn, if_pos hn]
      rcases ih with ⟨h1, h2, h3⟩ | ⟨h1, h2, h3, h4⟩
      · exact Or.inl ⟨by rw [h1]; rfl, by rw [h2], h3⟩
      · refine Or.inr ⟨?_, by simp; omega, by simp [h3], by simp [h4]⟩
        rw [h1, if_neg (by simp)]; simp
theorem extract_take (l : By) (k : Nat) : (bs l).extract 0 k = bs (l.take k) := by
  simp [bs, ByteArray.extract, ByteArray.copySlice]
theorem extract_drop (l : By) (k : Nat) : (bs l).extract k l.length = bs (l.drop k) := by
  simp [bs, ByteArray.extract, ByteArray.copySlice]
  exact List.take_of_length_le (by simp)
theorem dropWhile_len (p : UInt8 → Bool) (l : By) : (l.dropWhile p).length ≤ l.length := by
  induction l with
  | nil => simp
  | cons b l ih => rw [List.dropWhile_cons]; split <;> simp <;> omega
theorem cut28 (l : By) (w : World) (hl : l.length ≤ 65536) :
    Calls Tryz.prog 83 #[.string (bs l), .string ⟨#[32]⟩] w fun e w' => (∃ b, e = .returned (.tuple #[.string (bs (l.takeWhile non)), .string (bs ((l.dropWhile non).tail)), .bool b])) ∧ ∃ n, w' = w.drewN n := by
  have K := stringslite_Index_one (bs l) 32 w
  rw [bs_list] at K
  have hs := bs_size l
  rcases idx_one l with ⟨h1, h2, h3⟩ | ⟨h1, h2, h3, h4⟩
  · rw [h1] at K
    rw [h2, h3]
    go_enter Tryz.func83, Tryz.ntmps83
    go_wp2_with (go_at_call 86; refine K.mono ?_; rintro e w' ⟨rfl, rfl⟩)
    refine bodyPost_ret (results_tmp3 rfl _ _ _) rfl ?_
    exact ⟨⟨_, rfl⟩, 0, rfl⟩
  · rw [h1] at K
    rw [← h3, ← h4]
    generalize (l.takeWhile non).length = k at *
    have k0 : (0 : Int) ≤ (k : Int) := by omega
    have k1 : (k : Int) + 1 ≤ ((bs l).size : Int) := by rw [hs]; omega
    have k2 : ((bs l).size : Int) ≤ 65536 := by rw [hs]; omega
    have hk : Hid (k < l.length) := hide h2
    clear h1 h2 h3 h4 hl
    go_enter Tryz.func83, Tryz.ntmps83
    go_wp2_with (go_at_call 86; refine K.mono ?_; rintro e w' ⟨rfl, rfl⟩)
    go_quiet (fail)
    go_wp2
    refine bodyPost_ret (results_tmp3 rfl _ _ _) rfl ?_
    rw [← extract_take, ← extract_drop]
    exact ⟨⟨_, rfl⟩, _, rfl⟩
theorem cut25 (l : By) (w : World) (hl : l.length ≤ 65536) :
    Calls Tryz.prog 69 #[.string (bs l), .string ⟨#[32]⟩] w fun e w' => (∃ b, e = .returned (.tuple #[.string (bs (l.takeWhile non)), .string (bs ((l.dropWhile non).tail)), .bool b])) ∧ ∃ n, w' = w.drewN n := by
  have K := cut28 l w hl
  go_enter Tryz.func69, Tryz.ntmps69
  go_wp2_with (go_at_call 83; refine K.mono ?_; rintro e w' ⟨⟨b, rfl⟩, n, rfl⟩)
  refine bodyPost_ret (results_tmp3 rfl _ _ _) rfl ?_
  exact ⟨⟨_, rfl⟩, _, rfl⟩
theorem tr_len (l : By) : (tr l).length ≤ l.length := by
  unfold tr tl tb
  refine Nat.le_trans (dropWhile_len ..) ?_
  rw [List.length_reverse]
  refine Nat.le_trans (dropWhile_len ..) ?_
  simp
theorem lf_len (l : By) : (lf l).length ≤ l.length := by
  unfold lf
  rw [List.length_tail]
  have := dropWhile_len non (tr l)
  have := tr_len l
  omega
theorem U.drew {q : Nat} {l : By} {w : World} (h : U q l w) : U q l w.drew := h
theorem Lone.drewN (q n : Nat) (w : World) : Lone q w (w.drewN n) := Lone.of_below (below_drewN (Below.refl _ _) n)
theorem word18 (q : Nat) (l : By) (w : World) (hu : U q l w) (hl : l.length ≤ 65536) :
    Calls Tryz.prog 47 #[.pointer (some ⟨q, 0, none⟩)] w fun e w' => e = .returned (.string (bs (wd l))) ∧ U q (lf l) w' ∧ Lone q w w' := by
  have K := text21 q l w hu hl
  have HU := hide hu
  have hl' := Nat.le_trans (tr_len l) hl
  clear hu
  go_enter Tryz.func47, Tryz.ntmps47
  go_wp2_with (go_at_call 65; refine K.mono ?_; rintro e w1 ⟨rfl, hw⟩)
  have HU1 : Hid (U q l w1) := by rcases hw with rfl | rfl; exact HU; exact HU
  have HB1 : Hid (Lone q w w1) := by rcases hw with rfl | rfl; exact hide (Lone.refl _ _); exact hide (Lone.drewN _ 1 _)
  have K2 := cut25 (tr l) w1 hl'
  rw [wd_tr] at K2
  clear hw K HU
  go_wp2_with (go_at_call 69; refine K2.mono ?_; rintro e w2 ⟨⟨b, rfl⟩, n, rfl⟩; have c2 := (unhide HU1).cell; have f2 := (unhide HU1).free)
  go_ret
  refine ⟨rfl, ?_, ?_⟩
  · exact U.set (m := lf l) (show U q l (w1.drewN n) from unhide HU1)
  · exact ((unhide HB1).trans (Lone.drewN q n w1)).trans (lone_setCell q 0 _ _)
/-- the names of both who talk, in their block -/
def Nm (w : World) : Prop := ∃ t fr, w.heap[1]? = some (.cells #[.string ⟨#[97]⟩, .string ⟨#[98]⟩] t fr)
theorem Nm.lt {w : World} (h : Nm w) : 1 < w.heap.size := by obtain ⟨t, fr, h⟩ := h; exact (Array.getElem?_eq_some_iff.1 h).1
theorem Nm.lone {q : Nat} {w w' : World} (h : Nm w) (hl : Lone q w w') (hq : 1 < q) : Nm w' := by
  obtain ⟨t, fr, e⟩ := h
  exact ⟨t, fr, (hl.block 1 (Array.getElem?_eq_some_iff.1 e).1 (by omega)).trans e⟩
theorem Nm.below {w w' : World} (h : Nm w) (hl : Below w.heap.size w w') : Nm w' := by
  obtain ⟨t, fr, e⟩ := h
  exact ⟨t, fr, (hl.block 1 (Array.getElem?_eq_some_iff.1 e).1).trans e⟩
theorem Nm.c0 {w : World} (h : Nm w) : w.cell? ⟨1, 0, none⟩ = some (.string ⟨#[97]⟩) := by obtain ⟨t, fr, e⟩ := h; unfold World.cell?; rw [e]; rfl
theorem Nm.c1 {w : World} (h : Nm w) : w.cell? ⟨1, 1, none⟩ = some (.string ⟨#[98]⟩) := by obtain ⟨t, fr, e⟩ := h; unfold World.cell?; rw [e]; rfl
abbrev formP : PanicEntry := { v := .iface 3 (.int .i64 3), recovered := false }
/-- what a reading of a part of a line ends in: a value, or the panic of a line that is no act -/
def ends (o : Option Value) (l' : By) (q : Nat) (w : World) (e : Ending) (w' : World) : Prop :=
  match o with
  | some v => e = .returned v ∧ U q l' w' ∧ Lone q w w'
  | none => e = .panicked [formP] ∧ Lone q w w'
/-- who is named -/
def whoF (x : By) : Option Int := if x = [97] then some 0 else if x = [98] then some 1 else none
theorem bs_inj {l m : By} : bs l = bs m ↔ l = m := by
  constructor
  · intro h; have := congrArg (fun b => b.data.toList) h; simpa [bs] using this
  · rintro rfl; rfl
theorem bs_toList (l : By) : (bs l).toList = l := by rw [ByteArray.toList_eq, bs_list]
theorem lone_dr {q : Nat} {w w1 : World} (h : w1 = w ∨ w1 = w.drew) : Lone q w w1 := by
  rcases h with rfl | rfl
  · exact Lone.refl _ _
  · exact Lone.drewN _ 1 _
theorem U.dr {q : Nat} {l : By} {w w1 : World} (hu : U q l w) (h : w1 = w ∨ w1 = w.drew) : U q l w1 := by
  rcases h with rfl | rfl
  · exact hu
  · exact hu
theorem end24 (q : Nat) (l : By) (w : World) (hu : U q l w) (hl : l.length ≤ 65536) :
    Calls Tryz.prog 68 #[.pointer (some ⟨q, 0, none⟩)] w (ends (if tr l = [] then some (.tuple #[]) else none) l q w) := by
  have K := text21 q l w hu hl
  have HU := hide hu
  clear hu
  have hx := bs_toList (tr l)
  generalize tr l = x at *
  generalize bs x = t at *
  by_cases h : x = []
  · rw [if_pos h]
    have he : t.toList.isEmpty = true := by rw [hx, h]; rfl
    clear hx
    go_enter Tryz.func68, Tryz.ntmps68
    go_wp2_with (go_at_call 65; refine K.mono ?_; rintro e w1 ⟨rfl, hw⟩)
    refine bodyPost_end (results_none rfl _ _ _) rfl ?_
    exact ⟨rfl, (unhide HU).dr hw, lone_dr hw⟩
  · rw [if_neg h]
    have he : t.toList.isEmpty = false := by rw [hx]; cases x; exact absurd rfl h; rfl
    clear hx
    go_enter Tryz.func68, Tryz.ntmps68
    go_wp2_with (go_at_call 65; refine K.mono ?_; rintro e w1 ⟨rfl, hw⟩)
    exact ⟨rfl, rfl, lone_dr hw⟩
abbrev nmA : Value := .agg #[.string ⟨#[97]⟩, .string ⟨#[98]⟩]
theorem ix0 (W : World) : (Instr.index 115 nmA (.int .i64 0)).run Tryz.prog W = .ok (.string ⟨#[97]⟩) W := by kernel_rfl
theorem ix1 (W : World) : (Instr.index 115 nmA (.int .i64 1)).run Tryz.prog W = .ok (.string ⟨#[98]⟩) W := by kernel_rfl
theorem who19 (q : Nat) (l : By) (w : World) (hu : U q l w) (hn : Nm w) (hq : 1 < q) (hl : l.length ≤ 65536) :
    Calls Tryz.prog 63 #[.pointer (some ⟨q, 0, none⟩)] w (ends ((whoF (wd l)).map (Value.int .i64)) (lf l) q w) := by
  have K := word18 q l w hu hl
  have HN := hide hn
  clear hu hn
  have hx := bs_toList (wd l)
  generalize wd l = x at *
  generalize bs x = t at *
  go_enter Tryz.func63, Tryz.ntmps63
  go_wp2_with (first | (go_at_call 47; refine K.mono ?_; rintro e w1 ⟨rfl, hu1, hl1⟩; have HN1 := hide ((unhide HN).lone hl1 hq); have HU1 := hide hu1; have HL1 := hide hl1; clear hu1 hl1 K HN; obtain ⟨tt, fr, row⟩ := unhide HN1) | refine wpList_load_row rfl 115 _ rfl 1 rfl _ _ _ _ row Tryz.underlying115 rfl (by kernel_rfl) ?_)
  go_loop [9] (fun i => ∃ j : Nat, j ≤ 2 ∧ i = .int .i64 j ∧ (0 < j → x ≠ [97]) ∧ (1 < j → x ≠ [98])) (fun i => 2 - (intOf i).toNat)
  case atStart => exact ⟨0, by omega, rfl, fun h => absurd h (by omega), fun h => absurd h (by omega)⟩
  case round =>
    obtain ⟨j, hj, rfl, h0, h1⟩ := hrel
    rcases (by omega : j = 0 ∨ j = 1 ∨ j = 2) with rfl | rfl | rfl
    · clear h0 h1
      have hi := ix0
      by_cases hx0 : x = [97]
      · have he : (t.toList == [97]) = true := by rw [hx, hx0]; rfl
        clear hx
        go_wp2
        go_ret
        try rw [hx0]
        exact ⟨rfl, unhide HU1, unhide HL1⟩
      · have he : (t.toList == [97]) = false := by rw [hx]; simpa using hx0
        clear hx
        go_wp2
        go_round
        case rel => exact ⟨1, by omega, by go_num, fun _ => hx0, fun h => absurd h (by omega)⟩
        case measure => simp [intOf]
    · have h0 := h0 (by omega)
      clear h1
      have hi := ix1
      by_cases hx1 : x = [98]
      · have he : (t.toList == [98]) = true := by rw [hx, hx1]; rfl
        clear hx
        go_wp2
        go_ret
        try rw [hx1]
        exact ⟨rfl, unhide HU1, unhide HL1⟩
      · have he : (t.toList == [98]) = false := by rw [hx]; simpa using hx1
        clear hx
        go_wp2
        go_round
        case rel => exact ⟨2, by omega, by go_num, fun _ => h0, fun _ => hx1⟩
        case measure => simp [intOf]
    · have h0 := h0 (by omega)
      have h1 := h1 (by omega)
      go_wp2
      refine ⟨rfl, ?_⟩
      unfold whoF
      rw [if_neg h0, if_neg h1]
      exact ⟨rfl, unhide HL1⟩
/-- what is lost -/
def lostF (x : By) : Option (Bool × Bool) := if x = [97] then some (true, false) else if x = [98] then some (false, true) else if x = [98, 111, 116, 104] then some (true, true) else none
theorem lost23 (q : Nat) (l : By) (w : World) (hu : U q l w) (hn : Nm w) (hq : 1 < q) (hl : l.length ≤ 65536) :
    Calls Tryz.prog 67 #[.pointer (some ⟨q, 0, none⟩)] w (ends ((lostF (wd l)).map fun p => .tuple #[.bool p.1, .bool p.2]) (lf l) q w) := by
  have K := word18 q l w hu hl
  have HN := hide hn
  clear hu hn
  have hx := bs_toList (wd l)
  generalize wd l = x at *
  generalize bs x = t at *
  have main : ∀ (b0 b1 b2 : Bool), (t.toList == [97]) = b0 → (t.toList == [98]) = b1 → (t.toList == [98, 111, 116, 104]) = b2 →
      Calls Tryz.prog 67 #[.pointer (some ⟨q, 0, none⟩)] w (ends ((if b0 = true then some (true, false) else if b1 = true then some (false, true) else if b2 = true then some (true, true) else none).map fun (p : Bool × Bool) => .tuple #[.bool p.1, .bool p.2]) (lf l) q w) := by
    intro b0 b1 b2 e0 e1 e2
    clear hx
    cases b0
    case true =>
      go_enter Tryz.func67, Tryz.ntmps67
      go_wp2_with (go_at_call 47; refine K.mono ?_; rintro e w1 ⟨rfl, hu1, hl1⟩; have HN1 := hide ((unhide HN).lone hl1 hq); have HU1 := hide hu1; have HL1 := hide hl1; clear hu1 hl1 K HN; have z0 := (unhide HN1).c0; have z1 := (unhide HN1).c1)
      go_ret2
      exact ⟨rfl, unhide HU1, unhide HL1⟩
    cases b1
    case true =>
      go_enter Tryz.func67, Tryz.ntmps67
      go_wp2_with (go_at_call 47; refine K.mono ?_; rintro e w1 ⟨rfl, hu1, hl1⟩; have HN1 := hide ((unhide HN).lone hl1 hq); have HU1 := hide hu1; have HL1 := hide hl1; clear hu1 hl1 K HN; have z0 := (unhide HN1).c0; have z1 := (unhide HN1).c1)
      go_ret2
      exact ⟨rfl, unhide HU1, unhide HL1⟩
    cases b2
    case true =>
      go_enter Tryz.func67, Tryz.ntmps67
      go_wp2_with (go_at_call 47; refine K.mono ?_; rintro e w1 ⟨rfl, hu1, hl1⟩; have HN1 := hide ((unhide HN).lone hl1 hq); have HU1 := hide hu1; have HL1 := hide hl1; clear hu1 hl1 K HN; have z0 := (unhide HN1).c0; have z1 := (unhide HN1).c1)
      go_ret2
      exact ⟨rfl, unhide HU1, unhide HL1⟩
    go_enter Tryz.func67, Tryz.ntmps67
    go_wp2_with (go_at_call 47; refine K.mono ?_; rintro e w1 ⟨rfl, hu1, hl1⟩; have HN1 := hide ((unhide HN).lone hl1 hq); have HU1 := hide hu1; have HL1 := hide hl1; clear hu1 hl1 K HN; have z0 := (unhide HN1).c0; have z1 := (unhide HN1).c1)
    exact ⟨rfl, rfl, unhide HL1⟩
  have := main _ _ _ rfl rfl rfl
  rw [hx] at this
  simp only [beq_iff_eq] at this
  exact this
end Go.Proofs.YtbkcgkffafjbgaaGreatDoor
/- Acts that are read off a line; the program's side. -/
namespace Go.Proofs.YtbkcgkffafjbgaaGreatDoor
open Go.RowKit
set_option maxHeartbeats 4000000
set_option maxRecDepth 20000
/-- an act -/
structure At where
  k : Int
  w : Int
  t : By
  la : Bool
  lb : Bool
def atA (a : At) : Array Value := #[.int .i64 a.k, .int .i64 a.w, .string (bs a.t), .bool a.la, .bool a.lb]
def atV (a : At) : Value := .agg (atA a)
def endA (o : Option At) (q : Nat) (w : World) (e : Ending) (w' : World) : Prop :=
  match o with
  | some a => e = .returned (atV a) ∧ Lone q w w'
  | none => e = .panicked [formP] ∧ Lone q w w'
theorem clone20 (s : ByteArray) (w : World) (hs : s.size ≤ 65536) : Calls Tryz.prog 64 #[.string s] w fun e w' => e = .returned (.string s) ∧ Below w.heap.size w w' := by
  have K := stringslite_Clone s w (by omega)
  go_enter Tryz.func64, Tryz.ntmps64
  go_wp2_with (go_at_call 82; refine K.mono ?_; rintro e w' ⟨rfl, hb⟩)
  go_ret
  exact ⟨rfl, hb⟩
def sayD (l : By) : Option At := (whoF (wd l)).bind fun k => if (tr (lf l)).length ≤ 40 then some ⟨1, k, tr (lf l), false, false⟩ else none
def hangR (l : By) : Option At := (whoF (wd l)).bind fun k => if tr (lf l) = [] then some ⟨3, k, [], false, false⟩ else none
def roundR (l : By) : Option At :=
  if wd l = [] then some ⟨2, 0, [], false, false⟩ else if wd l = [108, 111, 115, 101] then (lostF (wd (lf l))).bind fun p => if tr (lf (lf l)) = [] then some ⟨2, 0, [], p.1, p.2⟩ else none else none
def actR (l : By) : Option At :=
  if wd l = [115, 97, 121] then sayD (lf l) else if wd l = [114, 111, 117, 110, 100] then roundR (lf l) else if wd l = [104, 97, 110, 103] then hangR (lf l) else none
theorem Lone.alloc {q : Nat} {w w' : World} (h : Lone q w w') (o : Obj) : Lone q w (w'.alloc o) := h.trans (Lone.of_below (bl_al (Below.refl _ _)))
theorem Lone.setRow {q b : Nat} {w W : World} {cs : Array Value} (h : Lone q w W) (hb : w.heap.size ≤ b) : Lone q w (W.setRow b cs) :=
  ⟨h.os, h.tape, h.output, by simpa [World.setRow] using h.size, fun k hk hq => by rw [get_setRow_other (by omega)]; exact h.block k hk hq⟩
abbrev zA : Array Value := #[.int .i64 0, .int .i64 0, .string ⟨#[]⟩, .bool false, .bool false]
/-- what a reading has done so far: nothing but to the line; the answer's block is as it was made -/
structure Pg (q b : Nat) (w W : World) : Prop where
  lone : Lone q w W
  row : W.heap[b]? = some (.cells zA 27 (0, 0))
  ne : b ≠ q
  ge : w.heap.size ≤ b
theorem Pg.start {q : Nat} {w : World} (hq : q < w.heap.size) : Pg q w.heap.size w (w.alloc (.cells zA 27)) := ⟨(Lone.refl q w).alloc _, heap_alloc_new _ _, by omega, Nat.le_refl _⟩
theorem Pg.step {q b : Nat} {w W X : World} (h : Pg q b w W) (hl : Lone q W X) : Pg q b w X :=
  ⟨h.lone.trans hl, (hl.block b (Array.getElem?_eq_some_iff.1 h.row).1 h.ne).trans h.row, h.ne, h.ge⟩
theorem Pg.below {q b : Nat} {w W X : World} (h : Pg q b w W) (hl : Below W.heap.size W X) : Pg q b w X := h.step (Lone.of_below hl)
theorem Pg.alloc {q b : Nat} {w W : World} (h : Pg q b w W) (o : Obj) : Pg q b w (W.alloc o) := h.below (bl_al (Below.refl _ _))
theorem Pg.done {q b : Nat} {w W : World} (h : Pg q b w W) (cs : Array Value) : Lone q w (W.setRow b cs) := h.lone.setRow h.ge
theorem Pg.got {q b : Nat} {w W : World} (h : Pg q b w W) (cs : Array Value) : (W.setRow b cs).heap[b]? = some (.cells cs 27 (0, 0)) := get_setRow h.row
theorem row_lone {q b : Nat} {W X : World} {o : Obj} (h : W.heap[b]? = some o) (hl : Lone q W X) (hb : b ≠ q) : X.heap[b]? = some o := (hl.block b (Array.getElem?_eq_some_iff.1 h).1 hb).trans h
theorem U.step {q : Nat} {w : World} {l : By} (h : U q l w) (o : Obj) : U q l (w.alloc o) := h.below (bl_al (Below.refl _ _))
theorem Nm.step {w : World} (h : Nm w) (o : Obj) : Nm (w.alloc o) := h.below (bl_al (Below.refl _ _))
theorem cellsOf23 : (Tryz.prog.info? 27).map (·.size) = some 5 := by kernel_rfl
theorem long22 (t : ByteArray) (b : Bool) (W : World) (h : decide (40 < t.size) = b) (ht : t.size ≤ 65536) : Calls Tryz.prog 66 #[.string t] W fun e w' => e = .returned (.bool b) ∧ w' = W := by
  cases b
  · have h := of_decide_eq_false h
    have q1 : (t.size : Int) ≤ 40 := by omega
    go_enter Tryz.func66, Tryz.ntmps66
    go_wp2
    go_ret
    exact ⟨congrArg (fun b => Ending.returned (.bool b)) (decide_eq_false (Int.not_lt.2 q1)), rfl⟩
  · have h := of_decide_eq_true h
    have q1 : (40 : Int) < (t.size : Int) := by omega
    go_enter Tryz.func66, Tryz.ntmps66
    go_wp2
    go_ret
    exact ⟨rfl, rfl⟩
theorem say15 (q : Nat) (l : By) (w : World) (hu : U q l w) (hn : Nm w) (hq : 1 < q) (hl : l.length ≤ 65536) :
    Calls Tryz.prog 44 #[.pointer (some ⟨q, 0, none⟩)] w (endA (sayD l) q w) := by
  have HP := hide (Pg.start hu.lt)
  have HN := hide (hn.step (.cells zA 27))
  have HU := hide (hu.step (.cells zA 27))
  have hl2 := Nat.le_trans (lf_len l) hl
  have K1 := hide (fun W h1 h2 => who19 q l W h1 h2 hq hl)
  clear hu hn hl
  cases hwho : whoF (wd l) with
  | none =>
    rw [hwho] at K1
    rw [show sayD l = none by unfold sayD; rw [hwho]; rfl]
    clear hwho
    go_enter Tryz.func44, Tryz.ntmps44
    go_wp2_with (go_at_call 63; refine (unhide K1 _ (unhide HU) (unhide HN)).mono ?_; rintro e w1 ⟨rfl, hl1⟩)
    exact ⟨rfl, rfl, ((unhide HP).step hl1).lone⟩
  | some k =>
    rw [hwho] at K1
    have K2 := hide (fun W h => text21 q (lf l) W h hl2)
    have hs := bs_size (tr (lf l))
    have hs2 := Nat.le_trans (tr_len (lf l)) hl2
    obtain ⟨b, hb⟩ : ∃ b, decide (40 < (bs (tr (lf l))).size) = b := ⟨_, rfl⟩
    have K3 := hide (fun W => clone20 (bs (tr (lf l))) W (by omega))
    have K4 := hide (fun W => long22 (bs (tr (lf l))) b W hb (by omega))
    obtain ⟨t, ht⟩ : ∃ t, t = bs (tr (lf l)) := ⟨_, rfl⟩
    cases b with
    | true =>
      have hlen : ¬ (tr (lf l)).length ≤ 40 := by have := of_decide_eq_true hb; omega
      rw [show sayD l = none by unfold sayD; rw [hwho]; simp only [Option.bind]; rw [if_neg hlen]]
      rw [← ht] at K2 K3 K4
      clear hwho hb hs hlen ht hs2
      go_enter Tryz.func44, Tryz.ntmps44
      go_wp2_with (go_at_call 63; refine (unhide K1 _ (unhide HU) (unhide HN)).mono ?_; rintro e w1 ⟨rfl, hu1, hl1⟩; have HP1 := hide ((unhide HP).step hl1); have HU1 := hide hu1; clear hu1 hl1 K1)
      go_wp2_with (go_at_call 65; refine (unhide K2 _ (unhide HU1)).mono ?_; rintro e w2 ⟨rfl, hw⟩; have HP2 := hide ((unhide HP1).step (lone_dr hw)); clear hw K2)
      go_wp2_with (go_at_call 64; refine (unhide K3 _).mono ?_; rintro e w3 ⟨rfl, hb3⟩; have HP3 := hide ((unhide HP2).below hb3); clear hb3 K3)
      go_wp2_with (go_at_call 66; refine (unhide K4 _).mono ?_; rintro e w4 ⟨rfl, rfl⟩)
      exact ⟨rfl, rfl, ((unhide HP3).alloc _).lone⟩
    | false =>
      have hlen : (tr (lf l)).length ≤ 40 := by have := of_decide_eq_false hb; omega
      rw [show sayD l = some ⟨1, k, tr (lf l), false, false⟩ by unfold sayD; rw [hwho]; simp only [Option.bind]; rw [if_pos hlen]]
      rw [← ht] at K2 K3 K4
      have HT := hide ht
      clear hwho hb hs hlen ht hs2
      go_enter Tryz.func44, Tryz.ntmps44
      go_wp2_with (go_at_call 63; refine (unhide K1 _ (unhide HU) (unhide HN)).mono ?_; rintro e w1 ⟨rfl, hu1, hl1⟩; have HP1 := hide ((unhide HP).step hl1); have HU1 := hide hu1; clear hu1 hl1 K1)
      go_wp2_with (go_at_call 65; refine (unhide K2 _ (unhide HU1)).mono ?_; rintro e w2 ⟨rfl, hw⟩; have HP2 := hide ((unhide HP1).step (lone_dr hw)); clear hw K2)
      go_wp2_with (go_at_call 64; refine (unhide K3 _).mono ?_; rintro e w3 ⟨rfl, hb3⟩; have HP3 := hide (((unhide HP2).below hb3).alloc (.cells #[.int .i64 1, .int .i64 k, .string t, .bool false, .bool false] 27)); clear hb3 K3)
      go_wp2_with (first | (go_at_call 66; refine (unhide K4 _).mono ?_; rintro e w4 ⟨rfl, rfl⟩) | (with_reducible change wpList _ _ _ ({ dst := none, op := Op.store 27 (Operand.tmp 2) _, type := _, pos := _, after := _, guard := _ } :: _) _ _; refine wpList_store_row rfl 27 _ _ rfl w.heap.size #[.int .i64 1, .int .i64 k, .string t, .bool false, .bool false] rfl rfl 27 zA (unhide HP3).row (by kernel_rfl) rfl (by kernel_rfl) ?_))
      have := unhide HT
      subst this
      refine bodyPost_ret (v := atV ⟨1, k, tr (lf l), false, false⟩) ?_ rfl ?_
      · exact results_cell_row rfl _ _ w.heap.size 27 _ (0, 0) _ rfl ((unhide HP3).got _) Tryz.underlying27 rfl (by kernel_rfl)
      exact ⟨rfl, (unhide HP3).done _⟩
theorem hang17 (q : Nat) (l : By) (w : World) (hu : U q l w) (hn : Nm w) (hq : 1 < q) (hl : l.length ≤ 65536) :
    Calls Tryz.prog 46 #[.pointer (some ⟨q, 0, none⟩)] w (endA (hangR l) q w) := by
  have HP := hide (Pg.start hu.lt)
  have HN := hide (hn.step (.cells zA 27))
  have HU := hide (hu.step (.cells zA 27))
  have hl2 := Nat.le_trans (lf_len l) hl
  have K1 := hide (fun W h1 h2 => who19 q l W h1 h2 hq hl)
  have K2 := hide (fun W h => end24 q (lf l) W h hl2)
  clear hu hn hl
  cases hwho : whoF (wd l) with
  | none =>
    rw [hwho] at K1
    rw [show hangR l = none by unfold hangR; rw [hwho]; rfl]
    clear hwho
    go_enter Tryz.func46, Tryz.ntmps46
    go_wp2_with (go_at_call 63; refine (unhide K1 _ (unhide HU) (unhide HN)).mono ?_; rintro e w1 ⟨rfl, hl1⟩)
    exact ⟨rfl, rfl, ((unhide HP).step hl1).lone⟩
  | some k =>
    rw [hwho] at K1
    by_cases ht : tr (lf l) = []
    · rw [show hangR l = some ⟨3, k, [], false, false⟩ by unfold hangR; rw [hwho]; simp only [Option.bind]; rw [if_pos ht]]
      rw [if_pos ht] at K2
      clear hwho ht
      go_enter Tryz.func46, Tryz.ntmps46
      go_wp2_with (go_at_call 63; refine (unhide K1 _ (unhide HU) (unhide HN)).mono ?_; rintro e w1 ⟨rfl, hu1, hl1⟩; have HP1 := hide (((unhide HP).step hl1).alloc (.cells #[.int .i64 3, .int .i64 k, .string ⟨#[]⟩, .bool false, .bool false] 27)); have HU1 := hide (hu1.step (.cells #[.int .i64 3, .int .i64 k, .string ⟨#[]⟩, .bool false, .bool false] 27)); have HQ0 := hide hu1.lt; have CB := hide (heap_alloc_new w1 (.cells #[.int .i64 3, .int .i64 k, .string ⟨#[]⟩, .bool false, .bool false] 27)); clear hu1 hl1 K1)
      have HQ : Hid (w1.heap.size ≠ q) := hide (by have := (unhide HQ0); omega)
      go_wp2_with (first | (go_at_call 68; refine (unhide K2 _ (unhide HU1)).mono ?_; rintro e w2 ⟨rfl, hu2, hl2⟩; have C2 := hide (row_lone (unhide CB) hl2 (unhide HQ)); have HP2 := hide ((unhide HP1).step hl2); clear K2 hu2 hl2) | (with_reducible change wpList _ _ _ ({ dst := some 9, op := Op.load 27 _, type := _, pos := _, after := _, guard := _ } :: _) _ _; refine wpList_load_row rfl 27 _ rfl w1.heap.size rfl 27 _ _ _ (unhide C2) Tryz.underlying27 rfl (by kernel_rfl) ?_) | (with_reducible change wpList _ _ _ ({ dst := none, op := Op.store 27 (Operand.tmp 2) _, type := _, pos := _, after := _, guard := _ } :: _) _ _; refine wpList_store_row rfl 27 _ _ rfl w.heap.size #[.int .i64 3, .int .i64 k, .string ⟨#[]⟩, .bool false, .bool false] rfl rfl 27 zA (unhide HP2).row (by kernel_rfl) rfl (by kernel_rfl) ?_))
      refine bodyPost_ret (v := atV ⟨3, k, [], false, false⟩) ?_ rfl ?_
      · exact results_cell_row rfl _ _ w.heap.size 27 _ (0, 0) _ rfl ((unhide HP2).got _) Tryz.underlying27 rfl (by kernel_rfl)
      exact ⟨rfl, (unhide HP2).done _⟩
    · rw [show hangR l = none by unfold hangR; rw [hwho]; simp only [Option.bind]; rw [if_neg ht]]
      rw [if_neg ht] at K2
      clear hwho ht
      go_enter Tryz.func46, Tryz.ntmps46
      go_wp2_with (go_at_call 63; refine (unhide K1 _ (unhide HU) (unhide HN)).mono ?_; rintro e w1 ⟨rfl, hu1, hl1⟩; have HP1 := hide (((unhide HP).step hl1).alloc (.cells #[.int .i64 3, .int .i64 k, .string ⟨#[]⟩, .bool false, .bool false] 27)); have HU1 := hide (hu1.step (.cells #[.int .i64 3, .int .i64 k, .string ⟨#[]⟩, .bool false, .bool false] 27)); clear hu1 hl1 K1)
      go_wp2_with (go_at_call 68; refine (unhide K2 _ (unhide HU1)).mono ?_; rintro e w2 ⟨rfl, hl2⟩; clear K2)
      exact ⟨rfl, rfl, ((unhide HP1).step hl2).lone⟩
end Go.Proofs.YtbkcgkffafjbgaaGreatDoor
