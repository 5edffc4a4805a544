/- What a console tells to its first lines, and lines that say nothing; on lists. -/
import Derived.Test.YtbkcgkffafjbgaaGreatDoorLcn
namespace Go.Proofs.YtbkcgkffafjbgaaGreatDoor
set_option linter.unusedVariables false
/-- lines, each with its end -/
def catL (ls : List By) : By := (ls.map (· ++ [10])).flatten
def noteB : By := [35, 32, 110, 111, 116, 104, 105, 110, 103]
/-- a line that says nothing ahead of each -/
def wideL : List By → List By
  | [] => []
  | l :: ls => noteB :: l :: wideL ls
/-- a line as it is drawn: short, and no end of a line in it -/
def okL (x : By) : Prop := x.length ≤ 60 ∧ ∀ b ∈ x, b ≠ 10
theorem cut_line : ∀ (x r : By), (∀ b ∈ x, b ≠ 10) → cutF (x ++ 10 :: r) = x :: cutF r
  | [], r, _ => by simp [cutF]
  | b :: x, r, h => by
    have hb : b ≠ 10 := h b (by simp)
    rw [List.cons_append, cutF, if_neg hb, cut_line x r (fun c hc => h c (by simp [hc]))]
    rfl
theorem cut_cat : ∀ (ls : List By), (∀ x ∈ ls, okL x) → cutF (catL ls) = ls ++ [[]]
  | [], _ => rfl
  | x :: ls, h => by
    have e : catL (x :: ls) = x ++ 10 :: catL ls := by simp [catL]
    rw [e, cut_line x _ (h x (by simp)).2, cut_cat ls (fun y hy => h y (by simp [hy]))]
    rfl
theorem lines_cat (ls : List By) (h : ∀ x ∈ ls, okL x) : linesL (catL ls) = ls := by
  unfold linesL
  rw [cut_cat ls h]
  simp
theorem cat_len : ∀ (ls : List By), (∀ x ∈ ls, okL x) → (catL ls).length ≤ ls.length * 61
  | [], _ => by simp [catL]
  | x :: ls, h => by
    have e : catL (x :: ls) = x ++ 10 :: catL ls := by simp [catL]
    have h1 := cat_len ls (fun y hy => h y (by simp [hy]))
    have h2 := (h x (by simp)).1
    rw [e]
    simp only [List.length_append, List.length_cons]
    omega
theorem conV_cat (ls : List By) (h : ∀ x ∈ ls, okL x) (hn : ls.length ≤ 100) : conV (catL ls) = .tuple #[.string (bs (linesF ls)), .int .i64 0] := by
  have := cat_len ls h
  unfold conV
  rw [if_neg (by omega), lines_cat ls h, if_neg (by omega)]
theorem cat_snoc (ls : List By) (x : By) : catL (ls ++ [x]) = catL ls ++ (x ++ [10]) := by simp [catL]
theorem wide_snoc : ∀ (ls : List By) (x : By), wideL (ls ++ [x]) = wideL ls ++ [noteB, x]
  | [], _ => rfl
  | y :: ls, x => by simp [wideL, wide_snoc ls x]
theorem wide_len : ∀ ls : List By, (wideL ls).length = 2 * ls.length
  | [] => rfl
  | x :: ls => by simp only [wideL, List.length_cons, wide_len ls]; omega
theorem wide_ok : ∀ (ls : List By), (∀ x ∈ ls, okL x) → ∀ x ∈ wideL ls, okL x
  | [], _, x, hx => by cases hx
  | y :: ls, h, x, hx => by
    rcases List.mem_cons.1 hx with rfl | hx
    · exact ⟨by decide, by decide⟩
    · rcases List.mem_cons.1 hx with rfl | hx
      · exact h x (by simp)
      · exact wide_ok ls (fun z hz => h z (by simp [hz])) x hx
theorem note_line (z : Tw) : lineF z noteB = (z, []) := by
  unfold lineF
  rw [if_pos (Or.inr (by decide))]
theorem wide_con : ∀ (ls : List By) (z : Tw) (out : By), conF (wideL ls) z out = conF ls z out
  | [], _, _ => rfl
  | x :: ls, z, out => by
    simp only [wideL, conF, note_line, List.append_nil]
    exact wide_con ls _ _
theorem con_pre : ∀ (ls : List By) (z : Tw) (out : By), ∃ r, (conF ls z out).2 = out ++ r
  | [], _, out => ⟨[], by simp [conF]⟩
  | x :: ls, z, out => by
    obtain ⟨r, hr⟩ := con_pre ls (lineF z x).1 (out ++ (lineF z x).2)
    exact ⟨(lineF z x).2 ++ r, by simp only [conF]; rw [hr, List.append_assoc]⟩
theorem head_pre (ls : List By) (k : Nat) : ∃ r, linesF ls = linesF (ls.take k) ++ r := by
  unfold linesF
  have e : ls = ls.take k ++ ls.drop k := (List.take_append_drop k ls).symm
  obtain ⟨r, hr⟩ := con_pre (ls.drop k) (conF (ls.take k) ⟨pe0, pe0⟩ []).1 (conF (ls.take k) ⟨pe0, pe0⟩ []).2
  refine ⟨r, ?_⟩
  conv => lhs; rw [e, conF_append]
  exact hr
theorem wide_same (ls : List By) : linesF (wideL ls) = linesF ls := by
  unfold linesF
  rw [wide_con]
end Go.Proofs.YtbkcgkffafjbgaaGreatDoor
