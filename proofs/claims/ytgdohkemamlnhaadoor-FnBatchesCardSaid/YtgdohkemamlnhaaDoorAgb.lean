/- Both sides of ReadBatch agree. -/
import Derived.Test.YtgdohkemamlnhaaDoorSbp
import Derived.Test.YtgdohkemamlnhaaDoorRxb
import Derived.Test.YtgdohkemamlnhaaDoorRtp
namespace Go.Proofs.YtgdohkemamlnhaaDoor
open Go.RowKit
theorem stI_none {n : Nat} {st : RS} : ∀ {j : Nat}, (stI n st j).2 = none → st.2 = none
  | 0, h => h
  | j + 1, h => stI_none (j := j) (step_none h).1
/-- items off bytes: where there are bytes enough -/
theorem stI_go {xs : List Int} {k n : Nat} {st : RS} (h : st = (xs.drop k, none)) : ∀ j, k + j * n ≤ xs.length → stI n st j = (xs.drop (k + j * n), none)
  | 0, _ => by rw [Nat.zero_mul, Nat.add_zero]; exact h
  | j + 1, hj => by
    have e : (j + 1) * n = j * n + n := Nat.succ_mul j n
    have ih := stI_go (n := n) h j (by omega)
    exact (step_go' ih ⟨#[105, 116, 101, 109]⟩ (n := n) (m := k + (j + 1) * n) (by omega) (by omega)).1
theorem itI_go {xs : List Int} {n : Nat} {st : RS} (h : st = (xs.drop 8, none)) (j : Nat) (hj : 8 + j * n ≤ xs.length) : itI n st j = sI xs n j := by
  unfold itI sI
  refine List.map_congr_left fun i hi => ?_
  have hi' : i < j := List.mem_range.1 hi
  have e : (i + 1) * n = i * n + n := Nat.succ_mul i n
  have e2 : (i + 1) * n ≤ j * n := Nat.mul_le_mul_right _ hi'
  have ih := stI_go (n := n) h i (by omega)
  rw [(step_go' ih ⟨#[105, 116, 101, 109]⟩ (n := n) (m := 8 + i * n + n) (by omega) rfl).2]
theorem stI_inv {xs : List Int} {n : Nat} {st : RS} (h : st = (xs.drop 8, none)) (h8 : 8 ≤ xs.length) : ∀ j, (stI n st j).2 = none → 8 + j * n ≤ xs.length
  | 0, _ => by omega
  | j + 1, hj => by
    have e : (j + 1) * n = j * n + n := Nat.succ_mul j n
    obtain ⟨h1, h2, _⟩ := step_none hj
    have ih := stI_inv h h8 j h1
    rw [stI_go h j ih, List.length_drop] at h2
    omega
/-- the head of a batch, where there are eight bytes -/
theorem head_go {xs : List Int} (h0 : f0 xs = none) (h8 : 8 ≤ xs.length) : bt4 (st0 xs) = (xs.drop 8, none) ∧ pR xs = sR xs ∧ pL xs = sL xs ∧ cntB (st0 xs) = sN xs ∧ szB (st0 xs) = sZ xs := by
  have e0 : st0 xs = (xs.drop 0, none) := by simp [st0, h0]
  obtain ⟨e1, t0⟩ := step_go' e0 ⟨#[114, 111, 117, 110, 100]⟩ (n := 4) (m := 4) (by omega) rfl
  obtain ⟨e2, t1⟩ := step_go' e1 ⟨#[108, 97, 121, 101, 114]⟩ (n := 1) (m := 5) (by omega) rfl
  obtain ⟨e3, t2⟩ := step_go' e2 ⟨#[99, 111, 117, 110, 116, 32, 111, 102, 32, 105, 116, 101, 109, 115]⟩ (n := 1) (m := 6) (by omega) rfl
  obtain ⟨e4, t3⟩ := step_go' e3 ⟨#[108, 101, 110, 103, 116, 104, 32, 111, 102, 32, 105, 116, 101, 109, 115]⟩ (n := 2) (m := 8) (by omega) rfl
  refine ⟨e4, congrArg ofL t0, ?_, ?_, ?_⟩
  · show ofL (takeN (bt1 (st0 xs)) 1) = _
    rw [t1, ofL_one xs 4 (by omega)]
  · unfold cntB sN
    rw [t2, ofL_one xs 5 (by omega)]
  · unfold szB sZ
    rw [t3]
theorem head_inv {xs : List Int} (h : (bt4 (st0 xs)).2 = none) : f0 xs = none ∧ 8 ≤ xs.length := by
  obtain ⟨h3, l3, _⟩ := step_none h
  obtain ⟨h2, l2, e3⟩ := step_none h3
  obtain ⟨h1, l1, e2⟩ := step_none h2
  obtain ⟨h0, l0, e1⟩ := step_none h1
  have n1 : (bt1 (st0 xs)).1.length = xs.length - 4 := by rw [show bt1 (st0 xs) = _ from e1]; simp
  have n2 : (bt2 (st0 xs)).1.length = xs.length - 5 := by rw [show bt2 (st0 xs) = _ from e2]; simp only [List.length_drop, n1]; omega
  have n3 : (bt3 (st0 xs)).1.length = xs.length - 6 := by rw [show bt3 (st0 xs) = _ from e3]; simp only [List.length_drop, n2]; omega
  have m0 : 4 ≤ xs.length := l0
  have m1 : 1 ≤ xs.length - 4 := n1 ▸ l1
  have m2 : 1 ≤ xs.length - 5 := n2 ▸ l2
  have m3 : 2 ≤ xs.length - 6 := n3 ▸ l3
  exact ⟨h0, by omega⟩
theorem flat_len {xs : List Int} {n j : Nat} (h : 8 + j * n ≤ xs.length) : (flatT (sI xs n j)).length = j * n := by
  induction j with
  | zero => simp [sI, flatT]
  | succ j ih =>
    have e : (j + 1) * n = j * n + n := Nat.succ_mul j n
    rw [sI_succ]
    unfold flatT at *
    rw [List.map_append, List.flatten_append, List.length_append, ih (by omega)]
    simp only [List.map_cons, List.map_nil, List.flatten_cons, List.flatten_nil, List.append_nil, txt_len, strOfNums_size]
    rw [cut_len xs (8 + j * n) n (by omega), e]
theorem flat_drop {xs : List Int} (hB : isB xs) {n j : Nat} (h : 8 + j * n ≤ xs.length) : flatT (sI xs n j) = (xs.drop 8).take (j * n) := by
  induction j with
  | zero => simp [sI, flatT]
  | succ j ih =>
    have e : (j + 1) * n = j * n + n := Nat.succ_mul j n
    have ih' := ih (by omega)
    rw [sI_succ]
    unfold flatT at *
    rw [List.map_append, List.flatten_append, ih']
    simp only [List.map_cons, List.map_nil, List.flatten_cons, List.flatten_nil, List.append_nil]
    rw [txt_str _ (cut_isB hB _ _), e, List.take_add]
    unfold cut
    rw [List.drop_drop]
theorem eight {xs : List Int} (h8 : 8 ≤ xs.length) : ∃ a b c d e f g i rest, xs = a :: b :: c :: d :: e :: f :: g :: i :: rest := by
  match xs, h8 with
  | a :: b :: c :: d :: e :: f :: g :: i :: rest, _ => exact ⟨a, b, c, d, e, f, g, i, rest, rfl⟩
theorem head_eq {xs : List Int} (hB : isB xs) (h8 : 8 ≤ xs.length) : num4 (sR xs) ++ [sL xs % 256, (sN xs : Int) % 256] ++ num2 (sZ xs : Int) = xs.take 8 := by
  obtain ⟨a, b, c, d, e, f, g, i, rest, rfl⟩ := eight h8
  have ha := hB a (by simp)
  have hb := hB b (by simp)
  have hc := hB c (by simp)
  have hd := hB d (by simp)
  have he := hB e (by simp)
  have hf := hB f (by simp)
  have hg := hB g (by simp)
  have hi := hB i (by simp)
  have e1 : sR (a :: b :: c :: d :: e :: f :: g :: i :: rest) = ((a * 256 + b) * 256 + c) * 256 + d := by simp [sR, cut, ofL]
  have e2 : (sZ (a :: b :: c :: d :: e :: f :: g :: i :: rest) : Int) = g * 256 + i := by simp [sZ, cut, ofL]; omega
  have e3 : (sN (a :: b :: c :: d :: e :: f :: g :: i :: rest) : Int) = f := by simp [sN]; omega
  have e4 : sL (a :: b :: c :: d :: e :: f :: g :: i :: rest) = e := by simp [sL]
  rw [e1, e2, e3, e4]
  simp only [num4, num2, List.take_succ_cons, List.take_zero, List.cons_append, List.nil_append, List.cons.injEq, and_true]
  omega
theorem c3_stI {n : Nat} {st : RS} (h : c3 st.2) : ∀ j, c3 (stI n st j).2
  | 0 => h
  | j + 1 => c3_step (c3_stI h j) _ _
theorem c3_F8 (xs : List Int) (h : f0 xs = none) : c3 (F8 xs) := by
  have hp : c3 (pS xs).2 := c3_stI (c3_step (c3_step (c3_step (c3_step (.inl h) _ _) _ _) _ _) _ _) _
  unfold F8
  split
  · rcases hp with e | ⟨p, e⟩
    · rw [e]; exact .inr ⟨_, rfl⟩
    · rw [e]; exact .inr ⟨_, rfl⟩
  · exact hp
theorem stI_some {n : Nat} {st : RS} {x : ByteArray × Int} (h : st.2 = some x) : ∀ j, (stI n st j).2 = some x
  | 0 => h
  | j + 1 => step_some (stI_some h j) _ _
theorem F8_long (xs : List Int) (h : 65536 < xs.length) : F8 xs = some (⟨#[98, 121, 116, 101, 115]⟩, 2) := by
  have e : (pS xs).2 = some (⟨#[98, 121, 116, 101, 115]⟩, 2) := stI_some (step_some (step_some (step_some (step_some (show (st0 xs).2 = _ by simp [f0, h]) _ _) _ _) _ _) _ _) _
  unfold F8
  rw [e]
  split
  · rfl
  · rfl
theorem sz0_sI {xs : List Int} {n j : Nat} (h : 8 + j * n ≤ xs.length) (hj : 0 < j) : sz0 (sI xs n j) = n := by
  unfold sz0 sI
  rw [List.getD_eq_getElem?_getD, List.getElem?_map, List.getElem?_range hj]
  show (strOfNums (cut xs (8 + 0 * n) n)).size = n
  have : n ≤ j * n := Nat.le_mul_of_pos_left n hj
  rw [strOfNums_size, cut_len xs (8 + 0 * n) n (by omega)]
theorem F8_right {xs : List Int} (hB : isB xs) (h6 : ¬ 65536 < xs.length) (h8 : 8 ≤ xs.length) (hF : sF xs) (ok : okB (sR xs) (sL xs) (sI xs (sZ xs) (sN xs)) = true) : F8 xs = none ∧ pI xs = sI xs (sZ xs) (sN xs) := by
  have f : f0 xs = none := by unfold f0; rw [if_neg h6]
  obtain ⟨g1, g2, g3, g4, g5⟩ := head_go f h8
  obtain ⟨hN, hZ, hl, h0⟩ := hF
  have hi : pI xs = sI xs (sZ xs) (sN xs) := by
    show itI (szB (st0 xs)) (bt4 (st0 xs)) (cntB (st0 xs)) = _
    rw [g4, g5]
    exact itI_go g1 _ (by omega)
  have hs : (pS xs).2 = none := by
    show (stI (szB (st0 xs)) (bt4 (st0 xs)) (cntB (st0 xs))).2 = none
    rw [g4, g5, stI_go g1 _ (by omega)]
  refine ⟨?_, hi⟩
  have hsz : sz0 (sI xs (sZ xs) (sN xs)) = sZ xs := by
    rcases Nat.eq_zero_or_pos (sN xs) with hz | hz
    · have : sZ xs = 0 := by omega
      rw [hz, this]
      rfl
    · exact sz0_sI (by omega) hz
  have hb : bB (sR xs) (sL xs) (sI xs (sZ xs) (sN xs)) = xs := by
    have ht : (xs.drop 8).take (sN xs * sZ xs) = xs.drop 8 := List.take_of_length_le (by rw [List.length_drop]; omega)
    unfold bB bH
    rw [sI_len, hsz, head_eq hB h8, flat_drop hB (by omega), ht, List.take_append_drop]
  unfold F8
  rw [hi, g2, g3, if_neg]
  · exact hs
  · intro hh
    rcases hh with hh | hh
    · exact hh (by unfold btC; rw [if_pos ok])
    · exact hh (by unfold btL; rw [if_pos ok]; exact hb)
theorem F8_none {xs : List Int} (h : F8 xs = none) : 8 ≤ xs.length ∧ sF xs ∧ okB (sR xs) (sL xs) (sI xs (sZ xs) (sN xs)) = true := by
  unfold F8 at h
  by_cases hc : btC (pR xs) (pL xs) (pI xs) ≠ 0 ∨ btL (pR xs) (pL xs) (pI xs) ≠ xs
  · rw [if_pos hc] at h
    cases hs : (pS xs).2 with
    | none => rw [hs] at h; simp [orF] at h
    | some x => rw [hs] at h; simp [orF] at h
  · rw [if_neg hc] at h
    have hc0 : btC (pR xs) (pL xs) (pI xs) = 0 := Classical.byContradiction fun g => hc (.inl g)
    have hL : btL (pR xs) (pL xs) (pI xs) = xs := Classical.byContradiction fun g => hc (.inr g)
    have ho : okB (pR xs) (pL xs) (pI xs) = true := by
      unfold btC at hc0
      by_cases g : okB (pR xs) (pL xs) (pI xs) = true
      · exact g
      · rw [if_neg g] at hc0; simp at hc0
    unfold btL at hL
    rw [if_pos ho] at hL
    obtain ⟨f, h8⟩ := head_inv (stI_none h)
    obtain ⟨g1, g2, g3, g4, g5⟩ := head_go f h8
    have hle : 8 + sN xs * sZ xs ≤ xs.length := by
      have := stI_inv g1 h8 (n := szB (st0 xs)) (cntB (st0 xs)) h
      rw [g4, g5] at this
      exact this
    have hi : pI xs = sI xs (sZ xs) (sN xs) := by
      show itI (szB (st0 xs)) (bt4 (st0 xs)) (cntB (st0 xs)) = _
      rw [g4, g5]
      exact itI_go g1 _ hle
    rw [hi, g2, g3] at ho hL
    obtain ⟨h64, h400, hz, _, _, _⟩ := okB_parts ho
    rw [sI_len] at h64
    have hlen : xs.length = 8 + sN xs * sZ xs := by
      have := congrArg List.length hL
      unfold bB at this
      rw [List.length_append, bH_len, flat_len hle] at this
      omega
    have hsz : sZ xs = sz0 (sI xs (sZ xs) (sN xs)) := by
      have h2 : cut xs 6 2 = num2 (sz0 (sI xs (sZ xs) (sN xs)) : Int) := by
        have e : bB (sR xs) (sL xs) (sI xs (sZ xs) (sN xs)) = (num4 (sR xs) ++ [sL xs % 256, ((sI xs (sZ xs) (sN xs)).length : Int) % 256]) ++ num2 (sz0 (sI xs (sZ xs) (sN xs)) : Int) ++ flatT (sI xs (sZ xs) (sN xs)) := rfl
        have h3 := cut_mid (num4 (sR xs) ++ [sL xs % 256, ((sI xs (sZ xs) (sN xs)).length : Int) % 256]) (num2 (sz0 (sI xs (sZ xs) (sN xs)) : Int)) (flatT (sI xs (sZ xs) (sN xs))) 6 2 rfl rfl
        rw [← e, hL] at h3
        exact h3
      have h4 : ofL (cut xs 6 2) = (sz0 (sI xs (sZ xs) (sN xs)) : Int) := by rw [h2]; exact ofL_num2 _ (by omega) (by omega)
      have h5 : sZ xs = (ofL (cut xs 6 2)).toNat := rfl
      omega
    refine ⟨h8, ⟨h64, by omega, hlen, fun hh => ?_⟩, ho⟩
    obtain ⟨k0, k1⟩ := hh
    rw [k0] at hsz
    have : sz0 (sI xs (sZ xs) 0) = 0 := rfl
    omega
theorem agreeB {xs : List Int} (hB : isB xs) : (oR (F8 xs) (pR xs), oR (F8 xs) (pL xs), oT (F8 xs) (pI xs)) = (spB xs).1 ∧ outC (F8 xs) = (spB xs).2 := by
  unfold spB
  by_cases h6 : 65536 < xs.length
  · rw [if_pos h6, F8_long xs h6]; exact ⟨rfl, rfl⟩
  · rw [if_neg h6]
    have f : f0 xs = none := by unfold f0; rw [if_neg h6]
    by_cases h2 : 8 ≤ xs.length ∧ sF xs ∧ okB (sR xs) (sL xs) (sI xs (sZ xs) (sN xs)) = true
    · rw [if_pos h2]
      obtain ⟨g1, g2⟩ := F8_right hB h6 h2.1 h2.2.1 h2.2.2
      obtain ⟨_, e2, e3, _, _⟩ := head_go f h2.1
      rw [g1, g2, e2, e3]; exact ⟨rfl, rfl⟩
    · rw [if_neg h2]
      rcases c3_F8 xs f with e | ⟨p, e⟩
      · exact absurd (F8_none e) h2
      · rw [e]; exact ⟨rfl, rfl⟩
end Go.Proofs.YtgdohkemamlnhaaDoor
