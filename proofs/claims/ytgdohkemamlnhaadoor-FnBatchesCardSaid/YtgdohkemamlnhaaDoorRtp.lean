/- A message's bytes are read back as the message. -/
import Derived.Test.YtgdohkemamlnhaaDoorRz
namespace Go.Proofs.YtgdohkemamlnhaaDoor
open Go.RowKit
theorem str_txt (d : ByteArray) : strOfNums (txt d) = d := by
  refine WideShapes.bytes_inj ?_
  rw [strOfNums_data, txt, List.map_map]
  conv => rhs; rw [← List.map_id d.data.toList]
  refine List.map_congr_left fun x _ => ?_
  simp
theorem cut_mid (P M S : List Int) (k n : Nat) (hk : P.length = k) (hn : M.length = n) : cut (P ++ M ++ S) k n = M := by
  subst hk hn
  unfold cut
  rw [List.append_assoc, List.drop_left, List.take_left]
theorem getD_mid (P S : List Int) (x : Int) (k : Nat) (hk : P.length = k) : (P ++ [x] ++ S).getD k 0 = x := by
  subst hk
  simp [List.getD_eq_getElem?_getD]
theorem ofL_num4 (r : Int) (h0 : 0 ≤ r) (h1 : r ≤ 1000000) : ofL (num4 r) = r := by simp [ofL, num4]; omega
theorem ofL_num2 (r : Int) (h0 : 0 ≤ r) (h1 : r ≤ 65535) : ofL (num2 r) = r := by simp [ofL, num2]; omega
theorem back {r s a : Int} {d t : ByteArray} (ok : okM r s a d t = true) : spM (mB r s a d t) = (msgV r s a d t, 0) := by
  have ok' := ok
  unfold okM at ok'
  simp only [Bool.and_eq_true, decide_eq_true_eq] at ok'
  obtain ⟨⟨⟨⟨⟨r0, r1⟩, s0, s1⟩, a0, a1⟩, d8⟩, t40⟩ := ok'
  have hl : (mB r s a d t).length = 64 := mB_len r s a d t d8 t40
  have dl : (txt d).length = 8 := by rw [txt_len, d8]
  have tl : (txt t).length = t.size := txt_len t
  have c0 : cut (mB r s a d t) 0 4 = num4 r := by
    have e : mB r s a d t = [] ++ num4 r ++ (num2 s ++ num2 a ++ txt d ++ [(t.size : Int)] ++ txt t ++ List.replicate (47 - t.size) 0) := by simp [mB]
    rw [e]; exact cut_mid _ _ _ _ _ rfl rfl
  have c1 : cut (mB r s a d t) 4 2 = num2 s := by
    have e : mB r s a d t = num4 r ++ num2 s ++ (num2 a ++ txt d ++ [(t.size : Int)] ++ txt t ++ List.replicate (47 - t.size) 0) := by simp [mB]
    rw [e]; exact cut_mid _ _ _ _ _ rfl rfl
  have c2 : cut (mB r s a d t) 6 2 = num2 a := by
    have e : mB r s a d t = (num4 r ++ num2 s) ++ num2 a ++ (txt d ++ [(t.size : Int)] ++ txt t ++ List.replicate (47 - t.size) 0) := by simp [mB]
    rw [e]; exact cut_mid _ _ _ _ _ rfl rfl
  have c3 : cut (mB r s a d t) 8 8 = txt d := by
    have e : mB r s a d t = (num4 r ++ num2 s ++ num2 a) ++ txt d ++ ([(t.size : Int)] ++ txt t ++ List.replicate (47 - t.size) 0) := by simp [mB]
    rw [e]; exact cut_mid _ _ _ _ _ rfl dl
  have c4 : (mB r s a d t).getD 16 0 = (t.size : Int) := by
    have e : mB r s a d t = (num4 r ++ num2 s ++ num2 a ++ txt d) ++ [(t.size : Int)] ++ (txt t ++ List.replicate (47 - t.size) 0) := by simp [mB]
    rw [e]; exact getD_mid _ _ _ _ (by simp [num4, num2, dl])
  have c5 : cut (mB r s a d t) 17 t.size = txt t := by
    have e : mB r s a d t = (num4 r ++ num2 s ++ num2 a ++ txt d ++ [(t.size : Int)]) ++ txt t ++ List.replicate (47 - t.size) 0 := by simp [mB]
    rw [e]; exact cut_mid _ _ _ _ _ (by simp [num4, num2, dl]) tl
  have hk : ((mB r s a d t).getD 16 0).toNat = t.size := by rw [c4]; omega
  have e0 : rR (mB r s a d t) = r := by show ofL (cut _ 0 4) = r; rw [c0, ofL_num4 r r0 r1]
  have e1 : rS (mB r s a d t) = s := by show ofL (cut _ 4 2) = s; rw [c1, ofL_num2 s s0 s1]
  have e2 : rA (mB r s a d t) = a := by show ofL (cut _ 6 2) = a; rw [c2, ofL_num2 a a0 a1]
  have e3 : rD (mB r s a d t) = d := by show strOfNums (cut _ 8 8) = d; rw [c3, str_txt]
  have e4 : rT (mB r s a d t) t.size = t := by show strOfNums (cut _ 17 t.size) = t; rw [c5, str_txt]
  have hok : rokM (mB r s a d t) t.size = true := by
    unfold rokM
    rw [e0, e1, e2, e3, e4, ok]
    simp
  unfold spM
  rw [if_neg (by omega), hk, if_pos ⟨hl, by rw [c4]; omega, hok⟩, e0, e1, e2, e3, e4]
end Go.Proofs.YtgdohkemamlnhaaDoor
