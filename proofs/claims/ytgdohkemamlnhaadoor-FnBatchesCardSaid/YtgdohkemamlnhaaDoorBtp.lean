/- A batch's bytes are read back as the batch. -/
import Derived.Test.YtgdohkemamlnhaaDoorAgb
namespace Go.Proofs.YtgdohkemamlnhaaDoor
open Go.RowKit
theorem flat_cut {z : Nat} : ∀ (ts : List ByteArray), (∀ t ∈ ts, t.size = z) → ∀ i, i < ts.length → ((flatT ts).drop (i * z)).take z = txt (ts.getD i noS)
  | [], _, i, hi => by simp at hi
  | t :: ts, h, 0, _ => by
    have ht : (txt t).length = z := by rw [txt_len]; exact h t (List.mem_cons_self ..)
    rw [Nat.zero_mul, List.drop_zero]
    unfold flatT
    rw [List.map_cons, List.flatten_cons, ← ht, List.take_left]
    rfl
  | t :: ts, h, i + 1, hi => by
    have ht : (txt t).length = z := by rw [txt_len]; exact h t (List.mem_cons_self ..)
    have ih := flat_cut ts (fun x hx => h x (List.mem_cons_of_mem _ hx)) i (by simpa using hi)
    have e : (i + 1) * z = (txt t).length + i * z := by rw [ht, Nat.succ_mul, Nat.add_comm]
    unfold flatT at *
    rw [List.map_cons, List.flatten_cons, e, List.drop_append]
    rw [List.drop_eq_nil_of_le (by omega), List.nil_append, Nat.add_sub_cancel_left, ih]
    rfl
theorem flat_len_all {z : Nat} : ∀ (ts : List ByteArray), (∀ t ∈ ts, t.size = z) → (flatT ts).length = ts.length * z
  | [], _ => by simp [flatT]
  | t :: ts, h => by
    have ht : (txt t).length = z := by rw [txt_len]; exact h t (List.mem_cons_self ..)
    have ih := flat_len_all ts (fun x hx => h x (List.mem_cons_of_mem _ hx))
    unfold flatT at *
    rw [List.map_cons, List.flatten_cons, List.length_append, ih, ht, List.length_cons, Nat.succ_mul, Nat.add_comm]
theorem backB {r l : Int} {ts : List ByteArray} (ok : okB r l ts = true) : spB (bB r l ts) = ((r, l, ts), 0) := by
  obtain ⟨h64, h400, hz, ⟨r0, r1⟩, ⟨l0, l1⟩, hs⟩ := okB_parts ok
  have hfl := flat_len_all ts hs
  have hlen : (bB r l ts).length = 8 + ts.length * sz0 ts := by unfold bB; rw [List.length_append, bH_len, hfl]
  have c0 : cut (bB r l ts) 0 4 = num4 r := by
    have e : bB r l ts = [] ++ num4 r ++ ([l % 256, (ts.length : Int) % 256] ++ num2 (sz0 ts : Int) ++ flatT ts) := by simp [bB, bH]
    rw [e]; exact cut_mid _ _ _ _ _ rfl rfl
  have c6 : cut (bB r l ts) 6 2 = num2 (sz0 ts : Int) := by
    have e : bB r l ts = (num4 r ++ [l % 256, (ts.length : Int) % 256]) ++ num2 (sz0 ts : Int) ++ flatT ts := rfl
    rw [e]; exact cut_mid _ _ _ _ _ rfl rfl
  have c4 : (bB r l ts).getD 4 0 = l % 256 := by
    have e : bB r l ts = num4 r ++ [l % 256] ++ ([(ts.length : Int) % 256] ++ num2 (sz0 ts : Int) ++ flatT ts) := by simp [bB, bH]
    rw [e]; exact getD_mid _ _ _ _ rfl
  have c5 : (bB r l ts).getD 5 0 = (ts.length : Int) % 256 := by
    have e : bB r l ts = (num4 r ++ [l % 256]) ++ [(ts.length : Int) % 256] ++ (num2 (sz0 ts : Int) ++ flatT ts) := by simp [bB, bH]
    rw [e]; exact getD_mid _ _ _ _ rfl
  have eR : sR (bB r l ts) = r := by show ofL (cut _ 0 4) = r; rw [c0, ofL_num4 r r0 r1]
  have eL : sL (bB r l ts) = l := by show (bB r l ts).getD 4 0 = l; rw [c4]; omega
  have eN : sN (bB r l ts) = ts.length := by unfold sN; rw [c5]; omega
  have eZ : sZ (bB r l ts) = sz0 ts := by unfold sZ; rw [c6, ofL_num2 _ (by omega) (by omega)]; omega
  have eI : sI (bB r l ts) (sz0 ts) ts.length = ts := by
    apply List.ext_getElem?
    intro i
    by_cases h2 : i < ts.length
    · have hf := flat_cut ts hs i h2
      have hd : (bB r l ts).drop (8 + i * sz0 ts) = (flatT ts).drop (i * sz0 ts) := by
        unfold bB
        rw [List.drop_append, bH_len, List.drop_eq_nil_of_le (by rw [bH_len]; omega), List.nil_append, Nat.add_sub_cancel_left]
      unfold sI
      rw [List.getElem?_map, List.getElem?_range h2, Option.map_some]
      unfold cut
      rw [hd, hf, str_txt, List.getD_eq_getElem?_getD, List.getElem?_eq_getElem h2]
      rfl
    · rw [List.getElem?_eq_none (by rw [sI_len]; omega), List.getElem?_eq_none (by omega)]
  have mm : ts.length * sz0 ts ≤ 64 * 400 := Nat.mul_le_mul h64 hz
  have hF : sF (bB r l ts) := by
    unfold sF
    rw [eN, eZ]
    refine ⟨h64, hz, hlen, fun hh => ?_⟩
    obtain ⟨k0, k1⟩ := hh
    obtain rfl := List.length_eq_zero_iff.1 k0
    have : sz0 [] = 0 := rfl
    omega
  unfold spB
  rw [if_neg (by omega), eR, eL, eN, eZ, eI, if_pos ⟨by omega, hF, ok⟩]
theorem okB_of {r l : Int} {ts : List ByteArray} {z : Nat} (hr : 0 ≤ r ∧ r ≤ 1000000) (hl : 0 ≤ l ∧ l ≤ 255) (hn : ts.length ≤ 64) (hz : z ≤ 400) (h : ∀ t ∈ ts, t.size = z) : okB r l ts = true := by
  unfold okB
  simp only [Bool.and_eq_true, decide_eq_true_eq, List.all_eq_true]
  refine ⟨⟨⟨hr, hl⟩, hn⟩, fun t ht => ⟨by rw [h t ht]; exact hz, ?_⟩⟩
  have h0 : 0 < ts.length := List.length_pos_of_mem ht
  have : sz0 ts = z := by
    unfold sz0
    exact h _ (by rw [List.getD_eq_getElem?_getD, List.getElem?_eq_getElem h0]; exact List.getElem_mem _)
  rw [this]
  exact h t ht
end Go.Proofs.YtgdohkemamlnhaaDoor
