/- The specification's words of a line. -/
import Derived.Test.YtbkcgkffafjbgaaDoorWrd
namespace Go.Proofs.YtbkcgkffafjbgaaDoor
open Go.RowKit
set_option maxHeartbeats 4000000
set_option maxRecDepth 20000
theorem empty_row (w : World) : (w.alloc (.cells #[] 9)).ownsRow w.heap.size 9 1 (.slice (some ⟨w.heap.size, 0, none⟩) 0 0) 0 [] :=
  ⟨rfl, .inr ⟨w.heap.size, 0, #[], rfl, Nat.le_refl _, heap_at _ _ _ rfl, Nat.le_refl _, by unfold maxLen; omega, rfl, rfl⟩⟩
/-- what the words are when j bytes were looked at and one began at f -/
def WI (l : By) (j f : Nat) (out : List By) : Prop :=
  f ≤ j ∧ out.length ≤ j ∧ (j ≤ l.length → wgo out ((l.drop f).take (j - f)) (l.drop j) = wds l) ∧ (l.length < j → out = wds l)
theorem WI.start (l : By) : WI l 0 0 [] := ⟨Nat.le_refl _, Nat.le_refl _, fun _ => rfl, fun h => absurd h (by omega)⟩
theorem drop_at (l : By) (j : Nat) (h : j < l.length) : l.drop j = l.getD j 0 :: l.drop (j + 1) := by
  rw [List.getD_eq_getElem?_getD, List.getElem?_eq_getElem h, List.drop_eq_getElem_cons h]; rfl
theorem seg_nil {l : By} {j f : Nat} (h : f ≤ j) (hj : j ≤ l.length) : (l.drop f).take (j - f) = [] ↔ j = f := by
  rw [← List.length_eq_zero_iff, List.length_take, List.length_drop]; omega
theorem WI.other {l : By} {j f : Nat} {out : List By} (h : WI l j f out) (hj : j < l.length) (hb : bla (l.getD j 0) = false) : WI l (j + 1) f out := by
  obtain ⟨h1, h2, h3, h4⟩ := h
  refine ⟨by omega, by omega, fun _ => ?_, fun h => absurd h (by omega)⟩
  rw [← h3 (by omega), drop_at l j hj, wgo, if_neg (by rw [hb]; simp)]
  congr 1
  rw [show j + 1 - f = (j - f) + 1 by omega, List.take_add_one, List.getElem?_drop, show f + (j - f) = j by omega, List.getD_eq_getElem?_getD, List.getElem?_eq_getElem hj]
  rfl
theorem WI.cut {l : By} {j f : Nat} {out : List By} (h : WI l j f out) (hj : j < l.length) (hb : bla (l.getD j 0) = true) : WI l (j + 1) (j + 1) (if j = f then out else out ++ [(l.drop f).take (j - f)]) := by
  obtain ⟨h1, h2, h3, h4⟩ := h
  refine ⟨by omega, by split <;> (try rw [List.length_append, List.length_singleton]) <;> omega, fun _ => ?_, fun h => absurd h (by omega)⟩
  rw [← h3 (by omega), drop_at l j hj, wgo, if_pos hb]
  congr 1
  · by_cases e : j = f
    · rw [if_pos e, if_pos ((seg_nil h1 (by omega)).2 e)]
    · rw [if_neg e, if_neg (fun c => e ((seg_nil h1 (by omega)).1 c))]
  · simp
theorem WI.last {l : By} {f : Nat} {out : List By} (h : WI l l.length f out) : WI l (l.length + 1) (l.length + 1) (if l.length = f then out else out ++ [(l.drop f).take (l.length - f)]) := by
  obtain ⟨h1, h2, h3, h4⟩ := h
  refine ⟨by omega, by split <;> (try rw [List.length_append, List.length_singleton]) <;> omega, fun h => absurd h (by omega), fun _ => ?_⟩
  rw [← h3 (Nat.le_refl _), List.drop_length, wgo]
  by_cases e : l.length = f
  · rw [if_pos e, if_pos ((seg_nil h1 (Nat.le_refl _)).2 e)]
  · rw [if_neg e, if_neg (fun c => e ((seg_nil h1 (Nat.le_refl _)).1 c))]
theorem extract_seg (l : By) (f j : Nat) : (bs l).extract f j = bs ((l.drop f).take (j - f)) := by
  simp [bs, ByteArray.extract, ByteArray.copySlice]
theorem strs_of_row {w : World} {base k : Nat} {v : Value} {ts : List ByteArray} (h : w.ownsRow base 9 1 v k (ts.map Value.string)) : strsV w v ts := by
  obtain ⟨h1, h2⟩ := h
  have hk : ts.length = k := by simpa using h1
  rcases h2 with ⟨rfl, rfl⟩ | ⟨g, cap, cur, rfl, _, hg, hc, _, hs, ht⟩
  · exact ⟨none, 0, by rw [hk], fun h => absurd h (by omega)⟩
  · refine ⟨_, cap, by rw [hk], fun _ => ⟨g, 0, rfl, (Array.getElem?_eq_some_iff.1 hg).1, fun i hi => ?_⟩⟩
    rw [row_cell hg]
    have e : cur.toList[0 + i]? = (ts.map Value.string)[i]? := by
      rw [← ht, List.getElem?_take_of_lt (by omega), Nat.zero_add]
    rw [← Array.getElem?_toList, e, List.getElem?_map, List.getElem?_eq_getElem hi, List.getD_eq_getElem?_getD, List.getElem?_eq_getElem hi]
    rfl
theorem bs_at (l : By) (j : Nat) (h : j < (bs l).size) : (((bs l)[j]'h).toNat : Int) = ((l.getD j 0).toNat : Int) := by
  have h2 : j < l.length := by rw [bs_size] at h; exact h
  have : (bs l)[j]'h = l.getD j 0 := by
    rw [List.getD_eq_getElem?_getD, List.getElem?_eq_getElem h2]
    simp [bs, ByteArray.getElem_eq_getElem_data]
  rw [this]
theorem bla_int (b : UInt8) : ((b.toNat : Int) == 32) = bla b := by
  unfold bla
  rw [Bool.eq_iff_iff, beq_iff_eq, beq_iff_eq]
  constructor
  · intro h; apply UInt8.toNat.inj; simpa using (show b.toNat = 32 by omega)
  · rintro rfl; rfl
theorem row_ge {w : World} {base k g c : Nat} {xs : List Value} (h : w.ownsRow base 9 1 (.slice (some ⟨g, 0, none⟩) k c) k xs) : base ≤ g := by
  rcases h.2 with ⟨e, _⟩ | ⟨g', c', cur, e, hg, _⟩
  · cases e
  · injection e with e _ _; injection e with e; injection e with e _ _; omega
theorem words7 (l : By) (w : World) (hl : l.length ≤ 65536) :
    Calls Tryd.prog 7 #[.string (bs l)] w fun e w' => ∃ v, e = .returned v ∧ strsV w' v ((wds l).map bs) ∧ Below w.heap.size w w' := by
  have hat : Hid (∀ (j : Nat) (h : j < (bs l).size), ((((bs l)[j]'h).toNat : Int) == 32) = bla (l.getD j 0)) := hide (fun j h => by rw [bs_at]; exact bla_int _)
  have hex : Hid (∀ f j, (bs l).extract f j = bs ((l.drop f).take (j - f))) := hide (extract_seg l)
  obtain ⟨n, hn⟩ : ∃ n, n = (bs l).size := ⟨_, rfl⟩
  have hnl : Hid (n = l.length) := hide (hn.trans (bs_size l))
  have k2 : (n : Int) ≤ 65536 := by have := unhide hnl; omega
  generalize bs l = t at *
  have HO := hide (empty_row w)
  have HB : Hid (Below w.heap.size w (w.alloc (.cells #[] 9))) := hide (bl_al (Below.refl _ _))
  have hsz : t.size = n := hn.symm
  clear hn hl
  go_enter Tryd.func7, Tryd.ntmps7
  go_wp2_with fail
  generalize w.alloc (.cells #[] 9) = w0 at *
  go_loopw [3, 4, 5] (fun s fr i wr => ∃ (j f : Nat) (out : List By) (g c : Nat), j ≤ n + 1 ∧ i = .int .i64 j ∧ fr = .int .i64 f ∧ s = .slice (some ⟨g, 0, none⟩) out.length c ∧ wr.ownsRow w.heap.size 9 1 (.slice (some ⟨g, 0, none⟩) out.length c) out.length ((out.map bs).map Value.string) ∧ Below w.heap.size w wr ∧ WI l j f out) (fun _ _ i _ => n + 1 - (intOf i).toNat)
  case atStart => exact ⟨0, 0, [], w.heap.size, 0, by omega, rfl, rfl, rfl, unhide HO, unhide HB, WI.start l⟩
  case round =>
    obtain ⟨j, f, out, g, c, hj, rfl, rfl, rfl, hown, hb, hwi⟩ := hrel
    have q0 : (0 : Int) ≤ (j : Int) := by omega
    have f0 : (0 : Int) ≤ (f : Int) := by omega
    have f1 : (f : Int) ≤ (j : Int) := by have := hwi.1; omega
    have HO2 := hide hown
    have HB2 := hide hb
    have HW := hide hwi
    have HJ := hide hj
    have HX := hide (hwi.2.1)
    have HK := hide k2
    clear hown hb hwi hj HO HB
    by_cases h9 : j = n + 1
    · have q1 : (n : Int) < (j : Int) := by omega
      clear h9
      go_wp2
      go_ret
      have e := (unhide HW).2.2.2 (by have := unhide hnl; omega)
      subst e
      exact ⟨_, rfl, strs_of_row (unhide HO2), unhide HB2⟩
    have q2 : (j : Int) ≤ (n : Int) := by have := unhide HJ; omega
    have STEP : Hid (∀ (b : Bool), (j = n ∨ (j < n ∧ bla (l.getD j 0) = true)) → WI l (j + 1) (j + 1) (if j = f then out else out ++ [(l.drop f).take (j - f)])) := hide (fun _ h => by
      have hh := unhide hnl
      rcases h with h | ⟨h1, h2⟩
      · have hw := unhide HW
        rw [h, hh] at hw
        rw [h, hh]; exact hw.last
      · exact (unhide HW).cut (by omega) h2)
    by_cases h8 : j = n
    · have e1 : ((j : Int) == (n : Int)) = true := by rw [h8]; simp
      have HS := hide (unhide STEP true (Or.inl h8))
      have HJN := hide h8
      clear h9 h8 STEP
      have HJ2 : Hid (j ≤ n) := hide (by omega)
      by_cases h7 : j = f
      · have q3 : (j : Int) ≤ (f : Int) := by omega
        rw [if_pos h7] at HS
        clear h7
        go_wp2
        refine ⟨⟨j + 1, j + 1, out, g, c, by have := unhide HJ2; omega, by go_num, by go_num, rfl, unhide HO2, unhide HB2, unhide HS⟩, ?_⟩
        have := unhide HJ2
        simp [intOf]; omega
      · have q3 : (f : Int) < (j : Int) := by omega
        rw [if_neg h7] at HS
        clear h7
        go_wp2_with (at_builtin; refine wpList_append_strsL _ rfl _ _ rfl w.heap.size out.length _ (out.map bs) rfl ((unhide HO2).alloc _) ⟨g, c, rfl⟩ _ [t.extract f j] rfl (one_str _ _) (by have := unhide HX; have := unhide HK; have := unhide HJ; simp; omega) (by have := (unhide HB2).size; simp; omega) ?_; intro g3 c3 w3 hown3 hgrow3 _; have HO3 : Hid (w3.ownsRow w.heap.size 9 1 (.slice (some ⟨g3, 0, none⟩) (out.length + 1) c3) (out.length + 1) (((out ++ [(l.drop f).take (j - f)]).map bs).map Value.string)) := hide (by rw [unhide hex] at hown3; simpa using hown3); have HB3 := hide (Below.grown (bl_al (o := .cells #[.string (t.extract f j)] 9) (unhide HB2)) hgrow3 (by have := (unhide HB2).size; simp; omega) (fun k e => by cases e; exact row_ge (unhide HO2))); clear hown3 hgrow3)
        refine ⟨⟨j + 1, j + 1, out ++ [(l.drop f).take (j - f)], g3, c3, by have := unhide HJ2; omega, by go_num, by go_num, by simp, by simpa using unhide HO3, unhide HB3, unhide HS⟩, ?_⟩
        have := unhide HJ2
        simp [intOf]; omega
    have hlt : j < n := by omega
    have q1 : (j : Int) < (n : Int) := by omega
    have e1 : ((j : Int) == (n : Int)) = false := by simp; omega
    have HJ2 : Hid (j < n) := hide hlt
    have e2 := unhide hat j
    cases hbl : bla (l.getD j 0) with
    | false =>
      simp only [hbl] at e2
      have HS := hide ((unhide HW).other (by have := unhide hnl; omega) hbl)
      clear h9 h8 hbl STEP hlt
      go_wp2
      refine ⟨⟨j + 1, f, out, g, c, by have := unhide HJ2; omega, by go_num, rfl, rfl, unhide HO2, unhide HB2, unhide HS⟩, ?_⟩
      have := unhide HJ2
      simp [intOf]; omega
    | true =>
      simp only [hbl] at e2
      have HS := hide (unhide STEP true (Or.inr ⟨hlt, hbl⟩))
      clear h9 h8 hbl STEP hlt
      by_cases h7 : j = f
      · have q3 : (j : Int) ≤ (f : Int) := by omega
        rw [if_pos h7] at HS
        clear h7
        go_wp2
        refine ⟨⟨j + 1, j + 1, out, g, c, by have := unhide HJ2; omega, by go_num, by go_num, rfl, unhide HO2, unhide HB2, unhide HS⟩, ?_⟩
        have := unhide HJ2
        simp [intOf]; omega
      · have q3 : (f : Int) < (j : Int) := by omega
        rw [if_neg h7] at HS
        clear h7
        go_wp2_with (at_builtin; refine wpList_append_strsL _ rfl _ _ rfl w.heap.size out.length _ (out.map bs) rfl ((unhide HO2).alloc _) ⟨g, c, rfl⟩ _ [t.extract f j] rfl (one_str _ _) (by have := unhide HX; have := unhide HK; have := unhide HJ; simp; omega) (by have := (unhide HB2).size; simp; omega) ?_; intro g3 c3 w3 hown3 hgrow3 _; have HO3 : Hid (w3.ownsRow w.heap.size 9 1 (.slice (some ⟨g3, 0, none⟩) (out.length + 1) c3) (out.length + 1) (((out ++ [(l.drop f).take (j - f)]).map bs).map Value.string)) := hide (by rw [unhide hex] at hown3; simpa using hown3); have HB3 := hide (Below.grown (bl_al (o := .cells #[.string (t.extract f j)] 9) (unhide HB2)) hgrow3 (by have := (unhide HB2).size; simp; omega) (fun k e => by cases e; exact row_ge (unhide HO2))); clear hown3 hgrow3)
        refine ⟨⟨j + 1, j + 1, out ++ [(l.drop f).take (j - f)], g3, c3, by have := unhide HJ2; omega, by go_num, by go_num, by simp, by simpa using unhide HO3, unhide HB3, unhide HS⟩, ?_⟩
        have := unhide HJ2
        simp [intOf]; omega
end Go.Proofs.YtbkcgkffafjbgaaDoor
