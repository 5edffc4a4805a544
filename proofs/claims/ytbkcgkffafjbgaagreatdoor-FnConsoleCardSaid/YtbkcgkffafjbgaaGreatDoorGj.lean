/- The specification's rest of a line, behind two words. -/
import Derived.Test.YtbkcgkffafjbgaaGreatDoorGh
/- The specification's words of a line. -/
namespace Go.Proofs.YtbkcgkffafjbgaaGreatDoor
open Go.RowKit
set_option maxHeartbeats 4000000
set_option maxRecDepth 20000
theorem empty_row (w : World) : (w.alloc (.cells #[] 9)).ownsRow w.heap.size 9 1 (.slice (some ⟨w.heap.size, 0, none⟩) 0 0) 0 [] :=
  ⟨rfl, .inr ⟨w.heap.size, 0, #[], rfl, Nat.le_refl _, heap_at _ _ _ rfl, Nat.le_refl _, by unfold maxLen; omega, rfl, rfl⟩⟩
/-- what the words are when j bytes were looked at and one began at f -/
def WI (l : By) (j f : Nat) (out : List By) : Prop :=
  f ≤ j ∧ out.length ≤ j ∧ (j ≤ l.length → wgo out ((l.drop f).take (j - f)) (l.drop j) = wds l) ∧ (l.length < j → out = wds l)
theorem WI.start (l : By) : WI l 0 0 [] := ⟨Nat.le_refl _, Nat.le_refl _, fun _ => rfl, fun h => absurd h (by omega)⟩
theorem drop_at (l : By) (j : Nat) (h : j < l.length) : l.drop j = l.getD j 0 :: l.drop (j + 1) := by
  rw [List.getD_eq_getElem?_getD, List.getElem?_eq_getElem h, List.drop_eq_getElem_cons h]; rfl
theorem seg_nil {l : By} {j f : Nat} (h : f ≤ j) (hj : j ≤ l.length) : (l.drop f).take (j - f) = [] ↔ j = f := by
  rw [← List.length_eq_zero_iff, List.length_take, List.length_drop]; omega
theorem WI.other {l : By} {j f : Nat} {out : List By} (h : WI l j f out) (hj : j < l.length) (hb : bla (l.getD j 0) = false) : WI l (j + 1) f out := by
  obtain ⟨h1, h2, h3, h4⟩ := h
  refine ⟨by omega, by omega, fun _ => ?_, fun h => absurd h (by omega)⟩
  rw [← h3 (by omega), drop_at l j hj, wgo, if_neg (by rw [hb]; simp)]
  congr 1
  rw [show j + 1 - f = (j - f) + 1 by omega, List.take_add_one, List.getElem?_drop, show f + (j - f) = j by omega, List.getD_eq_getElem?_getD, List.getElem?_eq_getElem hj]
  rfl
theorem WI.cut {l : By} {j f : Nat} {out : List By} (h : WI l j f out) (hj : j < l.length) (hb : bla (l.getD j 0) = true) : WI l (j + 1) (j + 1) (if j = f then out else out ++ [(l.drop f).take (j - f)]) := by
  obtain ⟨h1, h2, h3, h4⟩ := h
  refine ⟨by omega, by split <;> (try rw [List.length_append, List.length_singleton]) <;> omega, fun _ => ?_, fun h => absurd h (by omega)⟩
  rw [← h3 (by omega), drop_at l j hj, wgo, if_pos hb]
  congr 1
  · by_cases e : j = f
    · rw [if_pos e, if_pos ((seg_nil h1 (by omega)).2 e)]
    · rw [if_neg e, if_neg (fun c => e ((seg_nil h1 (by omega)).1 c))]
  · simp
theorem WI.last {l : By} {f : Nat} {out : List By} (h : WI l l.length f out) : WI l (l.length + 1) (l.length + 1) (if l.length = f then out else out ++ [(l.drop f).take (l.length - f)]) := by
  obtain ⟨h1, h2, h3, h4⟩ := h
  refine ⟨by omega, by split <;> (try rw [List.length_append, List.length_singleton]) <;> omega, fun h => absurd h (by omega), fun _ => ?_⟩
  rw [← h3 (Nat.le_refl _), List.drop_length, wgo]
  by_cases e : l.length = f
  · rw [if_pos e, if_pos ((seg_nil h1 (Nat.le_refl _)).2 e)]
  · rw [if_neg e, if_neg (fun c => e ((seg_nil h1 (Nat.le_refl _)).1 c))]
theorem extract_seg (l : By) (f j : Nat) : (bs l).extract f j = bs ((l.drop f).take (j - f)) := by
  simp [bs, ByteArray.extract, ByteArray.copySlice]
theorem strs_of_row {w : World} {base k : Nat} {v : Value} {ts : List ByteArray} (h : w.ownsRow base 9 1 v k (ts.map Value.string)) : strsV w v ts := by
  obtain ⟨h1, h2⟩ := h
  have hk : ts.length = k := by simpa using h1
  rcases h2 with ⟨rfl, rfl⟩ | ⟨g, cap, cur, rfl, _, hg, hc, _, hs, ht⟩
  · exact ⟨none, 0, by rw [hk], fun h => absurd h (by omega)⟩
  · refine ⟨_, cap, by rw [hk], fun _ => ⟨g, 0, rfl, (Array.getElem?_eq_some_iff.1 hg).1, fun i hi => ?_⟩⟩
    rw [row_cell hg]
    have e : cur.toList[0 + i]? = (ts.map Value.string)[i]? := by
      rw [← ht, List.getElem?_take_of_lt (by omega), Nat.zero_add]
    rw [← Array.getElem?_toList, e, List.getElem?_map, List.getElem?_eq_getElem hi, List.getD_eq_getElem?_getD, List.getElem?_eq_getElem hi]
    rfl
theorem bs_at (l : By) (j : Nat) (h : j < (bs l).size) : (((bs l)[j]'h).toNat : Int) = ((l.getD j 0).toNat : Int) := by
  have h2 : j < l.length := by rw [bs_size] at h; exact h
  have : (bs l)[j]'h = l.getD j 0 := by
    rw [List.getD_eq_getElem?_getD, List.getElem?_eq_getElem h2]
    simp [bs, ByteArray.getElem_eq_getElem_data]
  rw [this]
theorem bla_int (b : UInt8) : ((b.toNat : Int) == 32) = bla b := by
  unfold bla
  rw [Bool.eq_iff_iff, beq_iff_eq, beq_iff_eq]
  constructor
  · intro h; apply UInt8.toNat.inj; simpa using (show b.toNat = 32 by omega)
  · rintro rfl; rfl
theorem row_ge {w : World} {base k g c : Nat} {xs : List Value} (h : w.ownsRow base 9 1 (.slice (some ⟨g, 0, none⟩) k c) k xs) : base ≤ g := by
  rcases h.2 with ⟨e, _⟩ | ⟨g', c', cur, e, hg, _⟩
  · cases e
  · injection e with e _ _; injection e with e; injection e with e _ _; omega
theorem words7 (l : By) (w : World) (hl : l.length ≤ 65536) :
    Calls Tryz.prog 15 #[.string (bs l)] w fun e w' => ∃ v, e = .returned v ∧ strsV w' v ((wds l).map bs) ∧ Below w.heap.size w w' := by
  have hat : Hid (∀ (j : Nat) (h : j < (bs l).size), ((((bs l)[j]'h).toNat : Int) == 32) = bla (l.getD j 0)) := hide (fun j h => by rw [bs_at]; exact bla_int _)
  have hex : Hid (∀ f j, (bs l).extract f j = bs ((l.drop f).take (j - f))) := hide (extract_seg l)
  obtain ⟨n, hn⟩ : ∃ n, n = (bs l).size := ⟨_, rfl⟩
  have hnl : Hid (n = l.length) := hide (hn.trans (bs_size l))
  have k2 : (n : Int) ≤ 65536 := by have := unhide hnl; omega
  generalize bs l = t at *
  have HO := hide (empty_row w)
  have HB : Hid (Below w.heap.size w (w.alloc (.cells #[] 9))) := hide (bl_al (Below.refl _ _))
  have hsz : t.size = n := hn.symm
  clear hn hl
  go_enter Tryz.func15, Tryz.ntmps15
  go_wp2_with fail
  generalize w.alloc (.cells #[] 9) = w0 at *
  go_loopw [3, 4, 5] (fun s fr i wr => ∃ (j f : Nat) (out : List By) (g c : Nat), j ≤ n + 1 ∧ i = .int .i64 j ∧ fr = .int .i64 f ∧ s = .slice (some ⟨g, 0, none⟩) out.length c ∧ wr.ownsRow w.heap.size 9 1 (.slice (some ⟨g, 0, none⟩) out.length c) out.length ((out.map bs).map Value.string) ∧ Below w.heap.size w wr ∧ WI l j f out) (fun _ _ i _ => n + 1 - (intOf i).toNat)
  case atStart => exact ⟨0, 0, [], w.heap.size, 0, by omega, rfl, rfl, rfl, unhide HO, unhide HB, WI.start l⟩
  case round =>
    obtain ⟨j, f, out, g, c, hj, rfl, rfl, rfl, hown, hb, hwi⟩ := hrel
    have q0 : (0 : Int) ≤ (j : Int) := by omega
    have f0 : (0 : Int) ≤ (f : Int) := by omega
    have f1 : (f : Int) ≤ (j : Int) := by have := hwi.1; omega
    have HO2 := hide hown
    have HB2 := hide hb
    have HW := hide hwi
    have HJ := hide hj
    have HX := hide (hwi.2.1)
    have HK := hide k2
    clear hown hb hwi hj HO HB
    by_cases h9 : j = n + 1
    · have q1 : (n : Int) < (j : Int) := by omega
      clear h9
      go_wp2
      go_ret
      have e := (unhide HW).2.2.2 (by have := unhide hnl; omega)
      subst e
      exact ⟨_, rfl, strs_of_row (unhide HO2), unhide HB2⟩
    have q2 : (j : Int) ≤ (n : Int) := by have := unhide HJ; omega
    have STEP : Hid (∀ (b : Bool), (j = n ∨ (j < n ∧ bla (l.getD j 0) = true)) → WI l (j + 1) (j + 1) (if j = f then out else out ++ [(l.drop f).take (j - f)])) := hide (fun _ h => by
      have hh := unhide hnl
      rcases h with h | ⟨h1, h2⟩
      · have hw := unhide HW
        rw [h, hh] at hw
        rw [h, hh]; exact hw.last
      · exact (unhide HW).cut (by omega) h2)
    by_cases h8 : j = n
    · have e1 : ((j : Int) == (n : Int)) = true := by rw [h8]; simp
      have HS := hide (unhide STEP true (Or.inl h8))
      have HJN := hide h8
      clear h9 h8 STEP
      have HJ2 : Hid (j ≤ n) := hide (by omega)
      by_cases h7 : j = f
      · have q3 : (j : Int) ≤ (f : Int) := by omega
        rw [if_pos h7] at HS
        clear h7
        go_wp2
        refine ⟨⟨j + 1, j + 1, out, g, c, by have := unhide HJ2; omega, by go_num, by go_num, rfl, unhide HO2, unhide HB2, unhide HS⟩, ?_⟩
        have := unhide HJ2
        simp [intOf]; omega
      · have q3 : (f : Int) < (j : Int) := by omega
        rw [if_neg h7] at HS
        clear h7
        go_wp2_with (at_builtin; refine wpList_append_strsL _ rfl _ _ rfl w.heap.size out.length _ (out.map bs) rfl ((unhide HO2).alloc _) ⟨g, c, rfl⟩ _ [t.extract f j] rfl (one_str _ _) (by have := unhide HX; have := unhide HK; have := unhide HJ; simp; omega) (by have := (unhide HB2).size; simp; omega) ?_; intro g3 c3 w3 hown3 hgrow3 _; have HO3 : Hid (w3.ownsRow w.heap.size 9 1 (.slice (some ⟨g3, 0, none⟩) (out.length + 1) c3) (out.length + 1) (((out ++ [(l.drop f).take (j - f)]).map bs).map Value.string)) := hide (by rw [unhide hex] at hown3; simpa using hown3); have HB3 := hide (Below.grown (bl_al (o := .cells #[.string (t.extract f j)] 9) (unhide HB2)) hgrow3 (by have := (unhide HB2).size; simp; omega) (fun k e => by cases e; exact row_ge (unhide HO2))); clear hown3 hgrow3)
        refine ⟨⟨j + 1, j + 1, out ++ [(l.drop f).take (j - f)], g3, c3, by have := unhide HJ2; omega, by go_num, by go_num, by simp, by simpa using unhide HO3, unhide HB3, unhide HS⟩, ?_⟩
        have := unhide HJ2
        simp [intOf]; omega
    have hlt : j < n := by omega
    have q1 : (j : Int) < (n : Int) := by omega
    have e1 : ((j : Int) == (n : Int)) = false := by simp; omega
    have HJ2 : Hid (j < n) := hide hlt
    have e2 := unhide hat j
    cases hbl : bla (l.getD j 0) with
    | false =>
      simp only [hbl] at e2
      have HS := hide ((unhide HW).other (by have := unhide hnl; omega) hbl)
      clear h9 h8 hbl STEP hlt
      go_wp2
      refine ⟨⟨j + 1, f, out, g, c, by have := unhide HJ2; omega, by go_num, rfl, rfl, unhide HO2, unhide HB2, unhide HS⟩, ?_⟩
      have := unhide HJ2
      simp [intOf]; omega
    | true =>
      simp only [hbl] at e2
      have HS := hide (unhide STEP true (Or.inr ⟨hlt, hbl⟩))
      clear h9 h8 hbl STEP hlt
      by_cases h7 : j = f
      · have q3 : (j : Int) ≤ (f : Int) := by omega
        rw [if_pos h7] at HS
        clear h7
        go_wp2
        refine ⟨⟨j + 1, j + 1, out, g, c, by have := unhide HJ2; omega, by go_num, by go_num, rfl, unhide HO2, unhide HB2, unhide HS⟩, ?_⟩
        have := unhide HJ2
        simp [intOf]; omega
      · have q3 : (f : Int) < (j : Int) := by omega
        rw [if_neg h7] at HS
        clear h7
        go_wp2_with (at_builtin; refine wpList_append_strsL _ rfl _ _ rfl w.heap.size out.length _ (out.map bs) rfl ((unhide HO2).alloc _) ⟨g, c, rfl⟩ _ [t.extract f j] rfl (one_str _ _) (by have := unhide HX; have := unhide HK; have := unhide HJ; simp; omega) (by have := (unhide HB2).size; simp; omega) ?_; intro g3 c3 w3 hown3 hgrow3 _; have HO3 : Hid (w3.ownsRow w.heap.size 9 1 (.slice (some ⟨g3, 0, none⟩) (out.length + 1) c3) (out.length + 1) (((out ++ [(l.drop f).take (j - f)]).map bs).map Value.string)) := hide (by rw [unhide hex] at hown3; simpa using hown3); have HB3 := hide (Below.grown (bl_al (o := .cells #[.string (t.extract f j)] 9) (unhide HB2)) hgrow3 (by have := (unhide HB2).size; simp; omega) (fun k e => by cases e; exact row_ge (unhide HO2))); clear hown3 hgrow3)
        refine ⟨⟨j + 1, j + 1, out ++ [(l.drop f).take (j - f)], g3, c3, by have := unhide HJ2; omega, by go_num, by go_num, by simp, by simpa using unhide HO3, unhide HB3, unhide HS⟩, ?_⟩
        have := unhide HJ2
        simp [intOf]; omega
end Go.Proofs.YtbkcgkffafjbgaaGreatDoor
/- The specification's rest of a line, behind two words. -/
namespace Go.Proofs.YtbkcgkffafjbgaaGreatDoor
open Go.RowKit
set_option maxHeartbeats 4000000
set_option maxRecDepth 20000
def rsN : Nat → By → By
  | 0, l => l
  | i + 1, l => rs (rsN i l)
theorem tl_step {l : By} {k : Nat} (h : k < l.length) (hb : bla (l.getD k 0) = true) : tl (l.drop (k + 1)) = tl (l.drop k) := by
  rw [drop_at l k h, tl_cons_bla hb]
theorem tl_stop {l : By} {k : Nat} (h : l.length ≤ k ∨ (k < l.length ∧ bla (l.getD k 0) = false)) : tl (l.drop k) = l.drop k := by
  rcases h with h | ⟨h, hb⟩
  · rw [List.drop_eq_nil_of_le h]; rfl
  · rw [drop_at l k h, tl_cons_non hb]
theorem dw_step {l : By} {k : Nat} (h : k < l.length) (hb : bla (l.getD k 0) = false) : (l.drop (k + 1)).dropWhile non = (l.drop k).dropWhile non := by
  rw [drop_at l k h, List.dropWhile_cons, non_bla, hb]; rfl
theorem dw_stop {l : By} {k : Nat} (h : l.length ≤ k ∨ (k < l.length ∧ bla (l.getD k 0) = true)) : (l.drop k).dropWhile non = l.drop k := by
  rcases h with h | ⟨h, hb⟩
  · rw [List.drop_eq_nil_of_le h]; rfl
  · rw [drop_at l k h, List.dropWhile_cons, non_bla, hb]; rfl
/-- where the end stands while blanks are taken off behind -/
def EI (l : By) (k e : Nat) : Prop := k ≤ e ∧ e ≤ l.length ∧ tb ((l.drop k).take (e - k)) = tb (l.drop k)
theorem EI.start {l : By} {k : Nat} (h : k ≤ l.length) : EI l k l.length := ⟨h, Nat.le_refl _, by rw [List.take_of_length_le (by simp)]⟩
theorem seg_snoc {l : By} {k e : Nat} (h : k < e) (he : e ≤ l.length) : (l.drop k).take (e - k) = (l.drop k).take (e - 1 - k) ++ [l.getD (e - 1) 0] := by
  rw [show e - k = (e - 1 - k) + 1 by omega, List.take_add_one, List.getElem?_drop, show k + (e - 1 - k) = e - 1 by omega, List.getD_eq_getElem?_getD, List.getElem?_eq_getElem (show e - 1 < l.length by omega)]
  rfl
theorem EI.step {l : By} {k e : Nat} (h : EI l k e) (hk : k < e) (hb : bla (l.getD (e - 1) 0) = true) : EI l k (e - 1) := by
  refine ⟨by omega, by have := h.2.1; omega, ?_⟩
  rw [← h.2.2, seg_snoc hk h.2.1, tb_snoc_bla hb]
theorem EI.stop {l : By} {k e : Nat} (h : EI l k e) (hb : k = e ∨ (k < e ∧ bla (l.getD (e - 1) 0) = false)) : (l.drop k).take (e - k) = tb (l.drop k) := by
  rw [← h.2.2]
  rcases hb with rfl | ⟨hk, hb⟩
  · simp [tb]
  · rw [seg_snoc hk h.2.1, tb_snoc_non hb]
theorem rest12 (l : By) (w : World) (hl : l.length ≤ 65536) :
    Calls Tryz.prog 31 #[.string (bs l), .int .i64 2] w fun e w' => e = .returned (.string (bs (tr (rs (rs l))))) ∧ w' = w := by
  have hat : Hid (∀ (j : Nat) (h : j < (bs l).size), ((((bs l)[j]'h).toNat : Int) == 32) = bla (l.getD j 0)) := hide (fun j h => by rw [bs_at]; exact bla_int _)
  have hex : Hid (∀ f j, (bs l).extract f j = bs ((l.drop f).take (j - f))) := hide (extract_seg l)
  obtain ⟨n, hn⟩ : ∃ n, n = (bs l).size := ⟨_, rfl⟩
  have hnl : Hid (n = l.length) := hide (hn.trans (bs_size l))
  have k2 : (n : Int) ≤ 65536 := by have := unhide hnl; omega
  generalize bs l = t at *
  have hsz : t.size = n := hn.symm
  clear hn hl
  go_enter Tryz.func31, Tryz.ntmps31
  go_wp2
  go_loop [5, 6] (fun kv iv => ∃ k i : Nat, k ≤ n ∧ i ≤ 2 ∧ kv = .int .i64 k ∧ iv = .int .i64 i ∧ l.drop k = rsN i l) (fun _ iv => 2 - (intOf iv).toNat)
  case atStart => exact ⟨0, 0, by omega, by omega, rfl, rfl, rfl⟩
  case round =>
    obtain ⟨k, i, hk, hi, rfl, rfl, hki⟩ := hrel
    have HK := hide hk
    have HI := hide hki
    clear hk hki
    rcases (by omega : i = 2 ∨ i < 2) with rfl | hi2
    · clear hi
      go_wp2
      go_loop [5] (fun kv => ∃ k : Nat, k ≤ n ∧ kv = .int .i64 k ∧ tl (l.drop k) = tl (rsN 2 l)) (fun kv => n - (intOf kv).toNat)
      case atStart => exact ⟨k, unhide HK, rfl, by rw [unhide HI]⟩
      case round =>
        obtain ⟨k3, hk, rfl, hki⟩ := hrel
        have HK3 := hide hk
        have HI3 := hide hki
        have p0 : (0 : Int) ≤ (k3 : Int) := by omega
        rcases Nat.lt_or_ge k3 n with hlt | hge
        · have p1 : (k3 : Int) < (n : Int) := by omega
          have HL := hide hlt
          have e2 := unhide hat k3
          have e3 : ∀ (h : k3 < t.size), (((t[k3]'h).toNat : Int) != 32) = !bla (l.getD k3 0) := fun h => by rw [bne, unhide hat k3 h]
          cases hbl : bla (l.getD k3 0) with
          | true =>
            simp only [hbl, Bool.not_true] at e2 e3
            have HS := hide (tl_step (by have := unhide hnl; omega) hbl)
            clear hk hki hlt hbl
            go_wp2
            refine ⟨⟨k3 + 1, by have := unhide HL; omega, by go_num, (unhide HS).trans (unhide HI3)⟩, ?_⟩
            have := unhide HL
            simp [intOf] <;> omega
          | false =>
            simp only [hbl, Bool.not_false] at e2 e3
            have HE : Hid (l.length ≤ k3 ∨ (k3 < l.length ∧ bla (l.getD k3 0) = false)) := hide (Or.inr ⟨by have := unhide hnl; omega, hbl⟩)
            clear hk hki hlt hbl
            go_wp2
            go_loop [7] (fun ev => ∃ e : Nat, ev = .int .i64 e ∧ EI l k3 e) (fun ev => (intOf ev).toNat)
            case atStart => exact ⟨n, rfl, by have := EI.start (l := l) (k := k3) (by have := unhide HK3; have := unhide hnl; omega); rw [← unhide hnl] at this; exact this⟩
            case round =>
              obtain ⟨e, rfl, he⟩ := hrel
              have HE2 := hide he
              have g1 : (k3 : Int) ≤ (e : Int) := by have := he.1; omega
              have g2 : (e : Int) ≤ (n : Int) := by have := he.2.1; have := unhide hnl; omega
              have g0 : (0 : Int) ≤ (k3 : Int) := by omega
              have FIN : Hid ((k3 = e ∨ (k3 < e ∧ bla (l.getD (e - 1) 0) = false)) → t.extract k3 e = bs (tr (rs (rs l)))) := hide (fun h => by
                rw [unhide hex, (unhide HE2).stop h, ← tl_stop (unhide HE), unhide HI3, tb_tl]; rfl)
              rcases Nat.lt_or_ge k3 e with hlt | hge
              · have g3 : (k3 : Int) < (e : Int) := by omega
                have HL := hide hlt
                obtain ⟨d, rfl⟩ : ∃ d, e = d + 1 := ⟨e - 1, by omega⟩
                have g4 : (d : Int) < (n : Int) := by omega
                have g5 : (0 : Int) ≤ (d : Int) := by omega
                have e2 := unhide hat d
                cases hbl : bla (l.getD d 0) with
                | true =>
                  simp only [hbl] at e2
                  have HS : Hid (EI l k3 d) := hide ((unhide HE2).step hlt hbl)
                  clear he hlt hbl FIN
                  go_wp2
                  all_goals refine ⟨⟨d, by go_num, unhide HS⟩, ?_⟩
                  all_goals simp [intOf] <;> omega
                | false =>
                  simp only [hbl] at e2
                  have HF := hide (unhide FIN (Or.inr ⟨hlt, hbl⟩))
                  clear he hlt hbl FIN
                  go_wp2
                  all_goals go_ret
                  all_goals exact ⟨congrArg (fun x => Ending.returned (.string x)) (unhide HF), rfl⟩
              · have g3 : (e : Int) ≤ (k3 : Int) := by omega
                have HF := hide (unhide FIN (Or.inl (by omega)))
                clear he hge FIN
                go_wp2
                go_ret
                exact ⟨congrArg (fun x => Ending.returned (.string x)) (unhide HF), rfl⟩
        · have p1 : (n : Int) ≤ (k3 : Int) := by omega
          have HE : Hid (l.length ≤ k3 ∨ (k3 < l.length ∧ bla (l.getD k3 0) = false)) := hide (Or.inl (by have := unhide hnl; omega))
          clear hk hki hge
          go_wp2
          go_loop [7] (fun ev => ∃ e : Nat, ev = .int .i64 e ∧ EI l k3 e) (fun ev => (intOf ev).toNat)
          case atStart => exact ⟨n, rfl, by have := EI.start (l := l) (k := k3) (by have := unhide HK3; have := unhide hnl; omega); rw [← unhide hnl] at this; exact this⟩
          case round =>
            obtain ⟨e, rfl, he⟩ := hrel
            have HE2 := hide he
            have g1 : (k3 : Int) ≤ (e : Int) := by have := he.1; omega
            have g2 : (e : Int) ≤ (n : Int) := by have := he.2.1; have := unhide hnl; omega
            have g0 : (0 : Int) ≤ (k3 : Int) := by omega
            have FIN : Hid ((k3 = e ∨ (k3 < e ∧ bla (l.getD (e - 1) 0) = false)) → t.extract k3 e = bs (tr (rs (rs l)))) := hide (fun h => by
              rw [unhide hex, (unhide HE2).stop h, ← tl_stop (unhide HE), unhide HI3, tb_tl]; rfl)
            rcases Nat.lt_or_ge k3 e with hlt | hge
            · have g3 : (k3 : Int) < (e : Int) := by omega
              have HL := hide hlt
              obtain ⟨d, rfl⟩ : ∃ d, e = d + 1 := ⟨e - 1, by omega⟩
              have g4 : (d : Int) < (n : Int) := by omega
              have g5 : (0 : Int) ≤ (d : Int) := by omega
              have e2 := unhide hat d
              cases hbl : bla (l.getD d 0) with
              | true =>
                simp only [hbl] at e2
                have HS : Hid (EI l k3 d) := hide ((unhide HE2).step hlt hbl)
                clear he hlt hbl FIN
                go_wp2
                all_goals refine ⟨⟨d, by go_num, unhide HS⟩, ?_⟩
                all_goals simp [intOf] <;> omega
              | false =>
                simp only [hbl] at e2
                have HF := hide (unhide FIN (Or.inr ⟨hlt, hbl⟩))
                clear he hlt hbl FIN
                go_wp2
                all_goals go_ret
                all_goals exact ⟨congrArg (fun x => Ending.returned (.string x)) (unhide HF), rfl⟩
            · have g3 : (e : Int) ≤ (k3 : Int) := by omega
              have HF := hide (unhide FIN (Or.inl (by omega)))
              clear he hge FIN
              go_wp2
              go_ret
              exact ⟨congrArg (fun x => Ending.returned (.string x)) (unhide HF), rfl⟩
    · have q1 : (i : Int) < 2 := by omega
      have q2 : (0 : Int) ≤ (i : Int) := by omega
      have HI2 := hide hi2
      clear hi hi2
      go_wp2
      go_loop [5] (fun kv => ∃ k : Nat, k ≤ n ∧ kv = .int .i64 k ∧ tl (l.drop k) = tl (rsN i l)) (fun kv => n - (intOf kv).toNat)
      case atStart => exact ⟨k, unhide HK, rfl, by rw [unhide HI]⟩
      case round =>
        obtain ⟨k3, hk, rfl, hki⟩ := hrel
        have HK3 := hide hk
        have HI3 := hide hki
        have p0 : (0 : Int) ≤ (k3 : Int) := by omega
        rcases Nat.lt_or_ge k3 n with hlt | hge
        · have p1 : (k3 : Int) < (n : Int) := by omega
          have HL := hide hlt
          have e2 := unhide hat k3
          have e3 : ∀ (h : k3 < t.size), (((t[k3]'h).toNat : Int) != 32) = !bla (l.getD k3 0) := fun h => by rw [bne, unhide hat k3 h]
          cases hbl : bla (l.getD k3 0) with
          | true =>
            simp only [hbl, Bool.not_true] at e2 e3
            have HS := hide (tl_step (by have := unhide hnl; omega) hbl)
            clear hk hki hlt hbl
            go_wp2
            refine ⟨⟨k3 + 1, by have := unhide HL; omega, by go_num, (unhide HS).trans (unhide HI3)⟩, ?_⟩
            have := unhide HL
            simp [intOf] <;> omega
          | false =>
            simp only [hbl, Bool.not_false] at e2 e3
            have HE : Hid (l.length ≤ k3 ∨ (k3 < l.length ∧ bla (l.getD k3 0) = false)) := hide (Or.inr ⟨by have := unhide hnl; omega, hbl⟩)
            clear hk hki hlt hbl
            go_wp2
            go_loop [5] (fun kv => ∃ k : Nat, k ≤ n ∧ kv = .int .i64 k ∧ (l.drop k).dropWhile non = (tl (rsN i l)).dropWhile non) (fun kv => n - (intOf kv).toNat)
            case atStart => exact ⟨k3, unhide HK3, rfl, by rw [← unhide HI3, tl_stop (unhide HE)]⟩
            case round =>
              obtain ⟨k4, hk, rfl, hki⟩ := hrel
              have HK3 := hide hk
              have HI3 := hide hki
              have p0 : (0 : Int) ≤ (k4 : Int) := by omega
              rcases Nat.lt_or_ge k4 n with hlt | hge
              · have p1 : (k4 : Int) < (n : Int) := by omega
                have HL := hide hlt
                have e2 := unhide hat k4
                have e3 : ∀ (h : k4 < t.size), (((t[k4]'h).toNat : Int) != 32) = !bla (l.getD k4 0) := fun h => by rw [bne, unhide hat k4 h]
                cases hbl : bla (l.getD k4 0) with
                | false =>
                  simp only [hbl, Bool.not_false] at e2 e3
                  have HS := hide (dw_step (by have := unhide hnl; omega) hbl)
                  clear hk hki hlt hbl
                  go_wp2
                  refine ⟨⟨k4 + 1, by have := unhide HL; omega, by go_num, (unhide HS).trans (unhide HI3)⟩, ?_⟩
                  have := unhide HL
                  simp [intOf] <;> omega
                | true =>
                  simp only [hbl, Bool.not_true] at e2 e3
                  have HE : Hid (l.length ≤ k4 ∨ (k4 < l.length ∧ bla (l.getD k4 0) = true)) := hide (Or.inr ⟨by have := unhide hnl; omega, hbl⟩)
                  clear hk hki hlt hbl
                  go_wp2
                  refine ⟨⟨k4, i + 1, unhide HK3, by have := unhide HI2; omega, rfl, by go_num, ?_⟩, ?_⟩
                  · rw [← dw_stop (unhide HE), unhide HI3]; rfl
                  · have := unhide HI2
                    simp [intOf] <;> omega
              · have p1 : (n : Int) ≤ (k4 : Int) := by omega
                have HE : Hid (l.length ≤ k4 ∨ (k4 < l.length ∧ bla (l.getD k4 0) = true)) := hide (Or.inl (by have := unhide hnl; omega))
                clear hk hki hge
                go_wp2
                refine ⟨⟨k4, i + 1, unhide HK3, by have := unhide HI2; omega, rfl, by go_num, ?_⟩, ?_⟩
                · rw [← dw_stop (unhide HE), unhide HI3]; rfl
                · have := unhide HI2
                  simp [intOf] <;> omega
        · have p1 : (n : Int) ≤ (k3 : Int) := by omega
          have HE : Hid (l.length ≤ k3 ∨ (k3 < l.length ∧ bla (l.getD k3 0) = false)) := hide (Or.inl (by have := unhide hnl; omega))
          clear hk hki hge
          go_wp2
          go_loop [5] (fun kv => ∃ k : Nat, k ≤ n ∧ kv = .int .i64 k ∧ (l.drop k).dropWhile non = (tl (rsN i l)).dropWhile non) (fun kv => n - (intOf kv).toNat)
          case atStart => exact ⟨k3, unhide HK3, rfl, by rw [← unhide HI3, tl_stop (unhide HE)]⟩
          case round =>
            obtain ⟨k4, hk, rfl, hki⟩ := hrel
            have HK3 := hide hk
            have HI3 := hide hki
            have p0 : (0 : Int) ≤ (k4 : Int) := by omega
            rcases Nat.lt_or_ge k4 n with hlt | hge
            · have p1 : (k4 : Int) < (n : Int) := by omega
              have HL := hide hlt
              have e2 := unhide hat k4
              have e3 : ∀ (h : k4 < t.size), (((t[k4]'h).toNat : Int) != 32) = !bla (l.getD k4 0) := fun h => by rw [bne, unhide hat k4 h]
              cases hbl : bla (l.getD k4 0) with
              | false =>
                simp only [hbl, Bool.not_false] at e2 e3
                have HS := hide (dw_step (by have := unhide hnl; omega) hbl)
                clear hk hki hlt hbl
                go_wp2
                refine ⟨⟨k4 + 1, by have := unhide HL; omega, by go_num, (unhide HS).trans (unhide HI3)⟩, ?_⟩
                have := unhide HL
                simp [intOf] <;> omega
              | true =>
                simp only [hbl, Bool.not_true] at e2 e3
                have HE : Hid (l.length ≤ k4 ∨ (k4 < l.length ∧ bla (l.getD k4 0) = true)) := hide (Or.inr ⟨by have := unhide hnl; omega, hbl⟩)
                clear hk hki hlt hbl
                go_wp2
                refine ⟨⟨k4, i + 1, unhide HK3, by have := unhide HI2; omega, rfl, by go_num, ?_⟩, ?_⟩
                · rw [← dw_stop (unhide HE), unhide HI3]; rfl
                · have := unhide HI2
                  simp [intOf] <;> omega
            · have p1 : (n : Int) ≤ (k4 : Int) := by omega
              have HE : Hid (l.length ≤ k4 ∨ (k4 < l.length ∧ bla (l.getD k4 0) = true)) := hide (Or.inl (by have := unhide hnl; omega))
              clear hk hki hge
              go_wp2
              refine ⟨⟨k4, i + 1, unhide HK3, by have := unhide HI2; omega, rfl, by go_num, ?_⟩, ?_⟩
              · rw [← dw_stop (unhide HE), unhide HI3]; rfl
              · have := unhide HI2
                simp [intOf] <;> omega
end Go.Proofs.YtbkcgkffafjbgaaGreatDoor
