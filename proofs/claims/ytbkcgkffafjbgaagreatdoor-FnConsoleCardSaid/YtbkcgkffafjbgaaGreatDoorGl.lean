/- A text cut at each end of a line, by the specification. -/
import Derived.Test.YtbkcgkffafjbgaaGreatDoorGh
import Derived.Lib.Split
import Derived.Lib.SplitLaws
import Derived.Test.YtbkcgkffafjbgaaGreatDoorGj
/- A text's lines: on lists. -/
namespace Go.Proofs.YtbkcgkffafjbgaaGreatDoor
open Go.Lib
def onto (b : UInt8) (ls : List By) : List By :=
  match ls with
  | [] => [[b]]
  | x :: xs => (b :: x) :: xs
/-- cut at each end of a line -/
def cutF : By → List By
  | [] => [[]]
  | b :: l => if b = 10 then [] :: cutF l else onto b (cutF l)
theorem cutF_ne (l : By) : cutF l ≠ [] := by
  cases l with
  | nil => simp [cutF]
  | cons b l =>
    unfold cutF
    split
    · simp
    · unfold onto; split <;> simp
theorem index_ten (l : By) : index (10 :: l) [10] = 0 := by
  unfold index
  simp
theorem index_other {b : UInt8} (h : b ≠ 10) (l : By) : index (b :: l) [10] = if index l [10] = -1 then -1 else index l [10] + 1 := by
  rw [index]
  have : ([10] : List UInt8).isPrefixOf (b :: l) = false := by simp [List.isPrefixOf]; exact fun e => h e.symm
  simp [this]
theorem index_low (l : By) : -1 ≤ index l [10] := by
  induction l with
  | nil => decide
  | cons b l ih =>
    by_cases h : b = 10
    · subst h; rw [index_ten]; omega
    · rw [index_other h]; split <;> omega
theorem splitK_ne {b : UInt8} (h : b ≠ 10) (k : Nat) (l : By) : splitK [10] 0 k (b :: l) = onto b (splitK [10] 0 k l) := by
  cases k with
  | zero => rfl
  | succ k =>
    unfold splitK
    rw [index_other h]
    by_cases h1 : index l [10] = -1
    · rw [if_pos h1, h1]; rfl
    · have := index_low l
      have h2 : (index l [10] == -1) = false := by simpa using h1
      have h3 : (index l [10] + 1 == -1) = false := by simp; omega
      rw [if_neg h1, h2, h3]
      obtain ⟨i, hi⟩ : ∃ i : Nat, index l [10] = i := ⟨(index l [10]).toNat, by omega⟩
      rw [hi]
      have : ((i : Int) + 1).toNat = i + 1 := by omega
      rw [this]
      simp [onto]
theorem split_cut (l : By) : split l [10] = cutF l := by
  unfold split
  induction l with
  | nil => decide
  | cons b l ih =>
    unfold cutF
    by_cases h : b = 10
    · subst h
      rw [if_pos rfl, count_cons_eq, Nat.add_comm, splitK, index_ten]
      simp [ih]
    · rw [if_neg h, count_cons_ne _ _ _ h, splitK_ne h, ih]
/-- a text's lines: what stands behind the last end of a line, only if it has a byte -/
def linesL (l : By) : List By := if (cutF l).getLast? = some [] then (cutF l).dropLast else cutF l
end Go.Proofs.YtbkcgkffafjbgaaGreatDoor
/- A text's lines, by the program. -/
namespace Go.Proofs.YtbkcgkffafjbgaaGreatDoor
open Go.RowKit
set_option maxHeartbeats 4000000
set_option maxRecDepth 20000
set_option linter.unusedVariables false
theorem split_bs (l : By) : Lib.splitB ⟨#[10]⟩ 0 (Lib.countB (bs l) ⟨#[10]⟩) (bs l) = (cutF l).map bs := by
  have h := Lib.splitB_data ⟨#[10]⟩ 0 (Lib.countB (bs l) ⟨#[10]⟩) (bs l)
  have h2 : Lib.splitK (⟨#[10]⟩ : ByteArray).data.toList 0 (Lib.countB (bs l) ⟨#[10]⟩) (bs l).data.toList = cutF l := by
    rw [← split_cut]
    unfold Lib.split Lib.countB
    rw [bs_list]
  rw [h2] at h
  rw [← h, List.map_map]
  have : (bs ∘ fun x : ByteArray => x.data.toList) = id := by funext x; exact bs_of x
  rw [this, List.map_id]
theorem count_cut (l : By) : Lib.countB (bs l) ⟨#[10]⟩ + 1 = (cutF l).length := by
  have := Lib.splitB_all ⟨#[10]⟩ (by decide) 0 _ (bs l) rfl
  rw [split_bs, List.length_map] at this
  exact this.symm
theorem cut_len (l : By) : (cutF l).length ≤ l.length + 1 := by
  induction l with
  | nil => simp [cutF]
  | cons b l ih =>
    unfold cutF
    split
    · simpa using ih
    · unfold onto
      split
      · simp
      · next h => rw [h] at ih; simp at ih ⊢; omega
theorem cut_mem {l x : By} (h : x ∈ cutF l) : x.length ≤ l.length := by
  induction l generalizing x with
  | nil => simp [cutF] at h; subst h; simp
  | cons b l ih =>
    unfold cutF at h
    split at h
    · rcases List.mem_cons.1 h with rfl | h
      · simp
      · have := ih h; simp; omega
    · unfold onto at h
      split at h
      · simp at h; subst h; simp
      · next y ys e =>
        rcases List.mem_cons.1 h with rfl | h
        · have := ih (x := y) (by rw [e]; simp); simp; omega
        · have := ih (x := x) (by rw [e]; simp [h]); simp; omega
theorem lines_pre (l : By) : ∃ k, linesL l = (cutF l).take k ∧ (linesL l).length ≤ l.length + 1 := by
  have := cut_len l
  unfold linesL
  split
  · exact ⟨(cutF l).length - 1, by rw [List.dropLast_eq_take], by simp; omega⟩
  · exact ⟨(cutF l).length, by rw [List.take_length], by omega⟩
theorem lines17 (l : By) (m : Int) (w : World) (hm : w.cell? ⟨2, 0, none⟩ = some (.int .i64 m)) (hl : l.length ≤ 65536) :
    Calls Tryz.prog 17 #[.string (bs l)] w fun e w' => ∃ cap, e = .returned (.slice (some ⟨w.heap.size, 0, none⟩) (linesL l).length cap) ∧ w' = w.alloc (.cells ((cutF l).map fun x => Value.string (bs x)).toArray 9) := by
  have K := strings_Split (bs l) ⟨#[10]⟩ m w (by rw [bs_size]; omega) hm (by decide)
  rw [split_bs, List.map_map, count_cut] at K
  have hn := cutF_ne l
  obtain ⟨n, hn1⟩ : ∃ n, (cutF l).length = n + 1 := ⟨(cutF l).length - 1, by have := List.length_pos_iff.2 hn; omega⟩
  have hlen := cut_len l
  have c := row_cell (i := n) (heap_alloc_new w (.cells ((cutF l).map fun x => Value.string (bs x)).toArray 9))
  have hlast : (cutF l)[n]? = (cutF l).getLast? := by rw [List.getLast?_eq_getElem?, hn1]; rfl
  obtain ⟨x, hx⟩ : ∃ x, (cutF l)[n]? = some x := ⟨_, List.getElem?_eq_getElem (by omega)⟩
  rw [List.getElem?_toArray, List.getElem?_map, hx] at c
  simp only [Option.map_some] at c
  have hL : linesL l = if x = [] then (cutF l).dropLast else cutF l := by
    unfold linesL
    rw [← hlast, hx]
    simp
  have hLl : (linesL l).length = if x = [] then n else n + 1 := by
    rw [hL]
    split <;> simp [hn1]
  rw [hLl]
  change Calls Tryz.prog 32 #[.string (bs l), .string ⟨#[10]⟩] w fun e w' => e = .returned (.slice (some ⟨w.heap.size, 0, none⟩) (cutF l).length (cutF l).length) ∧ w' = w.alloc (.cells ((cutF l).map fun x => Value.string (bs x)).toArray 9) at K
  rw [hn1] at K
  have hxl := bs_toList x
  have q1 : ((n + 1 : Nat) : Int) ≤ 9223372036854775807 := by omega
  have q2 : (0 : Int) ≤ (n : Int) := by omega
  have q3 : ((n + 1 : Nat) : Int) - 1 = (n : Int) := by omega
  generalize w.alloc (.cells ((cutF l).map fun x => Value.string (bs x)).toArray 9) = w1 at *
  generalize bs l = lt at *
  generalize bs x = t at *
  clear hL hLl hx hlast hn1 hn hlen hm hl
  by_cases h0 : x = []
  · rw [if_pos h0]
    have he : t.toList.isEmpty = true := by rw [hxl, h0]; rfl
    clear hxl h0
    go_enter Tryz.func17, Tryz.ntmps17
    go_wp2_with (go_at_call 32; refine K.mono ?_; rintro e w2 ⟨rfl, rfl⟩)
    go_ret
    exact ⟨_, rfl, rfl⟩
  · rw [if_neg h0]
    have he : t.toList.isEmpty = false := by rw [hxl]; cases x; exact absurd rfl h0; rfl
    clear hxl h0
    go_enter Tryz.func17, Tryz.ntmps17
    go_wp2_with (go_at_call 32; refine K.mono ?_; rintro e w2 ⟨rfl, rfl⟩)
    go_ret
    exact ⟨_, rfl, rfl⟩
end Go.Proofs.YtbkcgkffafjbgaaGreatDoor
/- A text cut at each end of a line, by the specification. -/
namespace Go.Proofs.YtbkcgkffafjbgaaGreatDoor
open Go.RowKit
set_option maxHeartbeats 4000000
set_option maxRecDepth 20000
set_option linter.unusedVariables false
def glue (p : By) (ls : List By) : List By :=
  match ls with
  | [] => [p]
  | x :: xs => (p ++ x) :: xs
theorem glue_nil (l : By) : glue [] (cutF l) = cutF l := by
  have := cutF_ne l
  cases h : cutF l with
  | nil => exact absurd h this
  | cons x xs => rfl
/-- what is cut so far, and what is left -/
def CI (l : By) (j f : Nat) (out : List By) : Prop := f ≤ j ∧ out.length ≤ j ∧ cutF l = out ++ glue ((l.drop f).take (j - f)) (cutF (l.drop j))
theorem CI.start (l : By) : CI l 0 0 [] := ⟨Nat.le_refl _, Nat.le_refl _, by simp [glue_nil]⟩
theorem CI.other {l : By} {j f : Nat} {out : List By} (h : CI l j f out) (hj : j < l.length) (hb : (l.getD j 0 == 10) = false) : CI l (j + 1) f out := by
  obtain ⟨h1, h2, h3⟩ := h
  refine ⟨by omega, by omega, ?_⟩
  rw [h3, drop_at l j hj, cutF, if_neg (by simpa using hb)]
  congr 1
  rw [show j + 1 - f = (j - f) + 1 by omega, List.take_add_one, List.getElem?_drop, show f + (j - f) = j by omega, List.getElem?_eq_getElem hj, List.getD_eq_getElem?_getD, List.getElem?_eq_getElem hj]
  have := cutF_ne (l.drop (j + 1))
  cases h : cutF (l.drop (j + 1)) with
  | nil => exact absurd h this
  | cons x xs => simp [glue, onto]
theorem CI.cut {l : By} {j f : Nat} {out : List By} (h : CI l j f out) (hj : j < l.length) (hb : (l.getD j 0 == 10) = true) : CI l (j + 1) (j + 1) (out ++ [(l.drop f).take (j - f)]) := by
  obtain ⟨h1, h2, h3⟩ := h
  refine ⟨by omega, by simp; omega, ?_⟩
  rw [h3, drop_at l j hj, cutF, if_pos (by simpa using hb)]
  simp [glue_nil]
  simp [glue]
theorem CI.last {l : By} {f : Nat} {out : List By} (h : CI l l.length f out) : cutF l = out ++ [(l.drop f).take (l.length - f)] := by
  obtain ⟨h1, h2, h3⟩ := h
  rw [h3, List.drop_length]
  simp [glue, cutF]
theorem ten_int (b : UInt8) : ((b.toNat : Int) == 10) = (b == 10) := by
  rw [Bool.eq_iff_iff, beq_iff_eq, beq_iff_eq]
  constructor
  · intro h; apply UInt8.toNat.inj; simpa using (show b.toNat = 10 by omega)
  · rintro rfl; rfl
theorem cut20 (l : By) (w : World) (hl : l.length ≤ 65536) :
    Calls Tryz.prog 20 #[.string (bs l), .int .u8 10] w fun e w' => ∃ g c, e = .returned (.slice (some ⟨g, 0, none⟩) (cutF l).length c) ∧ w'.ownsRow w.heap.size 9 1 (.slice (some ⟨g, 0, none⟩) (cutF l).length c) (cutF l).length (((cutF l).map bs).map Value.string) ∧ Below w.heap.size w w' := by
  have hat : Hid (∀ (j : Nat) (h : j < (bs l).size), ((((bs l)[j]'h).toNat : Int) == 10) = (l.getD j 0 == 10)) := hide (fun j h => by rw [bs_at]; exact ten_int _)
  have hex : Hid (∀ f j, (bs l).extract f j = bs ((l.drop f).take (j - f))) := hide (extract_seg l)
  obtain ⟨n, hn⟩ : ∃ n, n = (bs l).size := ⟨_, rfl⟩
  have hnl : Hid (n = l.length) := hide (hn.trans (bs_size l))
  have k2 : (n : Int) ≤ 65536 := by have := unhide hnl; omega
  generalize bs l = t at *
  have HO := hide (empty_row w)
  have HB : Hid (Below w.heap.size w (w.alloc (.cells #[] 9))) := hide (bl_al (Below.refl _ _))
  have hsz : t.size = n := hn.symm
  clear hn hl
  go_enter Tryz.func20, Tryz.ntmps20
  go_wp2_with fail
  generalize w.alloc (.cells #[] 9) = w0 at *
  go_loopw [5, 6, 7] (fun s fr i wr => ∃ (j f : Nat) (out : List By) (g c : Nat), j ≤ n ∧ i = .int .i64 j ∧ fr = .int .i64 f ∧ s = .slice (some ⟨g, 0, none⟩) out.length c ∧ wr.ownsRow w.heap.size 9 1 (.slice (some ⟨g, 0, none⟩) out.length c) out.length ((out.map bs).map Value.string) ∧ Below w.heap.size w wr ∧ CI l j f out) (fun _ _ i _ => n - (intOf i).toNat)
  case atStart => exact ⟨0, 0, [], w.heap.size, 0, by omega, rfl, rfl, rfl, unhide HO, unhide HB, CI.start l⟩
  case round =>
    obtain ⟨j, f, out, g, c, hj, rfl, rfl, rfl, hown, hb, hwi⟩ := hrel
    have q0 : (0 : Int) ≤ (j : Int) := by omega
    have f0 : (0 : Int) ≤ (f : Int) := by omega
    have f1 : (f : Int) ≤ (j : Int) := by have := hwi.1; omega
    have HO2 := hide hown
    have HB2 := hide hb
    have HW := hide hwi
    have HJ := hide hj
    have HX := hide (hwi.2.1)
    have HK := hide k2
    clear hown hb hwi hj HO HB
    by_cases h9 : j = n
    · have q1 : (n : Int) ≤ (j : Int) := by omega
      have f2 : (f : Int) ≤ (n : Int) := by omega
      have HN := hide h9
      clear h9
      go_wp2_with (at_builtin; refine wpList_append_strsL _ rfl _ _ rfl w.heap.size out.length _ (out.map bs) rfl ((unhide HO2).alloc _) ⟨g, c, rfl⟩ _ [t.extract f n] rfl (one_str _ _) (by have := unhide HX; have := unhide HK; have := unhide HJ; simp; omega) (by have := (unhide HB2).size; simp; omega) ?_; intro g3 c3 w3 hown3 hgrow3 _; have HO3 : Hid (w3.ownsRow w.heap.size 9 1 (.slice (some ⟨g3, 0, none⟩) (out.length + 1) c3) (out.length + 1) (((out ++ [(l.drop f).take (n - f)]).map bs).map Value.string)) := hide (by rw [unhide hex] at hown3; simpa using hown3); have HB3 := hide (Below.grown (bl_al (o := .cells #[.string (t.extract f n)] 9) (unhide HB2)) hgrow3 (by have := (unhide HB2).size; simp; omega) (fun k e => by cases e; exact row_ge (unhide HO2))); clear hown3 hgrow3)
      go_ret
      have hw := unhide HW
      rw [unhide HN, unhide hnl] at hw
      have e := hw.last
      have ho := unhide HO3
      rw [unhide hnl, ← e] at ho
      have el : out.length + 1 = (cutF l).length := by rw [e]; simp
      rw [← el]
      exact ⟨g3, c3, by simp, ho, unhide HB3⟩
    · have hlt : j < n := by have := unhide HJ; omega
      have q1 : (j : Int) < (n : Int) := by omega
      have HJ2 : Hid (j < n) := hide hlt
      have e2 := unhide hat j
      cases hbl : (l.getD j 0 == 10) with
      | false =>
        simp only [hbl] at e2
        have HS := hide ((unhide HW).other (by have := unhide hnl; omega) hbl)
        clear h9 hbl hlt
        go_wp2
        refine ⟨⟨j + 1, f, out, g, c, by have := unhide HJ2; omega, by go_num, rfl, rfl, unhide HO2, unhide HB2, unhide HS⟩, ?_⟩
        have := unhide HJ2
        simp [intOf]; omega
      | true =>
        simp only [hbl] at e2
        have HS := hide ((unhide HW).cut (by have := unhide hnl; omega) hbl)
        clear h9 hbl hlt
        go_wp2_with (at_builtin; refine wpList_append_strsL _ rfl _ _ rfl w.heap.size out.length _ (out.map bs) rfl ((unhide HO2).alloc _) ⟨g, c, rfl⟩ _ [t.extract f j] rfl (one_str _ _) (by have := unhide HX; have := unhide HK; have := unhide HJ; simp; omega) (by have := (unhide HB2).size; simp; omega) ?_; intro g3 c3 w3 hown3 hgrow3 _; have HO3 : Hid (w3.ownsRow w.heap.size 9 1 (.slice (some ⟨g3, 0, none⟩) (out.length + 1) c3) (out.length + 1) (((out ++ [(l.drop f).take (j - f)]).map bs).map Value.string)) := hide (by rw [unhide hex] at hown3; simpa using hown3); have HB3 := hide (Below.grown (bl_al (o := .cells #[.string (t.extract f j)] 9) (unhide HB2)) hgrow3 (by have := (unhide HB2).size; simp; omega) (fun k e => by cases e; exact row_ge (unhide HO2))); clear hown3 hgrow3)
        refine ⟨⟨j + 1, j + 1, out ++ [(l.drop f).take (j - f)], g3, c3, by have := unhide HJ2; omega, by go_num, by go_num, by simp, by simpa using unhide HO3, unhide HB3, unhide HS⟩, ?_⟩
        have := unhide HJ2
        simp [intOf]; omega
end Go.Proofs.YtbkcgkffafjbgaaGreatDoor
