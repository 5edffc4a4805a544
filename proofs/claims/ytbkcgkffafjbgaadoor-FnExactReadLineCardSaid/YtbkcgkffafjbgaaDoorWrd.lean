/- A line that is read: what is left of it, its next word; the program's side. -/
import Derived.Test.YtbkcgkffafjbgaaDoorStr
import Derived.Test.YtbkcgkffafjbgaaDoorRdm
import Derived.Test.YtbkcgkffafjbgaaDoorShf
namespace Go.Proofs.YtbkcgkffafjbgaaDoor
open Go.RowKit
set_option maxHeartbeats 4000000
set_option maxRecDepth 20000
def bs (l : By) : ByteArray := ⟨l.toArray⟩
theorem bs_size (l : By) : (bs l).size = l.length := by simp [bs, ByteArray.size]
theorem bs_list (l : By) : (bs l).data.toList = l := by simp [bs]
theorem bs_of (s : ByteArray) : bs s.data.toList = s := by cases s; simp [bs]
/-- what is left of a line, in its block -/
def U (q : Nat) (l : By) (w : World) : Prop := w.heap[q]? = some (.cells #[.string (bs l)] 36 (0, 0))
theorem U.lt {q : Nat} {l : By} {w : World} (h : U q l w) : q < w.heap.size := (Array.getElem?_eq_some_iff.1 h).1
theorem U.below {q : Nat} {l : By} {w w' : World} (h : U q l w) (hb : Below w.heap.size w w') : U q l w' := (hb.block q h.lt).trans h
theorem U.cell {q : Nat} {l : By} {w : World} (h : U q l w) : w.cell? ⟨q, 0, none⟩ = some (.string (bs l)) := by rw [row_cell h]; rfl
theorem U.free {q : Nat} {l : By} {w : World} (h : U q l w) : w.frozen? ⟨q, 0, none⟩ = false := row_free h
theorem U.set {q : Nat} {l m : By} {w : World} (h : U q l w) : U q m (w.setCell ⟨q, 0, none⟩ (.string (bs m))) := by
  have := row_set (i := 0) (v := .string (bs m)) h
  unfold U
  simpa using this
theorem text21 (q : Nat) (l : By) (w : World) (hu : U q l w) (hl : l.length ≤ 65536) :
    Calls Tryd.prog 21 #[.pointer (some ⟨q, 0, none⟩)] w fun e w' => e = .returned (.string (bs (tr l))) ∧ (w' = w ∨ w' = w.drew) := by
  have c := hu.cell
  have K := strings_Trim_one (bs l) 32 (by decide) w (by rw [bs_size]; omega)
  rw [bs_list, tr_lib] at K
  clear hu
  go_enter Tryd.func21, Tryd.ntmps21
  go_wp2_with (go_at_call 27; refine K.mono ?_; rintro e w' ⟨rfl, hw⟩)
  go_ret
  exact ⟨rfl, hw⟩
theorem idx_one (l : By) : (Lib.indexByte l 32 = -1 ∧ l.takeWhile non = l ∧ l.dropWhile non = []) ∨
    (Lib.indexByte l 32 = ((l.takeWhile non).length : Int) ∧ (l.takeWhile non).length < l.length ∧ l.take (l.takeWhile non).length = l.takeWhile non ∧ l.drop ((l.takeWhile non).length + 1) = (l.dropWhile non).tail) := by
  induction l with
  | nil => exact Or.inl ⟨rfl, rfl, rfl⟩
  | cons b l ih =>
    unfold Lib.indexByte
    rw [List.takeWhile_cons, List.dropWhile_cons]
    by_cases hb : b = 32
    · subst hb
      exact Or.inr ⟨rfl, by simp [non], by simp [non], by simp [non]⟩
    · have hn : non b = true := by unfold non; simpa using hb
      rw [if_neg (by simpa using hb), if_pos hn, if_pos hn]
      rcases ih with ⟨h1, h2, h3⟩ | ⟨h1, h2, h3, h4⟩
      · exact Or.inl ⟨by rw [h1]; rfl, by rw [h2], h3⟩
      · refine Or.inr ⟨?_, by simp; omega, by simp [h3], by simp [h4]⟩
        rw [h1, if_neg (by simp)]; simp
theorem extract_take (l : By) (k : Nat) : (bs l).extract 0 k = bs (l.take k) := by
  simp [bs, ByteArray.extract, ByteArray.copySlice]
theorem extract_drop (l : By) (k : Nat) : (bs l).extract k l.length = bs (l.drop k) := by
  simp [bs, ByteArray.extract, ByteArray.copySlice]
  exact List.take_of_length_le (by simp)
theorem dropWhile_len (p : UInt8 → Bool) (l : By) : (l.dropWhile p).length ≤ l.length := by
  induction l with
  | nil => simp
  | cons b l ih => rw [List.dropWhile_cons]; split <;> simp <;> omega
theorem cut28 (l : By) (w : World) (hl : l.length ≤ 65536) :
    Calls Tryd.prog 28 #[.string (bs l), .string ⟨#[32]⟩] w fun e w' => (∃ b, e = .returned (.tuple #[.string (bs (l.takeWhile non)), .string (bs ((l.dropWhile non).tail)), .bool b])) ∧ ∃ n, w' = w.drewN n := by
  have K := stringslite_Index_one (bs l) 32 w
  rw [bs_list] at K
  have hs := bs_size l
  rcases idx_one l with ⟨h1, h2, h3⟩ | ⟨h1, h2, h3, h4⟩
  · rw [h1] at K
    rw [h2, h3]
    go_enter Tryd.func28, Tryd.ntmps28
    go_wp2_with (go_at_call 36; refine K.mono ?_; rintro e w' ⟨rfl, rfl⟩)
    refine bodyPost_ret (results_tmp3 rfl _ _ _) rfl ?_
    exact ⟨⟨_, rfl⟩, 0, rfl⟩
  · rw [h1] at K
    rw [← h3, ← h4]
    generalize (l.takeWhile non).length = k at *
    have k0 : (0 : Int) ≤ (k : Int) := by omega
    have k1 : (k : Int) + 1 ≤ ((bs l).size : Int) := by rw [hs]; omega
    have k2 : ((bs l).size : Int) ≤ 65536 := by rw [hs]; omega
    have hk : Hid (k < l.length) := hide h2
    clear h1 h2 h3 h4 hl
    go_enter Tryd.func28, Tryd.ntmps28
    go_wp2_with (go_at_call 36; refine K.mono ?_; rintro e w' ⟨rfl, rfl⟩)
    go_quiet (fail)
    go_wp2
    refine bodyPost_ret (results_tmp3 rfl _ _ _) rfl ?_
    rw [← extract_take, ← extract_drop]
    exact ⟨⟨_, rfl⟩, _, rfl⟩
theorem cut25 (l : By) (w : World) (hl : l.length ≤ 65536) :
    Calls Tryd.prog 25 #[.string (bs l), .string ⟨#[32]⟩] w fun e w' => (∃ b, e = .returned (.tuple #[.string (bs (l.takeWhile non)), .string (bs ((l.dropWhile non).tail)), .bool b])) ∧ ∃ n, w' = w.drewN n := by
  have K := cut28 l w hl
  go_enter Tryd.func25, Tryd.ntmps25
  go_wp2_with (go_at_call 28; refine K.mono ?_; rintro e w' ⟨⟨b, rfl⟩, n, rfl⟩)
  refine bodyPost_ret (results_tmp3 rfl _ _ _) rfl ?_
  exact ⟨⟨_, rfl⟩, _, rfl⟩
theorem tr_len (l : By) : (tr l).length ≤ l.length := by
  unfold tr tl tb
  refine Nat.le_trans (dropWhile_len ..) ?_
  rw [List.length_reverse]
  refine Nat.le_trans (dropWhile_len ..) ?_
  simp
theorem lf_len (l : By) : (lf l).length ≤ l.length := by
  unfold lf
  rw [List.length_tail]
  have := dropWhile_len non (tr l)
  have := tr_len l
  omega
theorem U.drew {q : Nat} {l : By} {w : World} (h : U q l w) : U q l w.drew := h
theorem Lone.drewN (q n : Nat) (w : World) : Lone q w (w.drewN n) := Lone.of_below (below_drewN (Below.refl _ _) n)
theorem word18 (q : Nat) (l : By) (w : World) (hu : U q l w) (hl : l.length ≤ 65536) :
    Calls Tryd.prog 18 #[.pointer (some ⟨q, 0, none⟩)] w fun e w' => e = .returned (.string (bs (wd l))) ∧ U q (lf l) w' ∧ Lone q w w' := by
  have K := text21 q l w hu hl
  have HU := hide hu
  have hl' := Nat.le_trans (tr_len l) hl
  clear hu
  go_enter Tryd.func18, Tryd.ntmps18
  go_wp2_with (go_at_call 21; refine K.mono ?_; rintro e w1 ⟨rfl, hw⟩)
  have HU1 : Hid (U q l w1) := by rcases hw with rfl | rfl; exact HU; exact HU
  have HB1 : Hid (Lone q w w1) := by rcases hw with rfl | rfl; exact hide (Lone.refl _ _); exact hide (Lone.drewN _ 1 _)
  have K2 := cut25 (tr l) w1 hl'
  rw [wd_tr] at K2
  clear hw K HU
  go_wp2_with (go_at_call 25; refine K2.mono ?_; rintro e w2 ⟨⟨b, rfl⟩, n, rfl⟩; have c2 := (unhide HU1).cell; have f2 := (unhide HU1).free)
  go_ret
  refine ⟨rfl, ?_, ?_⟩
  · exact U.set (m := lf l) (show U q l (w1.drewN n) from unhide HU1)
  · exact ((unhide HB1).trans (Lone.drewN q n w1)).trans (lone_setCell q 0 _ _)
/-- the names of both who talk, in their block -/
def Nm (w : World) : Prop := ∃ t fr, w.heap[0]? = some (.cells #[.string ⟨#[97]⟩, .string ⟨#[98]⟩] t fr)
theorem Nm.lt {w : World} (h : Nm w) : 0 < w.heap.size := by obtain ⟨t, fr, h⟩ := h; exact (Array.getElem?_eq_some_iff.1 h).1
theorem Nm.lone {q : Nat} {w w' : World} (h : Nm w) (hl : Lone q w w') (hq : 0 < q) : Nm w' := by
  obtain ⟨t, fr, e⟩ := h
  exact ⟨t, fr, (hl.block 0 (Array.getElem?_eq_some_iff.1 e).1 (by omega)).trans e⟩
theorem Nm.below {w w' : World} (h : Nm w) (hl : Below w.heap.size w w') : Nm w' := by
  obtain ⟨t, fr, e⟩ := h
  exact ⟨t, fr, (hl.block 0 (Array.getElem?_eq_some_iff.1 e).1).trans e⟩
theorem Nm.c0 {w : World} (h : Nm w) : w.cell? ⟨0, 0, none⟩ = some (.string ⟨#[97]⟩) := by obtain ⟨t, fr, e⟩ := h; unfold World.cell?; rw [e]; rfl
theorem Nm.c1 {w : World} (h : Nm w) : w.cell? ⟨0, 1, none⟩ = some (.string ⟨#[98]⟩) := by obtain ⟨t, fr, e⟩ := h; unfold World.cell?; rw [e]; rfl
abbrev formP : PanicEntry := { v := .iface 3 (.int .i64 3), recovered := false }
/-- what a reading of a part of a line ends in: a value, or the panic of a line that is no act -/
def ends (o : Option Value) (l' : By) (q : Nat) (w : World) (e : Ending) (w' : World) : Prop :=
  match o with
  | some v => e = .returned v ∧ U q l' w' ∧ Lone q w w'
  | none => e = .panicked [formP] ∧ Lone q w w'
/-- who is named -/
def whoF (x : By) : Option Int := if x = [97] then some 0 else if x = [98] then some 1 else none
theorem bs_inj {l m : By} : bs l = bs m ↔ l = m := by
  constructor
  · intro h; have := congrArg (fun b => b.data.toList) h; simpa [bs] using this
  · rintro rfl; rfl
theorem bs_toList (l : By) : (bs l).toList = l := by rw [ByteArray.toList_eq, bs_list]
theorem lone_dr {q : Nat} {w w1 : World} (h : w1 = w ∨ w1 = w.drew) : Lone q w w1 := by
  rcases h with rfl | rfl
  · exact Lone.refl _ _
  · exact Lone.drewN _ 1 _
theorem U.dr {q : Nat} {l : By} {w w1 : World} (hu : U q l w) (h : w1 = w ∨ w1 = w.drew) : U q l w1 := by
  rcases h with rfl | rfl
  · exact hu
  · exact hu
theorem end24 (q : Nat) (l : By) (w : World) (hu : U q l w) (hl : l.length ≤ 65536) :
    Calls Tryd.prog 24 #[.pointer (some ⟨q, 0, none⟩)] w (ends (if tr l = [] then some (.tuple #[]) else none) l q w) := by
  have K := text21 q l w hu hl
  have HU := hide hu
  clear hu
  have hx := bs_toList (tr l)
  generalize tr l = x at *
  generalize bs x = t at *
  by_cases h : x = []
  · rw [if_pos h]
    have he : t.toList.isEmpty = true := by rw [hx, h]; rfl
    clear hx
    go_enter Tryd.func24, Tryd.ntmps24
    go_wp2_with (go_at_call 21; refine K.mono ?_; rintro e w1 ⟨rfl, hw⟩)
    refine bodyPost_end (results_none rfl _ _ _) rfl ?_
    exact ⟨rfl, (unhide HU).dr hw, lone_dr hw⟩
  · rw [if_neg h]
    have he : t.toList.isEmpty = false := by rw [hx]; cases x; exact absurd rfl h; rfl
    clear hx
    go_enter Tryd.func24, Tryd.ntmps24
    go_wp2_with (go_at_call 21; refine K.mono ?_; rintro e w1 ⟨rfl, hw⟩)
    exact ⟨rfl, rfl, lone_dr hw⟩
abbrev nmA : Value := .agg #[.string ⟨#[97]⟩, .string ⟨#[98]⟩]
theorem ix0 (W : World) : (Instr.index 49 nmA (.int .i64 0)).run Tryd.prog W = .ok (.string ⟨#[97]⟩) W := by kernel_rfl
theorem ix1 (W : World) : (Instr.index 49 nmA (.int .i64 1)).run Tryd.prog W = .ok (.string ⟨#[98]⟩) W := by kernel_rfl
theorem who19 (q : Nat) (l : By) (w : World) (hu : U q l w) (hn : Nm w) (hq : 0 < q) (hl : l.length ≤ 65536) :
    Calls Tryd.prog 19 #[.pointer (some ⟨q, 0, none⟩)] w (ends ((whoF (wd l)).map (Value.int .i64)) (lf l) q w) := by
  have K := word18 q l w hu hl
  have HN := hide hn
  clear hu hn
  have hx := bs_toList (wd l)
  generalize wd l = x at *
  generalize bs x = t at *
  go_enter Tryd.func19, Tryd.ntmps19
  go_wp2_with (first | (go_at_call 18; refine K.mono ?_; rintro e w1 ⟨rfl, hu1, hl1⟩; have HN1 := hide ((unhide HN).lone hl1 hq); have HU1 := hide hu1; have HL1 := hide hl1; clear hu1 hl1 K HN; obtain ⟨tt, fr, row⟩ := unhide HN1) | refine wpList_load_row rfl 49 _ rfl 0 rfl _ _ _ _ row Tryd.underlying49 rfl (by kernel_rfl) ?_)
  go_loop [9] (fun i => ∃ j : Nat, j ≤ 2 ∧ i = .int .i64 j ∧ (0 < j → x ≠ [97]) ∧ (1 < j → x ≠ [98])) (fun i => 2 - (intOf i).toNat)
  case atStart => exact ⟨0, by omega, rfl, fun h => absurd h (by omega), fun h => absurd h (by omega)⟩
  case round =>
    obtain ⟨j, hj, rfl, h0, h1⟩ := hrel
    rcases (by omega : j = 0 ∨ j = 1 ∨ j = 2) with rfl | rfl | rfl
    · clear h0 h1
      have hi := ix0
      by_cases hx0 : x = [97]
      · have he : (t.toList == [97]) = true := by rw [hx, hx0]; rfl
        clear hx
        go_wp2
        go_ret
        try rw [hx0]
        exact ⟨rfl, unhide HU1, unhide HL1⟩
      · have he : (t.toList == [97]) = false := by rw [hx]; simpa using hx0
        clear hx
        go_wp2
        go_round
        case rel => exact ⟨1, by omega, by go_num, fun _ => hx0, fun h => absurd h (by omega)⟩
        case measure => simp [intOf]
    · have h0 := h0 (by omega)
      clear h1
      have hi := ix1
      by_cases hx1 : x = [98]
      · have he : (t.toList == [98]) = true := by rw [hx, hx1]; rfl
        clear hx
        go_wp2
        go_ret
        try rw [hx1]
        exact ⟨rfl, unhide HU1, unhide HL1⟩
      · have he : (t.toList == [98]) = false := by rw [hx]; simpa using hx1
        clear hx
        go_wp2
        go_round
        case rel => exact ⟨2, by omega, by go_num, fun _ => h0, fun _ => hx1⟩
        case measure => simp [intOf]
    · have h0 := h0 (by omega)
      have h1 := h1 (by omega)
      go_wp2
      refine ⟨rfl, ?_⟩
      unfold whoF
      rw [if_neg h0, if_neg h1]
      exact ⟨rfl, unhide HL1⟩
/-- what is lost -/
def lostF (x : By) : Option (Bool × Bool) := if x = [97] then some (true, false) else if x = [98] then some (false, true) else if x = [98, 111, 116, 104] then some (true, true) else none
theorem lost23 (q : Nat) (l : By) (w : World) (hu : U q l w) (hn : Nm w) (hq : 0 < q) (hl : l.length ≤ 65536) :
    Calls Tryd.prog 23 #[.pointer (some ⟨q, 0, none⟩)] w (ends ((lostF (wd l)).map fun p => .tuple #[.bool p.1, .bool p.2]) (lf l) q w) := by
  have K := word18 q l w hu hl
  have HN := hide hn
  clear hu hn
  have hx := bs_toList (wd l)
  generalize wd l = x at *
  generalize bs x = t at *
  have main : ∀ (b0 b1 b2 : Bool), (t.toList == [97]) = b0 → (t.toList == [98]) = b1 → (t.toList == [98, 111, 116, 104]) = b2 →
      Calls Tryd.prog 23 #[.pointer (some ⟨q, 0, none⟩)] w (ends ((if b0 = true then some (true, false) else if b1 = true then some (false, true) else if b2 = true then some (true, true) else none).map fun (p : Bool × Bool) => .tuple #[.bool p.1, .bool p.2]) (lf l) q w) := by
    intro b0 b1 b2 e0 e1 e2
    clear hx
    cases b0
    case true =>
      go_enter Tryd.func23, Tryd.ntmps23
      go_wp2_with (go_at_call 18; refine K.mono ?_; rintro e w1 ⟨rfl, hu1, hl1⟩; have HN1 := hide ((unhide HN).lone hl1 hq); have HU1 := hide hu1; have HL1 := hide hl1; clear hu1 hl1 K HN; have z0 := (unhide HN1).c0; have z1 := (unhide HN1).c1)
      go_ret2
      exact ⟨rfl, unhide HU1, unhide HL1⟩
    cases b1
    case true =>
      go_enter Tryd.func23, Tryd.ntmps23
      go_wp2_with (go_at_call 18; refine K.mono ?_; rintro e w1 ⟨rfl, hu1, hl1⟩; have HN1 := hide ((unhide HN).lone hl1 hq); have HU1 := hide hu1; have HL1 := hide hl1; clear hu1 hl1 K HN; have z0 := (unhide HN1).c0; have z1 := (unhide HN1).c1)
      go_ret2
      exact ⟨rfl, unhide HU1, unhide HL1⟩
    cases b2
    case true =>
      go_enter Tryd.func23, Tryd.ntmps23
      go_wp2_with (go_at_call 18; refine K.mono ?_; rintro e w1 ⟨rfl, hu1, hl1⟩; have HN1 := hide ((unhide HN).lone hl1 hq); have HU1 := hide hu1; have HL1 := hide hl1; clear hu1 hl1 K HN; have z0 := (unhide HN1).c0; have z1 := (unhide HN1).c1)
      go_ret2
      exact ⟨rfl, unhide HU1, unhide HL1⟩
    go_enter Tryd.func23, Tryd.ntmps23
    go_wp2_with (go_at_call 18; refine K.mono ?_; rintro e w1 ⟨rfl, hu1, hl1⟩; have HN1 := hide ((unhide HN).lone hl1 hq); have HU1 := hide hu1; have HL1 := hide hl1; clear hu1 hl1 K HN; have z0 := (unhide HN1).c0; have z1 := (unhide HN1).c1)
    exact ⟨rfl, rfl, unhide HL1⟩
  have := main _ _ _ rfl rfl rfl
  rw [hx] at this
  simp only [beq_iff_eq] at this
  exact this
end Go.Proofs.YtbkcgkffafjbgaaDoor
