/- Where a form stands in a batch: both sides of FindForm. -/
import Derived.Test.YtecgfkfifocbaaaLst
namespace Go.Proofs.Ytecgfkfifocbaaa
open Go.RowKit
set_option maxHeartbeats 4000000
set_option maxRecDepth 20000
theorem beq_txt (x t : ByteArray) : (x.toList == t.toList) = decide (x = t) := by
  rw [Bool.eq_iff_iff, beq_iff_eq, decide_eq_true_iff, ByteArray.toList_eq, ByteArray.toList_eq]
  constructor
  · intro h
    cases x; cases t
    simp at h
    simp [h]
  · rintro rfl; rfl
/-- the first place of a text, -1 without one -/
def fI (t : ByteArray) : List ByteArray → Int → Int
  | [], _ => -1
  | x :: xs, k => if x = t then k else fI t xs (k + 1)
/-- whether a text is among them -/
def inB (t : ByteArray) (xs : List ByteArray) : Bool := xs.any fun x => decide (x = t)
theorem fI_mem (t : ByteArray) : ∀ (xs : List ByteArray) (k : Int), 0 ≤ k → (fI t xs k = -1 ∧ inB t xs = false) ∨ (k ≤ fI t xs k ∧ inB t xs = true)
  | [], _, _ => .inl ⟨rfl, rfl⟩
  | x :: xs, k, h => by
    rw [fI, inB, List.any_cons]
    by_cases hx : x = t
    · right; rw [if_pos hx, decide_eq_true hx]; exact ⟨Int.le_refl _, rfl⟩
    · rw [if_neg hx, decide_eq_false hx, Bool.false_or]
      rcases fI_mem t xs (k + 1) (by omega) with ⟨a, b⟩ | ⟨a, b⟩
      · exact .inl ⟨a, b⟩
      · exact .inr ⟨by omega, b⟩
theorem find21 (v : Value) (xs : List ByteArray) (t : ByteArray) (w : World) (hv : strsV w v xs) (hn : xs.length ≤ 2097152) :
    Calls Try.prog 21 #[v, .string t] w fun e w' => e = .returned (.int .i64 (fI t xs 0)) ∧ w' = w := by
  obtain ⟨A, cap, rfl, hc⟩ := hv
  have HC := hide hc
  have n0 : (0 : Int) ≤ (xs.length : Int) := by omega
  have n1 : (xs.length : Int) ≤ 2097152 := by omega
  clear hc
  go_enter Try.func21, Try.ntmps21
  go_wp2
  go_loopw [5] (fun i wr => ∃ j : Nat, j ≤ xs.length ∧ i = .int .i64 j ∧ fI t (xs.drop j) (j : Int) = fI t xs 0 ∧ wr = w) (fun i _ => xs.length - (intOf i).toNat)
  case atStart => exact ⟨0, by omega, rfl, rfl, rfl⟩
  case round =>
    obtain ⟨j, hj, rfl, hu, rfl⟩ := hrel
    have HU := hide hu
    clear hu
    by_cases hlt : j < xs.length
    · obtain ⟨b, off, hA, _, hcell⟩ := unhide HC (by omega)
      subst hA
      have q1 : (j : Int) < (xs.length : Int) := by omega
      have q0 : (0 : Int) ≤ (j : Int) := by omega
      have p0 := hcell j hlt
      have HJ := hide hlt
      have HD := hide (drop_atS hlt)
      clear hcell hlt hj
      generalize xs.getD j noS = x at *
      by_cases e : x = t
      · have HE : Hid (fI t xs 0 = (j : Int)) := hide (by rw [← unhide HU, unhide HD, fI, if_pos e])
        have ee : (x.toList == t.toList) = true := by rw [beq_txt]; exact decide_eq_true e
        clear HU HD e
        go_wp2
        go_ret
        exact ⟨by rw [unhide HE]; rfl, rfl⟩
      · have HE : Hid (fI t (xs.drop (j + 1)) ((j : Int) + 1) = fI t xs 0) := hide (by rw [← unhide HU, unhide HD, fI, if_neg e])
        have ee : (x.toList == t.toList) = false := by rw [beq_txt]; exact decide_eq_false e
        clear HU HD e
        go_wp2
        go_roundw
        case rel => exact ⟨j + 1, unhide HJ, by go_num, unhide HE, by first | rfl | trivial⟩
        case measure => have := unhide HJ; simp [intOf]; omega
    · obtain rfl : j = xs.length := by omega
      have HE : Hid (fI t xs 0 = -1) := hide (by rw [← unhide HU, List.drop_length]; rfl)
      clear hlt HU
      go_wp2
      go_ret
      exact ⟨by rw [unhide HE]; rfl, rfl⟩
theorem idx23 (v : Value) (xs : List ByteArray) (t : ByteArray) (w : World) (hv : strsV w v xs) (hn : xs.length ≤ 2097152) :
    Calls Try.prog 23 #[v, .string t] w fun e w' => e = .returned (.int .i64 (fI t xs 0)) ∧ w' = w := by
  obtain ⟨A, cap, rfl, hc⟩ := hv
  have HC := hide hc
  have n0 : (0 : Int) ≤ (xs.length : Int) := by omega
  have n1 : (xs.length : Int) ≤ 2097152 := by omega
  clear hc
  go_enter Try.func23, Try.ntmps23
  go_wp2
  go_loopw [8] (fun i wr => ∃ j : Nat, j ≤ xs.length ∧ i = .int .i64 j ∧ fI t (xs.drop j) (j : Int) = fI t xs 0 ∧ wr = w) (fun i _ => xs.length - (intOf i).toNat)
  case atStart => exact ⟨0, by omega, rfl, rfl, rfl⟩
  case round =>
    obtain ⟨j, hj, rfl, hu, rfl⟩ := hrel
    have HU := hide hu
    clear hu
    by_cases hlt : j < xs.length
    · obtain ⟨b, off, hA, _, hcell⟩ := unhide HC (by omega)
      subst hA
      have q1 : (j : Int) < (xs.length : Int) := by omega
      have q0 : (0 : Int) ≤ (j : Int) := by omega
      have p0 := hcell j hlt
      have HJ := hide hlt
      have HD := hide (drop_atS hlt)
      clear hcell hlt hj
      generalize xs.getD j noS = x at *
      by_cases e : x = t
      · have HE : Hid (fI t xs 0 = (j : Int)) := hide (by rw [← unhide HU, unhide HD, fI, if_pos e])
        have ee : (t.toList == x.toList) = true := by rw [beq_txt]; exact decide_eq_true e.symm
        clear HU HD e
        go_wp2
        go_ret
        exact ⟨by rw [unhide HE]; rfl, rfl⟩
      · have HE : Hid (fI t (xs.drop (j + 1)) ((j : Int) + 1) = fI t xs 0) := hide (by rw [← unhide HU, unhide HD, fI, if_neg e])
        have ee : (t.toList == x.toList) = false := by rw [beq_txt]; exact decide_eq_false (fun h => e h.symm)
        clear HU HD e
        go_wp2
        go_roundw
        case rel => exact ⟨j + 1, unhide HJ, by go_num, unhide HE, by first | rfl | trivial⟩
        case measure => have := unhide HJ; simp [intOf]; omega
    · obtain rfl : j = xs.length := by omega
      have HE : Hid (fI t xs 0 = -1) := hide (by rw [← unhide HU, List.drop_length]; rfl)
      clear hlt HU
      go_wp2
      go_ret
      exact ⟨by rw [unhide HE]; rfl, rfl⟩
theorem has27 (v : Value) (xs : List ByteArray) (t : ByteArray) (w : World) (hv : strsV w v xs) (hn : xs.length ≤ 2097152) :
    Calls Try.prog 27 #[v, .string t] w fun e w' => e = .returned (.bool (inB t xs)) ∧ w' = w := by
  have K := hide (idx23 v xs t w hv hn)
  obtain ⟨A, cap, rfl, _⟩ := hv
  have hb := fI_mem t xs 0 (Int.le_refl _)
  generalize fI t xs 0 = k at *
  clear hn
  go_enter Try.func27, Try.ntmps27
  go_wp2_with fail
  refine (unhide K).mono ?_
  rintro e w' ⟨rfl, hw'⟩
  have hw2 := hw'.symm
  subst hw2
  clear K
  rcases hb with ⟨h1, h2⟩ | ⟨h1, h2⟩
  · have HE := hide h2
    subst h1
    clear h2
    go_wp2
    go_ret
    exact ⟨ret_bool (by rw [unhide HE]), rfl⟩
  · have HE := hide h2
    clear h2
    go_wp2
    go_ret
    exact ⟨ret_bool (by rw [unhide HE]), rfl⟩
/-- of one text -/
theorem long31 (b : Nat) (t : ByteArray) (w : World) (hc : w.cell? ⟨b, 0, none⟩ = some (.string t)) (ht : t.size ≤ maxLen) :
    Calls Try.prog 31 #[.slice (some ⟨b, 0, none⟩) 1 1] w fun e w' => e = .returned (.bool (decide (65536 < t.size))) ∧ w' = w := by
  unfold maxLen at ht
  have z0 : (0 : Int) ≤ (t.size : Int) := by omega
  have z1 : (t.size : Int) ≤ 9223372036854775807 := by omega
  by_cases h : 65536 < t.size
  · have q : (65536 : Int) < (t.size : Int) := by omega
    rw [decide_eq_true h]
    clear h ht
    go_enter Try.func31, Try.ntmps31
    go_wp2
    go_loopw [7] (fun i wr => i = .int .i64 0 ∧ wr = w) (fun i _ => 1 - (intOf i).toNat)
    case atStart => exact ⟨rfl, rfl⟩
    case round =>
      obtain ⟨rfl, hwr⟩ := hrel
      subst hwr
      go_wp2
      go_ret
      exact ⟨rfl, rfl⟩
  · have q : (t.size : Int) ≤ 65536 := by omega
    rw [decide_eq_false h]
    clear h ht
    go_enter Try.func31, Try.ntmps31
    go_wp2
    go_loopw [7] (fun i wr => ∃ j : Nat, j ≤ 1 ∧ i = .int .i64 j ∧ wr = w) (fun i _ => 1 - (intOf i).toNat)
    case atStart => exact ⟨0, by omega, rfl, rfl⟩
    case round =>
      obtain ⟨j, hj, rfl, hwr⟩ := hrel
      subst hwr
      obtain rfl | rfl : j = 0 ∨ j = 1 := by omega
      · go_wp2
        go_roundw
        case rel => exact ⟨1, by omega, rfl, by first | rfl | trivial⟩
        case measure => decide
      · go_wp2
        go_ret
        exact ⟨rfl, rfl⟩
/-- the code of FindForm, ahead of the search -/
def fdC (ts : List ByteArray) (t : ByteArray) : Int := if 65536 < t.size then 2 else if itC ts ≠ 0 then itC ts else if 400 < t.size then 4 else 0
/-- FindForm's answer -/
def fdP (ts : List ByteArray) (t : ByteArray) : Int × Int := if fdC ts t ≠ 0 then (0, fdC ts t) else if fI t ts 0 < 0 then (0, 5) else (fI t ts 0, 0)
theorem code22 (v : Value) (xs : List ByteArray) (t : ByteArray) (w : World) (hv : strsV w v xs) (hn : xs.length ≤ 2097152) (ht : t.size ≤ maxLen) :
    Calls Try.prog 22 #[v, .string t] w fun e w' => e = .returned (.int .i64 (fdC xs t)) ∧ Below w.heap.size w w' := by
  have B1 := hide (show Below w.heap.size w (w.alloc (.cells #[.string t] 9)) from bl_al (Below.refl _ _))
  have K := hide (long31 w.heap.size t (w.alloc (.cells #[.string t] 9)) (by rw [Go.cell_of_row _ _ _ _ _ _ (heap_alloc_new w _)]; rfl) ht)
  have K2 := hide (items32 v xs (w.alloc (.cells #[.string t] 9)) (hv.below (unhide B1)) hn)
  have K3 := hide (fun W => no33 t W)
  obtain ⟨A, cap, rfl, _⟩ := hv
  clear hn ht
  go_enter Try.func22, Try.ntmps22
  go_wp2_with fail
  generalize w.alloc (.cells #[.string t] 9) = w1 at *
  refine (unhide K).mono ?_
  rintro e w' ⟨rfl, hw'⟩
  have hw2 := hw'.symm
  subst hw2
  clear K
  by_cases h : 65536 < t.size
  · have HE : Hid (fdC xs t = 2) := hide (by unfold fdC; rw [if_pos h])
    rw [decide_eq_true h]
    clear h K2 K3
    go_wp2
    go_ret
    exact ⟨by rw [unhide HE]; rfl, unhide B1⟩
  have HE : Hid (fdC xs t = if itC xs ≠ 0 then itC xs else if 400 < t.size then 4 else 0) := hide (by unfold fdC; rw [if_neg h])
  rw [decide_eq_false h]
  clear h
  generalize itC xs = c at *
  go_wp2_with fail
  refine (unhide K2).mono ?_
  rintro e w' ⟨rfl, hw'⟩
  have hw2 := hw'.symm
  subst hw2
  clear K2
  by_cases hc : c = 0
  · subst hc
    have HE2 : Hid (fdC xs t = if 400 < t.size then 4 else 0) := hide (by rw [unhide HE]; rfl)
    clear HE
    go_wp2_with fail
    refine (unhide K3 _).mono ?_
    rintro e w' ⟨rfl, hw'⟩
    have hw2 := hw'.symm
    subst hw2
    clear K3
    unfold isI
    by_cases h4 : 400 < t.size
    · have HE3 : Hid (fdC xs t = 4) := hide (by rw [unhide HE2, if_pos h4])
      rw [decide_eq_false (show ¬ t.size ≤ 400 by omega)]
      clear h4 HE2
      go_wp2
      go_ret
      exact ⟨by rw [unhide HE3]; rfl, unhide B1⟩
    · have HE3 : Hid (fdC xs t = 0) := hide (by rw [unhide HE2, if_neg h4])
      rw [decide_eq_true (show t.size ≤ 400 by omega)]
      clear h4 HE2
      go_wp2
      go_ret
      exact ⟨by rw [unhide HE3]; rfl, unhide B1⟩
  · have HE2 : Hid (fdC xs t = c) := hide (by rw [unhide HE, if_pos hc])
    have hb : (c != 0) = true := by simp [hc]
    clear HE K3 hc
    go_wp2
    go_ret
    exact ⟨by rw [unhide HE2]; rfl, unhide B1⟩
/-- FindForm's answer, as a value -/
def fdV (ts : List ByteArray) (t : ByteArray) : Value := .tuple #[.int .i64 (fdP ts t).1, .int .i64 (fdP ts t).2]
theorem form9 (v : Value) (xs : List ByteArray) (t : ByteArray) (w : World) (hv : strsV w v xs) (hn : xs.length ≤ 2097152) (ht : t.size ≤ maxLen) :
    Calls Try.prog 9 #[v, .string t] w fun e w' => e = .returned (fdV xs t) ∧ Below w.heap.size w w' := by
  have K := hide (code22 v xs t w hv hn ht)
  have K2 := hide (fun W (b : Below w.heap.size w W) => idx23 v xs t W (hv.below b) hn)
  obtain ⟨A, cap, rfl, _⟩ := hv
  clear hn ht
  have HP : Hid (fdP xs t = if fdC xs t ≠ 0 then (0, fdC xs t) else if fI t xs 0 < 0 then (0, 5) else (fI t xs 0, 0)) := hide rfl
  unfold fdV
  generalize fdP xs t = P at *
  generalize fdC xs t = c at *
  go_enter Try.func9, Try.ntmps9
  go_wp2_with fail
  refine (unhide K).mono ?_
  rintro e w1 ⟨rfl, b1⟩
  have B1 := hide b1
  clear K b1
  by_cases hc : c = 0
  · subst hc
    have HP2 : Hid (P = if fI t xs 0 < 0 then (0, 5) else (fI t xs 0, 0)) := hide (by rw [unhide HP]; rfl)
    clear HP
    generalize fI t xs 0 = k at *
    go_wp2_with fail
    refine (unhide K2 _ (unhide B1)).mono ?_
    rintro e w' ⟨rfl, hw'⟩
    have hw2 := hw'.symm
    subst hw2
    clear K2
    by_cases hk : k < 0
    · have HP3 : Hid (P = (0, 5)) := hide (by rw [unhide HP2, if_pos hk])
      clear HP2
      go_wp2
      go_ret2
      exact ⟨by rw [unhide HP3]; rfl, unhide B1⟩
    · have HP3 : Hid (P = (k, 0)) := hide (by rw [unhide HP2, if_neg hk])
      have hk2 : 0 ≤ k := by omega
      clear HP2 hk
      go_wp2
      go_ret2
      exact ⟨by rw [unhide HP3]; rfl, unhide B1⟩
  · have HP2 : Hid (P = (0, c)) := hide (by rw [unhide HP, if_pos hc])
    have hb : (c != 0) = true := by simp [hc]
    clear HP K2 hc
    go_wp2
    go_ret2
    exact ⟨by rw [unhide HP2]; rfl, unhide B1⟩
theorem itC_long {ts : List ByteArray} (h : ¬ 4096 < ts.length) : itC ts = if itB ts = true then 0 else 1 := by unfold itC; rw [if_neg h]
theorem form7 (v : Value) (xs : List ByteArray) (t : ByteArray) (w : World) (hv : strsV w v xs) (hn : xs.length ≤ 2097152) (ht : t.size ≤ maxLen) :
    Calls Try.prog 7 #[v, .string t] w fun e w' => e = .returned (fdV xs t) ∧ w' = w := by
  have K := hide (items20 v xs w hv hn)
  have K2 := hide (find21 v xs t w hv hn)
  obtain ⟨A, cap, rfl, _⟩ := hv
  unfold maxLen at ht
  have n0 : (0 : Int) ≤ (xs.length : Int) := by omega
  have n1 : (xs.length : Int) ≤ 9223372036854775807 := by omega
  have t0 : (0 : Int) ≤ (t.size : Int) := by omega
  have t1 : (t.size : Int) ≤ 9223372036854775807 := by omega
  clear hn ht
  have HP : Hid (fdP xs t = if fdC xs t ≠ 0 then (0, fdC xs t) else if fI t xs 0 < 0 then (0, 5) else (fI t xs 0, 0)) := hide rfl
  have HC : Hid (fdC xs t = if 65536 < t.size then 2 else if itC xs ≠ 0 then itC xs else if 400 < t.size then 4 else 0) := hide rfl
  unfold fdV
  generalize fdP xs t = P at *
  by_cases h1 : 4096 < xs.length
  · have HP2 : Hid (P = (0, 2)) := hide (by
      have e : itC xs = 2 := by unfold itC; rw [if_pos h1]
      rw [unhide HP, unhide HC, e]
      by_cases h : 65536 < t.size
      · rw [if_pos h]; rfl
      · rw [if_neg h]; rfl)
    have q : (4096 : Int) < (xs.length : Int) := by omega
    clear HP HC h1 K K2
    go_enter Try.func7, Try.ntmps7
    go_wp2
    go_ret2
    exact ⟨by rw [unhide HP2]; rfl, rfl⟩
  have q : (xs.length : Int) ≤ 4096 := by omega
  clear h1
  by_cases h2 : 65536 < t.size
  · have HP2 : Hid (P = (0, 2)) := hide (by rw [unhide HP, unhide HC, if_pos h2]; rfl)
    have q2 : (65536 : Int) < (t.size : Int) := by omega
    clear HP HC h2 K K2
    go_enter Try.func7, Try.ntmps7
    go_wp2
    go_ret2
    exact ⟨by rw [unhide HP2]; rfl, rfl⟩
  have q2 : (t.size : Int) ≤ 65536 := by omega
  have HC2 : Hid (fdC xs t = if itC xs ≠ 0 then itC xs else if 400 < t.size then 4 else 0) := hide (by rw [unhide HC, if_neg h2])
  clear h2 HC
  generalize fdC xs t = C at *
  generalize itC xs = c at *
  go_enter Try.func7, Try.ntmps7
  go_wp2_with fail
  refine (unhide K).mono ?_
  rintro e w' ⟨rfl, hw'⟩
  have hw2 := hw'.symm
  subst hw2
  clear K
  by_cases hc : c = 0
  · subst hc
    have HC3 : Hid (C = if 400 < t.size then 4 else 0) := hide (by rw [unhide HC2]; rfl)
    clear HC2
    by_cases h4 : 400 < t.size
    · have HP2 : Hid (P = (0, 4)) := hide (by rw [unhide HP, unhide HC3, if_pos h4]; rfl)
      have q4 : (400 : Int) < (t.size : Int) := by omega
      clear h4 HC3 HP K2
      go_wp2
      go_ret2
      exact ⟨by rw [unhide HP2]; rfl, rfl⟩
    have HP2 : Hid (P = if fI t xs 0 < 0 then (0, 5) else (fI t xs 0, 0)) := hide (by rw [unhide HP, unhide HC3, if_neg h4]; rfl)
    have q4 : (t.size : Int) ≤ 400 := by omega
    clear HP HC3 h4
    generalize fI t xs 0 = k at *
    go_wp2_with fail
    refine (unhide K2).mono ?_
    rintro e w' ⟨rfl, hw'⟩
    have hw2 := hw'.symm
    subst hw2
    clear K2
    by_cases hk : k < 0
    · have HP3 : Hid (P = (0, 5)) := hide (by rw [unhide HP2, if_pos hk])
      clear HP2
      go_wp2
      go_ret2
      exact ⟨by rw [unhide HP3]; rfl, rfl⟩
    · have HP3 : Hid (P = (k, 0)) := hide (by rw [unhide HP2, if_neg hk])
      have hk2 : 0 ≤ k := by omega
      clear HP2 hk
      go_wp2
      go_ret2
      exact ⟨by rw [unhide HP3]; rfl, rfl⟩
  · have HP2 : Hid (P = (0, c)) := hide (by
      have e : C = c := by rw [unhide HC2, if_pos hc]
      rw [unhide HP, e, if_pos hc])
    have hb : (c != 0) = true := by simp [hc]
    clear HP HC2 K2 hc
    go_wp2
    go_ret2
    exact ⟨by rw [unhide HP2]; rfl, rfl⟩
theorem law_find (w : World) (v : Value) (ts : List ByteArray) (hv : strsV w v ts) (hl : ts.length ≤ maxLen) (hs' : ∀ t ∈ ts, t.size ≤ maxLen) (t : ByteArray) (ht : t.size ≤ maxLen) :
    Calls Try.prog 3 #[v, .string t] w fun e w' => e = .returned (.bool true) ∧ Below w.heap.size w w' := by
  have HV := hide hv
  have KS := hide (sz27 v ts w hv hl hs')
  have HTO : Hid (ts.length ≤ 1048576 → ∀ u W, strsV W u ts → Calls Try.prog 8 #[u] W fun e w' => ∃ r, e = .returned r ∧ ownS W.heap.size w'.heap.size w' r ts ∧ Below W.heap.size W w') := hide fun hn u W hu => to30 u ts W hu (by omega)
  have HSP : Hid (ts.length ≤ 1048576 → ∀ u W, strsV W u ts → Calls Try.prog 7 #[u, .string t] W fun e w' => e = .returned (fdV ts t) ∧ w' = W) := hide fun hn u W hu => form7 u ts t W hu (by omega) ht
  have HIM : Hid (ts.length ≤ 1048576 → ∀ u W, strsV W u ts → Calls Try.prog 9 #[u, .string t] W fun e w' => e = .returned (fdV ts t) ∧ Below W.heap.size W w') := hide fun hn u W hu => form9 u ts t W hu (by omega) ht
  have HEX : Hid (ts.length ≤ 1048576 → ∀ u u' W, strsV W u ts → strsV W u' ts → Calls Try.prog 10 #[u, u'] W fun e w' => e = .returned (.bool true) ∧ ∃ k, w' = W.drewN k) := hide fun hn u u' W hu hu' => eq33 u u' ts W hu hu' (by omega)
  obtain ⟨A, cap, rfl, hc⟩ := hv
  unfold maxLen at ht
  have t0 : (0 : Int) ≤ (t.size : Int) := by omega
  have t1 : (t.size : Int) ≤ 9223372036854775807 := by omega
  clear hc hl hs' ht
  unfold fdV at HSP HIM
  generalize (fdP ts t).1 = x at *
  generalize (fdP ts t).2 = y at *
  by_cases hbig : 1048576 < t.size
  · have q : (1048576 : Int) < (t.size : Int) := by omega
    clear hbig
    go_enter Try.func3, Try.ntmps3
    go_wp2
    go_ret
    exact ⟨rfl, Below.refl _ _⟩
  have q : (t.size : Int) ≤ 1048576 := by omega
  clear hbig
  go_enter Try.func3, Try.ntmps3
  go_wp2_with fail
  refine (unhide KS).mono ?_
  rintro e w1 ⟨z0, rfl, hz, hw1⟩
  have hw1' := hw1.symm
  subst hw1'
  clear KS
  by_cases h0 : z0 < 0
  · clear hz
    go_wp2
    go_ret
    exact ⟨rfl, Below.refl _ _⟩
  have HN := hide (hz.resolve_left h0)
  have h1 : 0 ≤ z0 := by omega
  clear hz h0
  go_wp2_with fail
  refine (unhide HTO (unhide HN) _ w (unhide HV)).mono ?_
  rintro e w2 ⟨u1, rfl, o2, b2⟩
  have B2 := hide b2
  have U2 := hide o2.strs
  clear o2 b2
  go_wp2_with fail
  refine (unhide HSP (unhide HN) _ w2 (unhide U2)).mono ?_
  rintro e w3 ⟨rfl, hw3⟩
  have hw3' := hw3.symm
  subst hw3'
  clear U2
  go_wp2_with fail
  refine (unhide HTO (unhide HN) _ w2 ((unhide HV).below (unhide B2))).mono ?_
  rintro e w4 ⟨u, rfl, o4, b4⟩
  have B4 := hide (bl_st b4 (unhide B2))
  have X4 := hide o4.strs
  clear o4 b4 B2
  go_wp2_with fail
  refine (unhide HIM (unhide HN) _ w4 (unhide X4)).mono ?_
  rintro e w5 ⟨rfl, b5⟩
  have B5 := hide (bl_st b5 (unhide B4))
  have X5 := hide ((unhide X4).below b5)
  clear b5 B4 X4
  have xx : (x != x) = false := by simp
  have yy : (y != y) = false := by simp
  go_wp2_with fail
  refine (unhide HTO (unhide HN) _ w5 ((unhide HV).below (unhide B5))).mono ?_
  rintro e w6 ⟨u6, rfl, o6, b6⟩
  have B6 := hide (bl_st b6 (unhide B5))
  have X6 := hide ((unhide X5).below b6)
  have Y6 := hide o6.strs
  clear o6 b6 B5 X5
  go_wp2_with fail
  refine (unhide HEX (unhide HN) _ _ w6 (unhide X6) (unhide Y6)).mono ?_
  rintro e w7 ⟨rfl, k, rfl⟩
  have B7 := hide (bl_st (below_drewN (Below.refl _ w6) k) (unhide B6))
  clear B6 X6 Y6
  go_wp2
  go_ret
  exact ⟨rfl, unhide B7⟩
end Go.Proofs.Ytecgfkfifocbaaa
