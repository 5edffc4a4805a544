/- What RouteBack asks for: items, keys and places, on both sides. -/
import Derived.Test.YtggiijlgdpkkfaaDoorBas
namespace Go.Proofs.YtggiijlgdpkkfaaDoor
open Go.RowKit
set_option maxHeartbeats 4000000
set_option maxRecDepth 20000
def isI (t : ByteArray) : Bool := decide (t.size ≤ 400)
def itB (bs : List ByteArray) : Bool := decide (bs.length ≤ 64) && bs.all isI
theorem itB_at {bs : List ByteArray} (h : itB bs = true) (j : Nat) (hj : j < bs.length) : (bs.getD j noS).size ≤ 400 := by
  unfold itB at h
  rw [Bool.and_eq_true] at h
  rw [List.getD_eq_getElem?_getD, List.getElem?_eq_getElem hj, Option.getD_some]
  exact of_decide_eq_true (List.all_eq_true.1 h.2 _ (List.getElem_mem hj))
theorem all_bad {xs : List ByteArray} {j : Nat} (hj : j < xs.length) (hb : isI (xs.getD j noS) = false) : xs.all isI = false := by
  refine List.all_eq_false.2 ⟨xs.getD j noS, ?_, by rw [hb]; simp⟩
  rw [List.getD_eq_getElem?_getD, List.getElem?_eq_getElem hj]
  exact List.getElem_mem hj
theorem all_good {xs : List ByteArray} (h : ∀ i, i < xs.length → isI (xs.getD i noS) = true) : xs.all isI = true := by
  rw [List.all_eq_true]
  intro x hx
  obtain ⟨i, hi, rfl⟩ := List.mem_iff_getElem.1 hx
  have := h i hi
  rwa [List.getD_eq_getElem?_getD, List.getElem?_eq_getElem hi] at this
theorem tooLong33 (s : ByteArray) (w : World) : Calls Tryd.prog 33 #[.string s] w fun e w' => e = .returned (.bool (!isI s)) ∧ w' = w := by
  go_enter Tryd.func33, Tryd.ntmps33
  go_wp2
  go_ret
  exact ⟨ret_bool (by unfold isI; rw [Bool.eq_iff_iff]; simp; try omega), rfl⟩
def badI : List ByteArray → Int → Int
  | [], _ => -1
  | x :: xs, k => if isI x then badI xs (k + 1) else k
theorem badI_all : ∀ (xs : List ByteArray) (k : Int), 0 ≤ k → (badI xs k = -1 ∧ xs.all isI = true) ∨ (k ≤ badI xs k ∧ xs.all isI = false)
  | [], _, _ => .inl ⟨rfl, rfl⟩
  | x :: xs, k, h => by
    rw [badI, List.all_cons]
    cases hx : isI x
    · right; exact ⟨Int.le_refl _, rfl⟩
    · rw [if_pos rfl, Bool.true_and]
      rcases badI_all xs (k + 1) (by omega) with ⟨a, b⟩ | ⟨a, b⟩
      · exact .inl ⟨a, b⟩
      · exact .inr ⟨by omega, b⟩
abbrev fn33 : Value := .func (.func 33) #[] #[]
theorem idx40 (v : Value) (xs : List ByteArray) (w : World) (hv : strsV w v xs) (hn : xs.length ≤ 2097152) :
    Calls Tryd.prog 43 #[v, fn33] w fun e w' => e = .returned (.int .i64 (badI xs 0)) ∧ w' = w := by
  obtain ⟨A, cap, rfl, hc⟩ := hv
  have HC := hide hc
  have n0 : (0 : Int) ≤ (xs.length : Int) := by omega
  have n1 : (xs.length : Int) ≤ 2097152 := by omega
  clear hc
  go_enter Tryd.func43, Tryd.ntmps43
  go_wp2
  go_loopw [8] (fun i wr => ∃ j : Nat, j ≤ xs.length ∧ i = .int .i64 j ∧ badI (xs.drop j) (j : Int) = badI xs 0 ∧ wr = w) (fun i _ => xs.length - (intOf i).toNat)
  case atStart => exact ⟨0, by omega, rfl, rfl, rfl⟩
  case round =>
    obtain ⟨j, hj, rfl, hu, rfl⟩ := hrel
    have HU := hide hu
    clear hu
    by_cases hlt : j < xs.length
    · obtain ⟨b, off, hA, _, hcell⟩ := unhide HC (by omega)
      subst hA
      have q1 : (j : Int) < (xs.length : Int) := by omega
      have q0 : (0 : Int) ≤ (j : Int) := by omega
      have p0 := hcell j hlt
      have HJ := hide hlt
      have HD := hide (drop_atS hlt)
      clear hcell hlt hj
      generalize xs.getD j noS = x at *
      have K := hide (fun W => tooLong33 x W)
      generalize hb : isI x = bb at *
      cases bb
      · have HE : Hid (badI xs 0 = (j : Int)) := hide (by rw [← unhide HU, unhide HD, badI, hb]; rfl)
        clear HU HD hb
        go_wp2_with fail
        refine (unhide K _).mono ?_
        rintro e w' ⟨rfl, hw'⟩
        have hw2 := hw'.symm
        subst hw2
        clear K
        go_wp2
        go_ret
        exact ⟨by rw [unhide HE]; rfl, rfl⟩
      · have HE : Hid (badI (xs.drop (j + 1)) ((j : Int) + 1) = badI xs 0) := hide (by rw [← unhide HU, unhide HD, badI, hb]; rfl)
        clear HU HD hb
        go_wp2_with fail
        refine (unhide K _).mono ?_
        rintro e w' ⟨rfl, hw'⟩
        have hw2 := hw'.symm
        subst hw2
        clear K
        go_wp2
        go_roundw
        case rel => exact ⟨j + 1, unhide HJ, by go_num, unhide HE, by first | rfl | trivial⟩
        case measure => have := unhide HJ; simp [intOf]; omega
    · obtain rfl : j = xs.length := by omega
      have HE : Hid (badI xs 0 = -1) := hide (by rw [← unhide HU, List.drop_length]; rfl)
      clear hlt HU
      go_wp2
      go_ret
      exact ⟨by rw [unhide HE]; rfl, rfl⟩
theorem has32 (v : Value) (xs : List ByteArray) (w : World) (hv : strsV w v xs) (hn : xs.length ≤ 2097152) :
    Calls Tryd.prog 40 #[v, fn33] w fun e w' => e = .returned (.bool (!xs.all isI)) ∧ w' = w := by
  have K := hide (fun W (hW : strsV W v xs) => idx40 v xs W hW hn)
  have HV := hide hv
  obtain ⟨A, cap, rfl, _⟩ := hv
  have hb := badI_all xs 0 (Int.le_refl _)
  generalize badI xs 0 = k at *
  clear hn
  go_enter Tryd.func40, Tryd.ntmps40
  go_wp2_with fail
  refine (unhide K _ (unhide HV)).mono ?_
  rintro e w' ⟨rfl, hw'⟩
  have hw2 := hw'.symm
  subst hw2
  clear K HV
  rcases hb with ⟨h1, h2⟩ | ⟨h1, h2⟩
  · have HE := hide h2
    subst h1
    clear h2
    go_wp2
    go_ret
    exact ⟨ret_bool (by rw [unhide HE]; rfl), rfl⟩
  · have HE := hide h2
    clear h2
    go_wp2
    go_ret
    exact ⟨ret_bool (by rw [unhide HE]; simp; try omega), rfl⟩
theorem list32 (v : Value) (xs : List ByteArray) (w : World) (hv : strsV w v xs) (hn : xs.length ≤ 2097152) :
    Calls Tryd.prog 32 #[v, fn33] w fun e w' => e = .returned (.bool (itB xs)) ∧ w' = w := by
  have K := hide (has32 v xs w hv hn)
  obtain ⟨A, cap, rfl, _⟩ := hv
  have n0 : (0 : Int) ≤ (xs.length : Int) := by omega
  have n1 : (xs.length : Int) ≤ 2097152 := by omega
  unfold itB
  by_cases h : xs.length ≤ 64
  · rw [decide_eq_true h, Bool.true_and]
    have q : (xs.length : Int) ≤ 64 := by omega
    clear h hn
    generalize xs.all isI = bb at *
    go_enter Tryd.func32, Tryd.ntmps32
    go_wp2_with fail
    refine (unhide K).mono ?_
    rintro e w' ⟨rfl, hw'⟩
    have hw2 := hw'.symm
    subst hw2
    clear K
    cases bb
    · go_wp2
      go_ret
      exact ⟨rfl, rfl⟩
    · go_wp2
      go_ret
      exact ⟨rfl, rfl⟩
  · rw [decide_eq_false h, Bool.false_and]
    have q : (64 : Int) < (xs.length : Int) := by omega
    clear h hn K
    go_enter Tryd.func32, Tryd.ntmps32
    go_wp2
    go_ret
    exact ⟨rfl, rfl⟩
theorem items27 (v : Value) (xs : List ByteArray) (w : World) (hv : strsV w v xs) (hn : xs.length ≤ 2097152) :
    Calls Tryd.prog 27 #[v] w fun e w' => e = .returned (.bool (itB xs)) ∧ w' = w := by
  have K := hide (list32 v xs w hv hn)
  obtain ⟨A, cap, rfl, _⟩ := hv
  clear hn
  generalize itB xs = bb at *
  go_enter Tryd.func27, Tryd.ntmps27
  go_wp2_with fail
  refine (unhide K).mono ?_
  rintro e w' ⟨rfl, hw'⟩
  have hw2 := hw'.symm
  subst hw2
  clear K
  go_wp2
  go_ret
  exact ⟨rfl, rfl⟩
def itC (xs : List ByteArray) : Int := if itB xs = true then 0 else 1
theorem items17 (v : Value) (xs : List ByteArray) (w : World) (hv : strsV w v xs) (hn : xs.length ≤ 4096) :
    Calls Tryd.prog 17 #[v] w fun e w' => e = .returned (.int .i64 (itC xs)) ∧ w' = w := by
  obtain ⟨A, cap, rfl, hc⟩ := hv
  have HC := hide hc
  have n0 : (0 : Int) ≤ (xs.length : Int) := by omega
  have n1 : (xs.length : Int) ≤ 4096 := by omega
  clear hc
  by_cases h : 64 < xs.length
  · have HE : Hid (itC xs = 1) := hide (by unfold itC itB; rw [decide_eq_false (by omega)]; rfl)
    have q : (64 : Int) < (xs.length : Int) := by omega
    clear h hn HC
    go_enter Tryd.func17, Tryd.ntmps17
    go_wp2
    go_ret
    exact ⟨by rw [unhide HE]; rfl, rfl⟩
  have HE : Hid (itC xs = if xs.all isI = true then 0 else 1) := hide (by unfold itC itB; rw [decide_eq_true (by omega), Bool.true_and])
  have q : (xs.length : Int) ≤ 64 := by omega
  clear h hn
  go_enter Tryd.func17, Tryd.ntmps17
  go_wp2
  go_loopw [3] (fun i wr => ∃ j : Nat, j ≤ xs.length ∧ i = .int .i64 j ∧ (∀ i, i < j → isI (xs.getD i noS) = true) ∧ wr = w) (fun i _ => xs.length - (intOf i).toNat)
  case atStart => exact ⟨0, by omega, rfl, fun _ h => absurd h (Nat.not_lt_zero _), rfl⟩
  case round =>
    obtain ⟨j, hj, rfl, hg, rfl⟩ := hrel
    have HG := hide hg
    clear hg
    by_cases hlt : j < xs.length
    · obtain ⟨b, off, hA, _, hcell⟩ := unhide HC (by omega)
      subst hA
      have q1 : (j : Int) < (xs.length : Int) := by omega
      have q0 : (0 : Int) ≤ (j : Int) := by omega
      have p0 := hcell j hlt
      have HJ := hide hlt
      clear hcell hlt hj
      by_cases hx : (xs.getD j noS).size ≤ 400
      · have HX : Hid (isI (xs.getD j noS) = true) := hide (decide_eq_true hx)
        have hx2 : ((xs.getD j noS).size : Int) ≤ 400 := by omega
        clear hx
        generalize hxx : xs.getD j noS = x at *
        have HXX := hide hxx
        clear hxx
        go_wp2
        go_roundw
        case rel => exact ⟨j + 1, unhide HJ, by go_num, fun i hi => by
          rcases Nat.lt_or_ge i j with h | h
          · exact unhide HG i h
          · obtain rfl : i = j := by omega
            rw [unhide HXX]; exact unhide HX, by first | rfl | trivial⟩
        case measure => have := unhide HJ; simp [intOf]; omega
      · have HX : Hid (xs.all isI = false) := hide (all_bad (unhide HJ) (decide_eq_false hx))
        have hx2 : (400 : Int) < ((xs.getD j noS).size : Int) := by omega
        clear hx
        generalize xs.getD j noS = x at *
        go_wp2
        go_ret
        exact ⟨by rw [unhide HE, unhide HX]; rfl, rfl⟩
    · obtain rfl : j = xs.length := by omega
      have HX := hide (all_good (unhide HG))
      clear hlt
      go_wp2
      go_ret
      exact ⟨by rw [unhide HE, unhide HX]; rfl, rfl⟩
/-- each who is somewhere has a key -/
def keysB : List Int → List ByteArray → Bool
  | [], _ => true
  | f :: fs, rs => (decide (f = -1) || isK (rs.headD noS)) && keysB fs rs.tail
def plF (fs : List Int) : List Int := fs.filter fun f => decide (f ≠ -1)
/-- the specification's way: place by place -/
def wyB (n : Nat) : List Int → List ByteArray → List Bool → Bool
  | [], _, _ => true
  | f :: fs, rs, s => if f = -1 then wyB n fs rs.tail s else (decide (0 ≤ f) && decide (f < (n : Int)) && !s.getD f.toNat false && isK (rs.headD noS)) && wyB n fs rs.tail (s.set f.toNat true)
theorem wyB_eq (n : Nat) : ∀ (fs : List Int) (rs : List ByteArray) (s : List Bool), wyB n fs rs s = (keysB fs rs && disB n (plF fs) s)
  | [], _, _ => rfl
  | f :: fs, rs, s => by
    unfold wyB keysB plF
    by_cases h : f = -1
    · rw [if_pos h, decide_eq_true h, Bool.true_or, Bool.true_and, wyB_eq n fs]
      rw [List.filter_cons_of_neg (by simp [h])]
      rfl
    · rw [if_neg h, decide_eq_false h, Bool.false_or, wyB_eq n fs, List.filter_cons_of_pos (by simp [h])]
      rw [show disB n (f :: List.filter (fun f => decide (f ≠ -1)) fs) s = ((decide (0 ≤ f) && decide (f < (n : Int)) && !s.getD f.toNat false) && disB n (plF fs) (s.set f.toNat true)) from rfl]
      generalize isK (rs.headD noS) = a
      generalize keysB fs rs.tail = b
      generalize (decide (0 ≤ f) && decide (f < (n : Int)) && !s.getD f.toNat false) = c
      generalize disB n (plF fs) (s.set f.toNat true) = d
      cases a <;> cases b <;> cases c <;> cases d <;> rfl
theorem head_drop (rs : List ByteArray) (j : Nat) : (rs.drop j).headD noS = rs.getD j noS := by
  rw [List.headD_eq_head?_getD, List.head?_drop, List.getD_eq_getElem?_getD]
theorem keysB_drop {fs : List Int} {rs : List ByteArray} {j : Nat} (h : j < fs.length) : keysB (fs.drop j) (rs.drop j) = ((decide (fs.getD j 0 = -1) || isK (rs.getD j noS)) && keysB (fs.drop (j + 1)) (rs.drop (j + 1))) := by
  rw [drop_at h, keysB, head_drop, List.tail_drop]
theorem wyB_drop {n : Nat} {fs : List Int} {rs : List ByteArray} {s : List Bool} {j : Nat} (h : j < fs.length) : wyB n (fs.drop j) (rs.drop j) s = if fs.getD j 0 = -1 then wyB n (fs.drop (j + 1)) (rs.drop (j + 1)) s else (decide (0 ≤ fs.getD j 0) && decide (fs.getD j 0 < (n : Int)) && !s.getD (fs.getD j 0).toNat false && isK (rs.getD j noS)) && wyB n (fs.drop (j + 1)) (rs.drop (j + 1)) (s.set (fs.getD j 0).toNat true) := by
  rw [drop_at h, wyB, head_drop, List.tail_drop]
theorem plF_snoc {fs : List Int} {j : Nat} (h : j < fs.length) : plF (fs.take (j + 1)) = if fs.getD j 0 = -1 then plF (fs.take j) else plF (fs.take j) ++ [fs.getD j 0] := by
  unfold plF
  rw [List.take_add_one, List.getElem?_eq_getElem h, List.filter_append, List.getD_eq_getElem?_getD, List.getElem?_eq_getElem h, Option.getD_some]
  by_cases e : fs[j] = -1
  · rw [if_pos e]
    simp [e]
  · rw [if_neg e]
    simp [e]
theorem wyB_each {n : Nat} : ∀ {fs : List Int} {rs : List ByteArray} {s : List Bool}, wyB n fs rs s = true → ∀ j, j < fs.length → fs.getD j 0 = -1 ∨ (0 ≤ fs.getD j 0 ∧ fs.getD j 0 < (n : Int) ∧ (rs.getD j noS).size = 32)
  | [], _, _, _, j, hj => by simp at hj
  | f :: fs, rs, s, h, j, hj => by
    unfold wyB at h
    have ht : ∀ j, (rs.tail).getD j noS = rs.getD (j + 1) noS := fun j => by cases rs <;> simp
    cases j with
    | zero =>
      by_cases e : f = -1
      · exact .inl e
      · rw [if_neg e] at h
        simp only [Bool.and_eq_true] at h
        refine .inr ⟨of_decide_eq_true h.1.1.1.1, of_decide_eq_true h.1.1.1.2, ?_⟩
        have := of_decide_eq_true h.1.2
        cases rs <;> exact this
    | succ j =>
      have hj' : j < fs.length := by simpa using hj
      have e1 : (f :: fs).getD (j + 1) 0 = fs.getD j 0 := rfl
      rw [e1, ← ht j]
      by_cases e : f = -1
      · rw [if_pos e] at h
        exact wyB_each h j hj'
      · rw [if_neg e] at h
        simp only [Bool.and_eq_true] at h
        exact wyB_each h.2 j hj'
end Go.Proofs.YtggiijlgdpkkfaaDoor
