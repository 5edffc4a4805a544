/- Messages: the laws' helpers, the specification's MessageOK, numbers as bytes. -/
import Derived.Test.YtgdohkemamlnhaaDoorHlp
namespace Go.Proofs.YtgdohkemamlnhaaDoor
open Go.RowKit
set_option maxHeartbeats 4000000
set_option maxRecDepth 20000
/-- a message as a value -/
abbrev msgV (r s a : Int) (d b : ByteArray) : Value := .agg #[.int .i64 r, .int .i64 s, .int .i64 a, .string d, .string b]
theorem eq18 (r s a : Int) (d b : ByteArray) (w : World) : Calls Tryd.prog 10 #[msgV r s a d b, msgV r s a d b] w fun e w' => e = .returned (.bool true) ∧ Below w.heap.size w w' := by
  go_enter Tryd.func10, Tryd.ntmps10
  go_wp2
  go_ret
  exact ⟨rfl, ((Below.refl _ _).alloc (Nat.le_refl _) _).alloc (by simp) _⟩
/-- the number that bytes are, the highest first -/
def ofL (xs : List Int) : Int := xs.foldl (fun n x => n * 256 + x) 0
theorem ofL_take (xs : List Int) (j : Nat) (h : j < xs.length) : ofL (xs.take (j + 1)) = ofL (xs.take j) * 256 + xs.getD j 0 := by
  unfold ofL
  rw [List.take_succ_eq_append_getElem h, List.foldl_append, List.getD_eq_getElem?_getD, List.getElem?_eq_getElem h]
  rfl
theorem ofL_bd (xs : List Int) (h : isB xs) : ∀ j, j ≤ 4 → j ≤ xs.length → 0 ≤ ofL (xs.take j) ∧ ofL (xs.take j) < 256 ^ j
  | 0, _, _ => by simp [ofL]
  | j + 1, h4, hj => by
    have ih := ofL_bd xs h j (by omega) (by omega)
    rw [ofL_take xs j (by omega)]
    have := h.at j
    have e : (256 : Int) ^ (j + 1) = 256 ^ j * 256 := Int.pow_succ _ _
    omega
theorem of25 (v : Value) (xs : List Int) (hx : xs.length ≤ 4) (w : World) (hv : bytesV w v xs) : Calls Tryd.prog 30 #[v] w fun e w' => e = .returned (.int .i64 (ofL xs)) ∧ w' = w := by
  obtain ⟨A, cap, rfl, hB, hc⟩ := hv
  have HC := hide hc
  have HB := hide hB
  clear hc hB
  go_enter Tryd.func30, Tryd.ntmps30
  go_wp2
  go_loopw [3, 4] (fun nn i wr => ∃ j : Nat, j ≤ xs.length ∧ i = .int .i64 j ∧ nn = .int .i64 (ofL (xs.take j)) ∧ wr = w) (fun _ i _ => xs.length - (intOf i).toNat)
  case atStart => exact ⟨0, by omega, rfl, rfl, rfl⟩
  case round =>
    obtain ⟨j, hj, rfl, rfl, rfl⟩ := hrel
    by_cases hlt : j < xs.length
    · obtain ⟨b, off, hA, _, hcell⟩ := unhide HC (by omega)
      subst hA
      have q1 : (j : Int) < (xs.length : Int) := by omega
      have q0 : (0 : Int) ≤ (j : Int) := by omega
      have p0 := hcell j hlt
      have E := hide (ofL_take xs j hlt)
      obtain ⟨n0, n1⟩ := ofL_bd xs (unhide HB) j (by omega) hj
      have n2 : ofL (xs.take j) < 4294967296 := by
        have : (256 : Int) ^ j ≤ 256 ^ 4 := by
          obtain rfl | rfl | rfl | rfl : j = 0 ∨ j = 1 ∨ j = 2 ∨ j = 3 := by omega
          all_goals decide
        have e4 : (256 : Int) ^ 4 = 4294967296 := by decide
        omega
      obtain ⟨x0, x1⟩ := (unhide HB).at j
      have HJ := hide hlt
      clear n1 hcell hlt hj
      generalize ofL (xs.take j) = o at *
      generalize xs.getD j 0 = xj at *
      go_wp2
      go_roundw
      case rel => exact ⟨j + 1, unhide HJ, by go_num, by rw [unhide E], by first | rfl | trivial⟩
      case measure => have := unhide HJ; simp [intOf]; omega
    · obtain rfl : j = xs.length := by omega
      rw [List.take_length]
      clear hlt
      go_wp2
      go_ret
      exact ⟨rfl, rfl⟩
theorem ret_bool {a b : Bool} (h : a = b) : Ending.returned (.bool a) = .returned (.bool b) := by rw [h]
theorem in19 (n lo hi : Int) (w : World) : Calls Tryd.prog 55 #[.int .i64 n, .int .i64 lo, .int .i64 hi] w fun e w' => e = .returned (.bool (decide (lo ≤ n) && decide (n ≤ hi))) ∧ w' = w := by
  go_enter Tryd.func55, Tryd.ntmps55
  go_wp2
  all_goals
    go_ret
    exact ⟨ret_bool (by rw [Bool.eq_iff_iff]; simp; try omega), rfl⟩
/-- a right message -/
def okM (r s a : Int) (d b : ByteArray) : Bool := (decide (0 ≤ r) && decide (r ≤ 1000000)) && (decide (0 ≤ s) && decide (s ≤ 65535)) && (decide (0 ≤ a) && decide (a ≤ 65535)) && decide (d.size = 8) && decide (b.size ≤ 40)
theorem ok7 (r s a : Int) (d b : ByteArray) (w : World) : Calls Tryd.prog 41 #[msgV r s a d b] w fun e w' => e = .returned (.bool (okM r s a d b)) ∧ Below w.heap.size w w' := by
  have hb := hide ((Below.refl w.heap.size w).alloc (Nat.le_refl _) (.cells #[.int .i64 r, .int .i64 s, .int .i64 a, .string d, .string b] 24))
  have c1 := hide (in19 r 0 1000000)
  have c2 := hide (in19 s 0 65535)
  have c3 := hide (in19 a 0 65535)
  unfold okM
  generalize (decide (0 ≤ r) && decide (r ≤ 1000000)) = b1 at *
  generalize (decide (0 ≤ s) && decide (s ≤ 65535)) = b2 at *
  generalize (decide (0 ≤ a) && decide (a ≤ 65535)) = b3 at *
  cases b1
  · go_enter Tryd.func41, Tryd.ntmps41
    go_wp2_with fail
    refine (unhide c1 _).mono ?_
    rintro e w1 ⟨rfl, rfl⟩
    go_wp2
    go_ret
    exact ⟨rfl, unhide hb⟩
  · cases b2
    · go_enter Tryd.func41, Tryd.ntmps41
      go_wp2_with fail
      refine (unhide c1 _).mono ?_
      rintro e w1 ⟨rfl, rfl⟩
      go_wp2_with fail
      refine (unhide c2 _).mono ?_
      rintro e w1 ⟨rfl, rfl⟩
      go_wp2
      go_ret
      exact ⟨rfl, unhide hb⟩
    · cases b3
      · go_enter Tryd.func41, Tryd.ntmps41
        go_wp2_with fail
        refine (unhide c1 _).mono ?_
        rintro e w1 ⟨rfl, rfl⟩
        go_wp2_with fail
        refine (unhide c2 _).mono ?_
        rintro e w1 ⟨rfl, rfl⟩
        go_wp2_with fail
        refine (unhide c3 _).mono ?_
        rintro e w1 ⟨rfl, rfl⟩
        go_wp2
        go_ret
        exact ⟨rfl, unhide hb⟩
      · go_enter Tryd.func41, Tryd.ntmps41
        go_wp2_with fail
        refine (unhide c1 _).mono ?_
        rintro e w1 ⟨rfl, rfl⟩
        go_wp2_with fail
        refine (unhide c2 _).mono ?_
        rintro e w1 ⟨rfl, rfl⟩
        go_wp2_with fail
        refine (unhide c3 _).mono ?_
        rintro e w1 ⟨rfl, rfl⟩
        go_wp2
        all_goals
          go_ret
          exact ⟨ret_bool (by rw [Bool.eq_iff_iff]; simp; try omega), unhide hb⟩
end Go.Proofs.YtgdohkemamlnhaaDoor
