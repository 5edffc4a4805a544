/- A reader's numbers. -/
import Derived.Test.YtgdohkemamlnhaaDoorRd
import Derived.Laws.BitsAllLaws
namespace Go.Proofs.YtgdohkemamlnhaaDoor
open Go.RowKit
set_option maxHeartbeats 4000000
set_option maxRecDepth 20000
theorem txt_str (ys : List Int) (h : isB ys) : txt (strOfNums ys) = ys := by
  refine ext_getD (by rw [txt_len, strOfNums_size]) fun i hi => ?_
  have := bt_str ys h i
  unfold bt at this
  unfold txt
  rw [← this, List.getD_eq_getElem?_getD, List.getD_eq_getElem?_getD, List.getElem?_map]
  rw [txt_len, strOfNums_size] at hi
  have hl : i < (strOfNums ys).data.toList.length := by rw [strOfNums_data]; simpa using hi
  rw [List.getElem?_eq_getElem hl]
  rfl
theorem or_byte (o x : Int) (h0 : 0 ≤ o) (h1 : o < 16777216) (x0 : 0 ≤ x) (x1 : x < 256) : bits .or .i64 (o * 256) x = o * 256 + x := by
  obtain ⟨A, rfl⟩ := Int.eq_ofNat_of_zero_le h0
  obtain ⟨B, rfl⟩ := Int.eq_ofNat_of_zero_le x0
  have hA : (BitVec.ofInt 64 ((A : Int) * 256)).toNat = A * 256 := by rw [BitVec.toNat_ofInt]; omega
  have hB : (BitVec.ofInt 64 (B : Int)).toNat = B := by rw [BitVec.toNat_ofInt]; omega
  show IntKind.i64.wrap ((BitVec.ofInt 64 ((A : Int) * 256) ||| BitVec.ofInt 64 (B : Int)).toNat : Int) = _
  rw [BitVec.toNat_or, hA, hB, nat_join 8 _ _ (by omega) (by omega), IntKind.wrap_i64]
  omega
theorem number_of (q n : Nat) (p : ByteArray) (ys : List Int) (hy : ys.length ≤ 4) (hB : isB ys) (W : World) (P : World → Prop) (hP : ∀ a b : World, Below a.heap.size a b → P a → P b)
    (ht : Calls Tryd.prog 54 #[.pointer (some ⟨q, 0, none⟩), .string p, .int .i64 (n : Int)] W fun e w' => e = .returned (.string (strOfNums ys)) ∧ P w' ∧ Only q W w') :
    Calls Tryd.prog 53 #[.pointer (some ⟨q, 0, none⟩), .string p, .int .i64 (n : Int)] W fun e w' => e = .returned (.int .i64 (ofL ys)) ∧ P w' ∧ Only q W w' := by
  have HT := hide ht
  have HP := hide hP
  have HB := hide hB
  have HY := hide hy
  clear ht hP hB hy
  go_enter Tryd.func53, Tryd.ntmps53
  go_wp2_with fail
  refine (unhide HT).mono ?_
  rintro e w1 ⟨rfl, p1, o1⟩
  have cv := run_cv w1 (strOfNums ys)
  have bv := by_cv w1 (strOfNums ys)
  rw [txt_str ys (unhide HB)] at bv
  rw [strOfNums_size] at cv bv
  have P2 := hide (unhide HP _ _ (bl_cv (t := strOfNums ys) (Below.refl w1.heap.size w1)) p1)
  have O2 := hide (o1.trans (Only.of_below (bl_cv (t := strOfNums ys) (Below.refl w1.heap.size w1))))
  have BV := hide bv
  clear bv p1 o1 HT HP
  go_wp2
  generalize cvW w1 (strOfNums ys) = w2 at *
  generalize grownCap w1 ys.length 0 5 = cap at *
  generalize w1.heap.size = g at *
  go_loopw [7, 16] (fun nn i wr => ∃ j : Nat, j ≤ ys.length ∧ i = .int .i64 j ∧ nn = .int .i64 (ofL (ys.take j)) ∧ wr = w2) (fun _ i _ => ys.length - (intOf i).toNat)
  case atStart => exact ⟨0, by omega, rfl, rfl, rfl⟩
  case round =>
    obtain ⟨j, hj, rfl, rfl, hwr⟩ := hrel
    obtain rfl := hwr.symm
    by_cases hlt : j < ys.length
    · obtain ⟨A, c', e', _, hcc⟩ := unhide BV
      obtain ⟨b, off, hA, _, hcell⟩ := hcc (by omega)
      simp only [Value.slice.injEq] at e'
      obtain ⟨e1, _, _⟩ := e'
      rw [hA] at e1
      simp only [Option.some.injEq, Addr.mk.injEq] at e1
      obtain ⟨rfl, rfl, _⟩ := e1
      have p0 := hcell j hlt
      rw [Nat.zero_add] at p0
      have q1 : (j : Int) < (ys.length : Int) := by omega
      have q0 : (0 : Int) ≤ (j : Int) := by omega
      have E := hide (ofL_take ys j hlt)
      have q2 : (ys.length : Int) ≤ 4 := by have := unhide HY; omega
      obtain ⟨n0, n1⟩ := ofL_bd ys (unhide HB) j (by have := unhide HY; omega) hj
      have n2 : ofL (ys.take j) < 16777216 := by
        have : (256 : Int) ^ j ≤ 256 ^ 3 := by
          have := unhide HY
          obtain rfl | rfl | rfl | rfl : j = 0 ∨ j = 1 ∨ j = 2 ∨ j = 3 := by omega
          all_goals decide
        have e4 : (256 : Int) ^ 3 = 16777216 := by decide
        omega
      obtain ⟨x0, x1⟩ := (unhide HB).at j
      have HJ := hide hlt
      clear n1 hcell hlt hj hcc hA
      generalize ofL (ys.take j) = o at *
      generalize ys.getD j 0 = xj at *
      have ob := or_byte o xj n0 n2 x0 x1
      go_wp2
      go_roundw
      case rel => exact ⟨j + 1, unhide HJ, by go_num, by rw [unhide E], by first | rfl | trivial⟩
      case measure => have := unhide HJ; simp [intOf]; omega
    · obtain rfl : j = ys.length := by omega
      rw [List.take_length]
      clear hlt
      go_wp2
      go_ret
      exact ⟨rfl, unhide P2, unhide O2⟩
theorem rd_stable (w0 : World) (q : Nat) (xs : List Int) (f : Option (ByteArray × Int)) : ∀ a b : World, Below a.heap.size a b → Rd w0 q a xs f → Rd w0 q b xs f := fun _ _ hb h => h.below hb
theorem number_ok (w0 : World) (q : Nat) (W : World) (xs : List Int) (p : ByteArray) (n : Nat) (h4 : n ≤ 4) (hn : n ≤ xs.length) (hB : isB xs) (h : Rd w0 q W xs none) :
    Calls Tryd.prog 53 #[.pointer (some ⟨q, 0, none⟩), .string p, .int .i64 (n : Int)] W fun e w' => e = .returned (.int .i64 (ofL (xs.take n))) ∧ Rd w0 q w' (xs.drop n) none ∧ Only q W w' :=
  number_of q n p (xs.take n) (by rw [List.length_take]; omega) (hB.take n) W _ (rd_stable w0 q (xs.drop n) none) (text_ok w0 q W xs p n hn h)
theorem number_some (w0 : World) (q : Nat) (W : World) (xs : List Int) (p : ByteArray) (n : Nat) (x : ByteArray × Int) (h : Rd w0 q W xs (some x)) :
    Calls Tryd.prog 53 #[.pointer (some ⟨q, 0, none⟩), .string p, .int .i64 (n : Int)] W fun e w' => e = .returned (.int .i64 0) ∧ Rd w0 q w' xs (some x) ∧ Only q W w' :=
  number_of q n p [] (by simp) (fun x hx => by cases hx) W _ (rd_stable w0 q xs (some x)) (text_some w0 q W xs p n x h)
theorem number_short (w0 : World) (q : Nat) (W : World) (xs : List Int) (p : ByteArray) (n : Nat) (hn : xs.length < n) (h : Rd w0 q W xs none) :
    Calls Tryd.prog 53 #[.pointer (some ⟨q, 0, none⟩), .string p, .int .i64 (n : Int)] W fun e w' => e = .returned (.int .i64 0) ∧ Rd w0 q w' xs (some (p, 3)) ∧ Only q W w' :=
  number_of q n p [] (by simp) (fun x hx => by cases hx) W _ (rd_stable w0 q xs (some (p, 3))) (text_short w0 q W xs p n hn h)
/-- what a reader has behind it: nothing wrong so far, or a fault of the code 3 -/
def stepN (st : List Int × Option (ByteArray × Int)) (p : ByteArray) (n : Nat) : List Int × Option (ByteArray × Int) :=
  match st.2 with
  | some x => (st.1, some x)
  | none => if n ≤ st.1.length then (st.1.drop n, none) else (st.1, some (p, 3))
def takeN (st : List Int × Option (ByteArray × Int)) (n : Nat) : List Int :=
  match st.2 with
  | some _ => []
  | none => if n ≤ st.1.length then st.1.take n else []
theorem text_any (w0 : World) (q : Nat) (W : World) (st : List Int × Option (ByteArray × Int)) (p : ByteArray) (n : Nat) (h : Rd w0 q W st.1 st.2) :
    Calls Tryd.prog 54 #[.pointer (some ⟨q, 0, none⟩), .string p, .int .i64 (n : Int)] W fun e w' => e = .returned (.string (strOfNums (takeN st n))) ∧ Rd w0 q w' (stepN st p n).1 (stepN st p n).2 ∧ Only q W w' := by
  obtain ⟨xs, f⟩ := st
  cases f with
  | some x => exact text_some w0 q W xs p n x h
  | none =>
    by_cases hn : n ≤ xs.length
    · simp only [takeN, stepN, if_pos hn]
      exact text_ok w0 q W xs p n hn h
    · simp only [takeN, stepN, if_neg hn]
      exact text_short w0 q W xs p n (by omega) h
theorem number_any (w0 : World) (q : Nat) (W : World) (st : List Int × Option (ByteArray × Int)) (p : ByteArray) (n : Nat) (h4 : n ≤ 4) (hB : isB st.1) (h : Rd w0 q W st.1 st.2) :
    Calls Tryd.prog 53 #[.pointer (some ⟨q, 0, none⟩), .string p, .int .i64 (n : Int)] W fun e w' => e = .returned (.int .i64 (ofL (takeN st n))) ∧ Rd w0 q w' (stepN st p n).1 (stepN st p n).2 ∧ Only q W w' := by
  obtain ⟨xs, f⟩ := st
  cases f with
  | some x => exact number_some w0 q W xs p n x h
  | none =>
    by_cases hn : n ≤ xs.length
    · simp only [takeN, stepN, if_pos hn]
      exact number_ok w0 q W xs p n h4 hn hB h
    · simp only [takeN, stepN, if_neg hn]
      exact number_short w0 q W xs p n (by omega) h
theorem stepN_isB {st : List Int × Option (ByteArray × Int)} (h : isB st.1) (p : ByteArray) (n : Nat) : isB (stepN st p n).1 := by
  obtain ⟨xs, f⟩ := st
  cases f with
  | some x => exact h
  | none =>
    by_cases hn : n ≤ xs.length
    · simp only [stepN, if_pos hn]; exact isB.drop h n
    · simp only [stepN, if_neg hn]; exact h
end Go.Proofs.YtgdohkemamlnhaaDoor
