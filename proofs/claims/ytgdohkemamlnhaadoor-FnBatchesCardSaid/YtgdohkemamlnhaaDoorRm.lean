/- A reader's message. -/
import Derived.Test.YtgdohkemamlnhaaDoorNr
namespace Go.Proofs.YtgdohkemamlnhaaDoor
open Go.RowKit
set_option maxHeartbeats 4000000
set_option maxRecDepth 20000
theorem Rd.setOther {w0 : World} {q : Nat} {W : World} {xs : List Int} {f : Option (ByteArray × Int)} (h : Rd w0 q W xs f) (t i : Nat) (v : Value) (ht : t ≠ q) (hl : w0.heap.size ≤ t) : Rd w0 q (W.setCell ⟨t, i, none⟩ v) xs f := by
  obtain ⟨x, h1, h2⟩ := h.row
  refine ⟨below_setCell h.bel hl, h.le, x, ?_, h2⟩
  rw [← h1]; simp only [World.setCell]; rw [Array.getElem?_modify, if_neg (by omega)]
theorem Only.setNew {q : Nat} {W X : World} (h : Only q W X) (t i : Nat) (v : Value) (ht : W.heap.size ≤ t) : Only q W (X.setCell ⟨t, i, none⟩ v) :=
  ⟨h.os, h.tape, h.output, by simpa [World.setCell] using h.size, fun k hk hq => by
    rw [← h.block k hk hq]; simp only [World.setCell]; rw [Array.getElem?_modify, if_neg (by omega)]⟩
theorem row_set {X : World} {t i : Nat} {cs : Array Value} {v : Value} {ty : TypeId} (h : X.heap[t]? = some (.cells cs ty (0, 0))) : (X.setCell ⟨t, i, none⟩ v).heap[t]? = some (.cells (cs.setIfInBounds i v) ty (0, 0)) := by
  simp [World.setCell, Array.getElem?_modify, h]
theorem row_set_other {X : World} {t t' i : Nat} {o : Obj} {v : Value} (h : X.heap[t]? = some o) (hne : t' ≠ t) : (X.setCell ⟨t', i, none⟩ v).heap[t]? = some o := by
  rw [← h]; simp only [World.setCell]; rw [Array.getElem?_modify, if_neg (by omega)]
theorem row_cell {X : World} {t i : Nat} {cs : Array Value} {ty : TypeId} (h : X.heap[t]? = some (.cells cs ty (0, 0))) : X.cell? ⟨t, i, none⟩ = cs[i]? := by
  rw [Go.cell_of_row _ _ _ _ _ _ h]
theorem row_free {X : World} {t i : Nat} {cs : Array Value} {ty : TypeId} (h : X.heap[t]? = some (.cells cs ty (0, 0))) : X.frozen? ⟨t, i, none⟩ = false := by
  simp [World.frozen?, h]
abbrev RS := List Int × Option (ByteArray × Int)
abbrev s1 (st : RS) : RS := stepN st ⟨#[114, 111, 117, 110, 100]⟩ 4
abbrev s2 (st : RS) : RS := stepN (s1 st) ⟨#[115, 101, 113]⟩ 2
abbrev s3 (st : RS) : RS := stepN (s2 st) ⟨#[97, 99, 107]⟩ 2
abbrev s4 (st : RS) : RS := stepN (s3 st) ⟨#[100, 114, 111, 112]⟩ 8
abbrev s5 (st : RS) : RS := stepN (s4 st) ⟨#[108, 101, 110, 103, 116, 104, 32, 111, 102, 32, 98, 111, 100, 121]⟩ 1
def kOf (st : RS) : Nat := (ofL (takeN (s4 st) 1)).toNat
abbrev s6 (st : RS) : RS := stepN (s5 st) ⟨#[98, 111, 100, 121]⟩ (kOf st)
theorem ofL_nonneg (xs : List Int) (h : isB xs) (hl : xs.length ≤ 4) : 0 ≤ ofL xs := by
  have := ofL_bd xs h xs.length hl (Nat.le_refl _)
  rw [List.take_length] at this
  exact this.1
theorem takeN_isB {st : RS} (h : isB st.1) (n : Nat) : isB (takeN st n) := by
  obtain ⟨xs, f⟩ := st
  cases f with
  | some x => exact fun x hx => by cases hx
  | none =>
    by_cases hn : n ≤ xs.length
    · simp only [takeN, if_pos hn]; exact isB.take h n
    · simp only [takeN, if_neg hn]; exact fun x hx => by cases hx
theorem takeN_len (st : RS) (n : Nat) : (takeN st n).length ≤ n := by
  obtain ⟨xs, f⟩ := st
  cases f with
  | some x => simp [takeN]
  | none =>
    by_cases hn : n ≤ xs.length
    · simp only [takeN, if_pos hn]; rw [List.length_take]; omega
    · simp only [takeN, if_neg hn]; simp
theorem kOf_cast (st : RS) (h : isB st.1) : ofL (takeN (s4 st) 1) = (kOf st : Int) := by
  have h4 : isB (s4 st).1 := stepN_isB (stepN_isB (stepN_isB (stepN_isB h _ _) _ _) _ _) _ _
  have := ofL_nonneg (takeN (s4 st) 1) (takeN_isB h4 1) (Nat.le_trans (takeN_len _ 1) (by omega))
  unfold kOf
  omega
/-- the message that a reader hands out -/
abbrev rdM (st : RS) : Value := msgV (ofL (takeN st 4)) (ofL (takeN (s1 st) 2)) (ofL (takeN (s2 st) 2)) (strOfNums (takeN (s3 st) 8)) (strOfNums (takeN (s5 st) (kOf st)))
theorem message29 (w0 : World) (q : Nat) (W : World) (st : RS) (hB : isB st.1) (h : Rd w0 q W st.1 st.2) :
    Calls Tryd.prog 29 #[.pointer (some ⟨q, 0, none⟩)] W fun e w' => e = .returned (rdM st) ∧ Rd w0 q w' (s6 st).1 (s6 st).2 ∧ Only q W w' := by
  have hk := kOf_cast st hB
  have I1 : isB (s1 st).1 := stepN_isB hB _ _
  have I2 : isB (s2 st).1 := stepN_isB I1 _ _
  have I4 : isB (s4 st).1 := stepN_isB (stepN_isB I2 _ _) _ _
  have c1 : Hid (∀ X, Rd w0 q X st.1 st.2 → Calls Tryd.prog 53 #[.pointer (some ⟨q, 0, none⟩), .string ⟨#[114, 111, 117, 110, 100]⟩, .int .i64 4] X fun e w' => e = .returned (.int .i64 (ofL (takeN st 4))) ∧ Rd w0 q w' (s1 st).1 (s1 st).2 ∧ Only q X w') := hide (fun X hX => number_any w0 q X st ⟨#[114, 111, 117, 110, 100]⟩ 4 (by omega) hB hX)
  have c2 : Hid (∀ X, Rd w0 q X (s1 st).1 (s1 st).2 → Calls Tryd.prog 53 #[.pointer (some ⟨q, 0, none⟩), .string ⟨#[115, 101, 113]⟩, .int .i64 2] X fun e w' => e = .returned (.int .i64 (ofL (takeN (s1 st) 2))) ∧ Rd w0 q w' (s2 st).1 (s2 st).2 ∧ Only q X w') := hide (fun X hX => number_any w0 q X (s1 st) ⟨#[115, 101, 113]⟩ 2 (by omega) I1 hX)
  have c3 : Hid (∀ X, Rd w0 q X (s2 st).1 (s2 st).2 → Calls Tryd.prog 53 #[.pointer (some ⟨q, 0, none⟩), .string ⟨#[97, 99, 107]⟩, .int .i64 2] X fun e w' => e = .returned (.int .i64 (ofL (takeN (s2 st) 2))) ∧ Rd w0 q w' (s3 st).1 (s3 st).2 ∧ Only q X w') := hide (fun X hX => number_any w0 q X (s2 st) ⟨#[97, 99, 107]⟩ 2 (by omega) I2 hX)
  have c4 : Hid (∀ X, Rd w0 q X (s3 st).1 (s3 st).2 → Calls Tryd.prog 54 #[.pointer (some ⟨q, 0, none⟩), .string ⟨#[100, 114, 111, 112]⟩, .int .i64 8] X fun e w' => e = .returned (.string (strOfNums (takeN (s3 st) 8))) ∧ Rd w0 q w' (s4 st).1 (s4 st).2 ∧ Only q X w') := hide (fun X hX => text_any w0 q X (s3 st) ⟨#[100, 114, 111, 112]⟩ 8 hX)
  have c5 : Hid (∀ X, Rd w0 q X (s4 st).1 (s4 st).2 → Calls Tryd.prog 53 #[.pointer (some ⟨q, 0, none⟩), .string ⟨#[108, 101, 110, 103, 116, 104, 32, 111, 102, 32, 98, 111, 100, 121]⟩, .int .i64 1] X fun e w' => e = .returned (.int .i64 (kOf st : Int)) ∧ Rd w0 q w' (s5 st).1 (s5 st).2 ∧ Only q X w') := hide (fun X hX => by rw [← hk]; exact number_any w0 q X (s4 st) ⟨#[108, 101, 110, 103, 116, 104, 32, 111, 102, 32, 98, 111, 100, 121]⟩ 1 (by omega) I4 hX)
  have c6 : Hid (∀ X, Rd w0 q X (s5 st).1 (s5 st).2 → Calls Tryd.prog 54 #[.pointer (some ⟨q, 0, none⟩), .string ⟨#[98, 111, 100, 121]⟩, .int .i64 ((kOf st : Nat) : Int)] X fun e w' => e = .returned (.string (strOfNums (takeN (s5 st) (kOf st)))) ∧ Rd w0 q w' (s6 st).1 (s6 st).2 ∧ Only q X w') := hide (fun X hX => text_any w0 q X (s5 st) ⟨#[98, 111, 100, 121]⟩ (kOf st) hX)
  clear I1 I2 I4 hB hk
  unfold rdM
  generalize s6 st = S6 at *
  generalize s5 st = S5 at *
  generalize s4 st = S4 at *
  generalize s3 st = S3 at *
  generalize s2 st = S2 at *
  generalize s1 st = S1 at *
  generalize kOf st = k at *
  have hlt := h.lt
  have hle := h.bel.size
  have R0 := hide ((h.below (bl_al (o := .cells #[.int .i64 0, .int .i64 0, .int .i64 0, .string ByteArray.empty, .string ByteArray.empty] 24) (Below.refl _ _))).below (bl_al (o := .cells #[.int .i64 0, .int .i64 0, .int .i64 0, .string ByteArray.empty, .string ByteArray.empty] 24) (Below.refl _ _)))
  have O0 := hide (Only.of_below (q := q) (bl_al (o := .cells #[.int .i64 0, .int .i64 0, .int .i64 0, .string ByteArray.empty, .string ByteArray.empty] 24) (bl_al (o := .cells #[.int .i64 0, .int .i64 0, .int .i64 0, .string ByteArray.empty, .string ByteArray.empty] 24) (Below.refl W.heap.size W))))
  have M0 := hide (heap_at (W.alloc (.cells #[.int .i64 0, .int .i64 0, .int .i64 0, .string ByteArray.empty, .string ByteArray.empty] 24)) (.cells #[.int .i64 0, .int .i64 0, .int .i64 0, .string ByteArray.empty, .string ByteArray.empty] 24) (W.heap.size + 1) (by simp))
  have N0 := hide ((Below.heap_alloc (W.alloc (.cells #[.int .i64 0, .int .i64 0, .int .i64 0, .string ByteArray.empty, .string ByteArray.empty] 24)) (.cells #[.int .i64 0, .int .i64 0, .int .i64 0, .string ByteArray.empty, .string ByteArray.empty] 24) W.heap.size (by simp)).trans (heap_at W (.cells #[.int .i64 0, .int .i64 0, .int .i64 0, .string ByteArray.empty, .string ByteArray.empty] 24) W.heap.size rfl))
  have LT := hide hlt
  have LE := hide hle
  clear h hlt hle
  go_enter Tryd.func29, Tryd.ntmps29
  go_wp2_with fail
  refine (unhide c1 _ (unhide R0)).mono ?_
  rintro e X1 ⟨rfl, r1, o1⟩
  have m1 : X1.heap[W.heap.size + 1]? = some (.cells #[.int .i64 0, .int .i64 0, .int .i64 0, .string ByteArray.empty, .string ByteArray.empty] 24 (0, 0)) := (o1.block _ (Array.getElem?_eq_some_iff.1 (unhide M0)).1 (by have := unhide LT; omega)).trans (unhide M0)
  have n1 : X1.heap[W.heap.size]? = some (.cells #[.int .i64 0, .int .i64 0, .int .i64 0, .string ByteArray.empty, .string ByteArray.empty] 24 (0, 0)) := (o1.block _ (Array.getElem?_eq_some_iff.1 (unhide N0)).1 (by have := unhide LT; omega)).trans (unhide N0)
  have d1 : X1.cell? ⟨W.heap.size + 1, 0, none⟩ = some (.int .i64 0) := row_cell m1
  have z1 : X1.frozen? ⟨W.heap.size + 1, 0, none⟩ = false := row_free m1
  have R1 := hide (r1.setOther (W.heap.size + 1) 0 (.int .i64 (ofL (takeN st 4))) (by have := unhide LT; omega) (by have := unhide LE; omega))
  have O1 := hide (((unhide O0).trans o1).setNew (W.heap.size + 1) 0 (.int .i64 (ofL (takeN st 4))) (by omega))
  have M1 : Hid ((X1.setCell ⟨W.heap.size + 1, 0, none⟩ (.int .i64 (ofL (takeN st 4)))).heap[W.heap.size + 1]? = some (.cells #[.int .i64 (ofL (takeN st 4)), .int .i64 0, .int .i64 0, .string ByteArray.empty, .string ByteArray.empty] 24 (0, 0))) := hide (row_set m1)
  have N1 := hide (row_set_other (t' := W.heap.size + 1) (i := 0) (v := .int .i64 (ofL (takeN st 4))) n1 (by omega))
  clear r1 o1 m1 n1 R0 O0 M0 N0
  go_wp2_with fail
  refine (unhide c2 _ (unhide R1)).mono ?_
  rintro e X2 ⟨rfl, r2, o2⟩
  have m2 : X2.heap[W.heap.size + 1]? = some (.cells #[.int .i64 (ofL (takeN st 4)), .int .i64 0, .int .i64 0, .string ByteArray.empty, .string ByteArray.empty] 24 (0, 0)) := (o2.block _ (Array.getElem?_eq_some_iff.1 (unhide M1)).1 (by have := unhide LT; omega)).trans (unhide M1)
  have n2 : X2.heap[W.heap.size]? = some (.cells #[.int .i64 0, .int .i64 0, .int .i64 0, .string ByteArray.empty, .string ByteArray.empty] 24 (0, 0)) := (o2.block _ (Array.getElem?_eq_some_iff.1 (unhide N1)).1 (by have := unhide LT; omega)).trans (unhide N1)
  have d2 : X2.cell? ⟨W.heap.size + 1, 1, none⟩ = some (.int .i64 0) := row_cell m2
  have z2 : X2.frozen? ⟨W.heap.size + 1, 1, none⟩ = false := row_free m2
  have R2 := hide (r2.setOther (W.heap.size + 1) 1 (.int .i64 (ofL (takeN S1 2))) (by have := unhide LT; omega) (by have := unhide LE; omega))
  have O2 := hide (((unhide O1).trans o2).setNew (W.heap.size + 1) 1 (.int .i64 (ofL (takeN S1 2))) (by omega))
  have M2 : Hid ((X2.setCell ⟨W.heap.size + 1, 1, none⟩ (.int .i64 (ofL (takeN S1 2)))).heap[W.heap.size + 1]? = some (.cells #[.int .i64 (ofL (takeN st 4)), .int .i64 (ofL (takeN S1 2)), .int .i64 0, .string ByteArray.empty, .string ByteArray.empty] 24 (0, 0))) := hide (row_set m2)
  have N2 := hide (row_set_other (t' := W.heap.size + 1) (i := 1) (v := .int .i64 (ofL (takeN S1 2))) n2 (by omega))
  clear r2 o2 m2 n2 R1 O1 M1 N1
  go_wp2_with fail
  refine (unhide c3 _ (unhide R2)).mono ?_
  rintro e X3 ⟨rfl, r3, o3⟩
  have m3 : X3.heap[W.heap.size + 1]? = some (.cells #[.int .i64 (ofL (takeN st 4)), .int .i64 (ofL (takeN S1 2)), .int .i64 0, .string ByteArray.empty, .string ByteArray.empty] 24 (0, 0)) := (o3.block _ (Array.getElem?_eq_some_iff.1 (unhide M2)).1 (by have := unhide LT; omega)).trans (unhide M2)
  have n3 : X3.heap[W.heap.size]? = some (.cells #[.int .i64 0, .int .i64 0, .int .i64 0, .string ByteArray.empty, .string ByteArray.empty] 24 (0, 0)) := (o3.block _ (Array.getElem?_eq_some_iff.1 (unhide N2)).1 (by have := unhide LT; omega)).trans (unhide N2)
  have d3 : X3.cell? ⟨W.heap.size + 1, 2, none⟩ = some (.int .i64 0) := row_cell m3
  have z3 : X3.frozen? ⟨W.heap.size + 1, 2, none⟩ = false := row_free m3
  have R3 := hide (r3.setOther (W.heap.size + 1) 2 (.int .i64 (ofL (takeN S2 2))) (by have := unhide LT; omega) (by have := unhide LE; omega))
  have O3 := hide (((unhide O2).trans o3).setNew (W.heap.size + 1) 2 (.int .i64 (ofL (takeN S2 2))) (by omega))
  have M3 : Hid ((X3.setCell ⟨W.heap.size + 1, 2, none⟩ (.int .i64 (ofL (takeN S2 2)))).heap[W.heap.size + 1]? = some (.cells #[.int .i64 (ofL (takeN st 4)), .int .i64 (ofL (takeN S1 2)), .int .i64 (ofL (takeN S2 2)), .string ByteArray.empty, .string ByteArray.empty] 24 (0, 0))) := hide (row_set m3)
  have N3 := hide (row_set_other (t' := W.heap.size + 1) (i := 2) (v := .int .i64 (ofL (takeN S2 2))) n3 (by omega))
  clear r3 o3 m3 n3 R2 O2 M2 N2
  go_wp2_with fail
  refine (unhide c4 _ (unhide R3)).mono ?_
  rintro e X4 ⟨rfl, r4, o4⟩
  have m4 : X4.heap[W.heap.size + 1]? = some (.cells #[.int .i64 (ofL (takeN st 4)), .int .i64 (ofL (takeN S1 2)), .int .i64 (ofL (takeN S2 2)), .string ByteArray.empty, .string ByteArray.empty] 24 (0, 0)) := (o4.block _ (Array.getElem?_eq_some_iff.1 (unhide M3)).1 (by have := unhide LT; omega)).trans (unhide M3)
  have n4 : X4.heap[W.heap.size]? = some (.cells #[.int .i64 0, .int .i64 0, .int .i64 0, .string ByteArray.empty, .string ByteArray.empty] 24 (0, 0)) := (o4.block _ (Array.getElem?_eq_some_iff.1 (unhide N3)).1 (by have := unhide LT; omega)).trans (unhide N3)
  have d4 : X4.cell? ⟨W.heap.size + 1, 3, none⟩ = some (.string ByteArray.empty) := row_cell m4
  have z4 : X4.frozen? ⟨W.heap.size + 1, 3, none⟩ = false := row_free m4
  have R4 := hide (r4.setOther (W.heap.size + 1) 3 (.string (strOfNums (takeN S3 8))) (by have := unhide LT; omega) (by have := unhide LE; omega))
  have O4 := hide (((unhide O3).trans o4).setNew (W.heap.size + 1) 3 (.string (strOfNums (takeN S3 8))) (by omega))
  have M4 : Hid ((X4.setCell ⟨W.heap.size + 1, 3, none⟩ (.string (strOfNums (takeN S3 8)))).heap[W.heap.size + 1]? = some (.cells #[.int .i64 (ofL (takeN st 4)), .int .i64 (ofL (takeN S1 2)), .int .i64 (ofL (takeN S2 2)), .string (strOfNums (takeN S3 8)), .string ByteArray.empty] 24 (0, 0))) := hide (row_set m4)
  have N4 := hide (row_set_other (t' := W.heap.size + 1) (i := 3) (v := .string (strOfNums (takeN S3 8))) n4 (by omega))
  clear r4 o4 m4 n4 R3 O3 M3 N3
  go_wp2_with fail
  refine (unhide c5 _ (unhide R4)).mono ?_
  rintro e X5 ⟨rfl, r5, o5⟩
  have m5 : X5.heap[W.heap.size + 1]? = some (.cells #[.int .i64 (ofL (takeN st 4)), .int .i64 (ofL (takeN S1 2)), .int .i64 (ofL (takeN S2 2)), .string (strOfNums (takeN S3 8)), .string ByteArray.empty] 24 (0, 0)) := (o5.block _ (Array.getElem?_eq_some_iff.1 (unhide M4)).1 (by have := unhide LT; omega)).trans (unhide M4)
  have n5 : X5.heap[W.heap.size]? = some (.cells #[.int .i64 0, .int .i64 0, .int .i64 0, .string ByteArray.empty, .string ByteArray.empty] 24 (0, 0)) := (o5.block _ (Array.getElem?_eq_some_iff.1 (unhide N4)).1 (by have := unhide LT; omega)).trans (unhide N4)
  have R5 := hide r5
  have O5 := hide ((unhide O4).trans o5)
  have M5 := hide m5
  have N5 := hide n5
  clear r5 o5 m5 n5 R4 O4 M4 N4
  go_wp2_with fail
  refine (unhide c6 _ (unhide R5)).mono ?_
  rintro e X6 ⟨rfl, r6, o6⟩
  have m6 : X6.heap[W.heap.size + 1]? = some (.cells #[.int .i64 (ofL (takeN st 4)), .int .i64 (ofL (takeN S1 2)), .int .i64 (ofL (takeN S2 2)), .string (strOfNums (takeN S3 8)), .string ByteArray.empty] 24 (0, 0)) := (o6.block _ (Array.getElem?_eq_some_iff.1 (unhide M5)).1 (by have := unhide LT; omega)).trans (unhide M5)
  have n6 : X6.heap[W.heap.size]? = some (.cells #[.int .i64 0, .int .i64 0, .int .i64 0, .string ByteArray.empty, .string ByteArray.empty] 24 (0, 0)) := (o6.block _ (Array.getElem?_eq_some_iff.1 (unhide N5)).1 (by have := unhide LT; omega)).trans (unhide N5)
  have d6 : X6.cell? ⟨W.heap.size + 1, 4, none⟩ = some (.string ByteArray.empty) := row_cell m6
  have z6 : X6.frozen? ⟨W.heap.size + 1, 4, none⟩ = false := row_free m6
  have M9 : Hid ((X6.setCell ⟨W.heap.size + 1, 4, none⟩ (.string (strOfNums (takeN S5 k)))).heap[W.heap.size + 1]? = some (.cells #[.int .i64 (ofL (takeN st 4)), .int .i64 (ofL (takeN S1 2)), .int .i64 (ofL (takeN S2 2)), .string (strOfNums (takeN S3 8)), .string (strOfNums (takeN S5 k))] 24 (0, 0))) := hide (row_set m6)
  have g0 : X6.cell? ⟨W.heap.size + 1, 0, none⟩ = some (.int .i64 (ofL (takeN st 4))) := row_cell m6
  have g1 : X6.cell? ⟨W.heap.size + 1, 1, none⟩ = some (.int .i64 (ofL (takeN S1 2))) := row_cell m6
  have g2 : X6.cell? ⟨W.heap.size + 1, 2, none⟩ = some (.int .i64 (ofL (takeN S2 2))) := row_cell m6
  have g3 : X6.cell? ⟨W.heap.size + 1, 3, none⟩ = some (.string (strOfNums (takeN S3 8))) := row_cell m6
  have p0 : X6.cell? ⟨W.heap.size, 0, none⟩ = some (.int .i64 0) := row_cell n6
  have y0 : X6.frozen? ⟨W.heap.size, 0, none⟩ = false := row_free n6
  have p1 : X6.cell? ⟨W.heap.size, 1, none⟩ = some (.int .i64 0) := row_cell n6
  have y1 : X6.frozen? ⟨W.heap.size, 1, none⟩ = false := row_free n6
  have p2 : X6.cell? ⟨W.heap.size, 2, none⟩ = some (.int .i64 0) := row_cell n6
  have y2 : X6.frozen? ⟨W.heap.size, 2, none⟩ = false := row_free n6
  have p3 : X6.cell? ⟨W.heap.size, 3, none⟩ = some (.string ByteArray.empty) := row_cell n6
  have y3 : X6.frozen? ⟨W.heap.size, 3, none⟩ = false := row_free n6
  have p4 : X6.cell? ⟨W.heap.size, 4, none⟩ = some (.string ByteArray.empty) := row_cell n6
  have y4 : X6.frozen? ⟨W.heap.size, 4, none⟩ = false := row_free n6
  have R6 := hide r6
  have O6 := hide ((unhide O5).trans o6)
  have N6 := hide n6
  clear r6 o6 m6 n6 R5 O5 M5 N5 M9
  go_wp2
  refine bodyPost_ret (v := msgV (ofL (takeN st 4)) (ofL (takeN S1 2)) (ofL (takeN S2 2)) (strOfNums (takeN S3 8)) (strOfNums (takeN S5 k))) ?_ rfl ⟨rfl, (((((((unhide R6).setOther (W.heap.size + 1) 4 (.string (strOfNums (takeN S5 k))) (by have := unhide LT; omega) (by have := unhide LE; omega)).setOther W.heap.size 0 (.int .i64 (ofL (takeN st 4))) (by have := unhide LT; omega) (unhide LE)).setOther W.heap.size 1 (.int .i64 (ofL (takeN S1 2))) (by have := unhide LT; omega) (unhide LE)).setOther W.heap.size 2 (.int .i64 (ofL (takeN S2 2))) (by have := unhide LT; omega) (unhide LE)).setOther W.heap.size 3 (.string (strOfNums (takeN S3 8))) (by have := unhide LT; omega) (unhide LE)).setOther W.heap.size 4 (.string (strOfNums (takeN S5 k))) (by have := unhide LT; omega) (unhide LE)), (((((((unhide O6).setNew (W.heap.size + 1) 4 (.string (strOfNums (takeN S5 k))) (by omega)).setNew W.heap.size 0 (.int .i64 (ofL (takeN st 4))) (Nat.le_refl _)).setNew W.heap.size 1 (.int .i64 (ofL (takeN S1 2))) (Nat.le_refl _)).setNew W.heap.size 2 (.int .i64 (ofL (takeN S2 2))) (Nat.le_refl _)).setNew W.heap.size 3 (.string (strOfNums (takeN S3 8))) (Nat.le_refl _)).setNew W.heap.size 4 (.string (strOfNums (takeN S5 k))) (Nat.le_refl _))⟩
  exact results_cell_row rfl _ _ W.heap.size 24 _ (0, 0) _ rfl (row_set (i := 4) (v := .string (strOfNums (takeN S5 k))) (row_set (i := 3) (v := .string (strOfNums (takeN S3 8))) (row_set (i := 2) (v := .int .i64 (ofL (takeN S2 2))) (row_set (i := 1) (v := .int .i64 (ofL (takeN S1 2))) (row_set (i := 0) (v := .int .i64 (ofL (takeN st 4))) (row_set_other (t' := W.heap.size + 1) (i := 4) (v := .string (strOfNums (takeN S5 k))) (unhide N6) (by omega))))))) Tryd.underlying24 rfl (by kernel_rfl)
end Go.Proofs.YtgdohkemamlnhaaDoor
