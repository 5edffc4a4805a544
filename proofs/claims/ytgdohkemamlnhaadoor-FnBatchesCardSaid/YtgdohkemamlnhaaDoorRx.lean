/- The program's ReadMessage. -/
import Derived.Test.YtgdohkemamlnhaaDoorRw
namespace Go.Proofs.YtgdohkemamlnhaaDoor
open Go.RowKit
set_option maxHeartbeats 4000000
set_option maxRecDepth 20000
/-- the fault that a whole reading ends with -/
def F7 (xs : List Int) : Option (ByteArray × Int) :=
  if mbC (mR xs) (mS xs) (mA xs) (mD xs) (mT xs) ≠ 0 ∨ mbL (mR xs) (mS xs) (mA xs) (mD xs) (mT xs) ≠ xs then orF (s6 (st0 xs)).2 ⟨#[119, 104, 111, 108, 101]⟩ 3 else (s6 (st0 xs)).2
theorem F7_ok (xs : List Int) : okF (F7 xs) := by
  unfold F7
  by_cases h : mbC (mR xs) (mS xs) (mA xs) (mD xs) (mT xs) ≠ 0 ∨ mbL (mR xs) (mS xs) (mA xs) (mD xs) (mT xs) ≠ xs
  · rw [if_pos h]; exact okF_or (okF_s6 xs) _
  · rw [if_neg h]; exact okF_s6 xs
theorem mbL_isB (r s a : Int) (d b : ByteArray) : isB (mbL r s a d b) := by
  unfold mbL
  by_cases h : okM r s a d b = true
  · rw [if_pos h]; obtain ⟨_, h2⟩ := okM_sizes h; exact mB_isB _ _ _ _ _ h2
  · rw [if_neg h]; exact fun x hx => by cases hx
theorem whole28 (v : Value) (xs : List Int) (W : World) (hv : bytesC W v xs) (hg : W.cell? ⟨0, 0, none⟩ = some (.iface 108 (.agg #[.pointer (some ⟨1, 72, none⟩)]))) :
    Calls Tryd.prog 28 #[v, .func (.func 29) #[] #[], .func (.func 19) #[] #[]] W fun e w' => e = .returned (.tuple #[outM (F7 xs) (msgV (mR xs) (mS xs) (mA xs) (mD xs) (mT xs)), .int .i64 (outC (F7 xs))]) ∧ Below W.heap.size W w' :=
  whole_gen v xs (s6 (st0 xs)).1 _ (s6 (st0 xs)).2 (F7 xs) _ _ _ _ _ _ W hv hg (fun w0 q w1 h => message29 w0 q w1 (st0 xs) (by obtain ⟨_, _, _, _, h, _⟩ := hv; exact h) h) (mbI _ _ _ _ _) (mbL_isB _ _ _ _ _) rfl (F7_ok xs)
theorem out_shape (F : Option (ByteArray × Int)) (r s a : Int) (d b : ByteArray) : ∃ r' s' a' d' b', outM F (msgV r s a d b) = msgV r' s' a' d' b' := by
  cases F with
  | none => exact ⟨_, _, _, _, _, rfl⟩
  | some x => exact ⟨_, _, _, _, _, rfl⟩
theorem read9 (v : Value) (xs : List Int) (W : World) (hv : bytesC W v xs) (hg : W.cell? ⟨0, 0, none⟩ = some (.iface 108 (.agg #[.pointer (some ⟨1, 72, none⟩)]))) :
    Calls Tryd.prog 9 #[v] W fun e w' => e = .returned (.tuple #[outM (F7 xs) (msgV (mR xs) (mS xs) (mA xs) (mD xs) (mT xs)), .int .i64 (outC (F7 xs))]) ∧ Below W.heap.size W w' := by
  have h0 : 0 < W.heap.size := by
    rcases Nat.eq_zero_or_pos W.heap.size with h0 | h
    · simp [World.cell?, h0] at hg
    · exact h
  have B1 : Below W.heap.size W (W.alloc (.cells #[.int .i64 0, .int .i64 0, .int .i64 0, .string ⟨#[]⟩, .string ⟨#[]⟩] 24)) := bl_al (Below.refl _ _)
  have N1 := hide (heap_at W (.cells #[.int .i64 0, .int .i64 0, .int .i64 0, .string ⟨#[]⟩, .string ⟨#[]⟩] 24) W.heap.size rfl)
  have hw := hide (whole28 v xs _ (hv.below B1) ((cellB B1 h0).trans hg))
  obtain ⟨r, s, a, d, b, e0⟩ := out_shape (F7 xs) (mR xs) (mS xs) (mA xs) (mD xs) (mT xs)
  rw [e0] at hw ⊢
  generalize outC (F7 xs) = C at *
  have HB1 := hide B1
  clear hv hg h0 e0 B1
  go_enter Tryd.func9, Tryd.ntmps9
  go_wp2_with fail
  refine (unhide hw).mono ?_
  rintro e w1 ⟨rfl, b1⟩
  have n1 : w1.heap[W.heap.size]? = some (.cells #[.int .i64 0, .int .i64 0, .int .i64 0, .string ⟨#[]⟩, .string ⟨#[]⟩] 24 (0, 0)) := (b1.block _ (Array.getElem?_eq_some_iff.1 (unhide N1)).1).trans (unhide N1)
  have p0 : w1.cell? ⟨W.heap.size, 0, none⟩ = some (.int .i64 0) := row_cell n1
  have y0 : w1.frozen? ⟨W.heap.size, 0, none⟩ = false := row_free n1
  have p1 : w1.cell? ⟨W.heap.size, 1, none⟩ = some (.int .i64 0) := row_cell n1
  have y1 : w1.frozen? ⟨W.heap.size, 1, none⟩ = false := row_free n1
  have p2 : w1.cell? ⟨W.heap.size, 2, none⟩ = some (.int .i64 0) := row_cell n1
  have y2 : w1.frozen? ⟨W.heap.size, 2, none⟩ = false := row_free n1
  have p3 : w1.cell? ⟨W.heap.size, 3, none⟩ = some (.string ⟨#[]⟩) := row_cell n1
  have y3 : w1.frozen? ⟨W.heap.size, 3, none⟩ = false := row_free n1
  have p4 : w1.cell? ⟨W.heap.size, 4, none⟩ = some (.string ⟨#[]⟩) := row_cell n1
  have y4 : w1.frozen? ⟨W.heap.size, 4, none⟩ = false := row_free n1
  have B2 := hide ((unhide HB1).trans (b1.mono (unhide HB1).size))
  have N2 := hide n1
  clear b1 n1 hw N1
  go_wp2
  refine bodyPost_ret (v := .tuple #[msgV r s a d b, .int .i64 C]) (results_tmp_row rfl _ _ W.heap.size 24 _ (0, 0) _ _ rfl rfl (row_set (i := 4) (v := .string b) (row_set (i := 3) (v := .string d) (row_set (i := 2) (v := .int .i64 a) (row_set (i := 1) (v := .int .i64 s) (row_set (i := 0) (v := .int .i64 r) (unhide N2)))))) Tryd.underlying24 rfl (by kernel_rfl)) rfl ⟨rfl, ?_⟩
  exact below_setCell (below_setCell (below_setCell (below_setCell (below_setCell (unhide B2) (Nat.le_refl _)) (Nat.le_refl _)) (Nat.le_refl _)) (Nat.le_refl _)) (Nat.le_refl _)
end Go.Proofs.YtgdohkemamlnhaaDoor
