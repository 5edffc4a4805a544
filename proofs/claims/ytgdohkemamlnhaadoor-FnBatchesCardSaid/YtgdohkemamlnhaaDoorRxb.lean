/- The program's ReadBatch. -/
import Derived.Test.YtgdohkemamlnhaaDoorRwb
import Derived.Test.YtgdohkemamlnhaaDoorRx
namespace Go.Proofs.YtgdohkemamlnhaaDoor
open Go.RowKit
set_option maxHeartbeats 4000000
set_option maxRecDepth 20000
abbrev pR (xs : List Int) : Int := ofL (takeN (st0 xs) 4)
abbrev pL (xs : List Int) : Int := ofL (takeN (bt1 (st0 xs)) 1)
abbrev pI (xs : List Int) : List ByteArray := itI (szB (st0 xs)) (bt4 (st0 xs)) (cntB (st0 xs))
abbrev pS (xs : List Int) : RS := stI (szB (st0 xs)) (bt4 (st0 xs)) (cntB (st0 xs))
/-- the fault that a whole reading ends with -/
def F8 (xs : List Int) : Option (ByteArray × Int) :=
  if btC (pR xs) (pL xs) (pI xs) ≠ 0 ∨ btL (pR xs) (pL xs) (pI xs) ≠ xs then orF (pS xs).2 ⟨#[119, 104, 111, 108, 101]⟩ 3 else (pS xs).2
theorem okF_stI (n : Nat) (st : RS) (h : okF st.2) : ∀ j, okF (stI n st j).2
  | 0 => h
  | j + 1 => okF_step (okF_stI n st h j) _ _
theorem okF_pS (xs : List Int) : okF (pS xs).2 := okF_stI _ _ (okF_step (okF_step (okF_step (okF_step (okF_f0 xs) _ _) _ _) _ _) _ _) _
theorem F8_ok (xs : List Int) : okF (F8 xs) := by
  unfold F8
  split
  · exact okF_or (okF_pS xs) _
  · exact okF_pS xs
theorem btL_isB (r l : Int) (ts : List ByteArray) : isB (btL r l ts) := by
  unfold btL
  split
  · exact bB_isB _ _ _
  · exact fun x hx => by cases hx
theorem cntB_lt (st : RS) (hB : isB st.1) : cntB st < 256 := by
  have I2 : isB (bt2 st).1 := stepN_isB (stepN_isB hB _ _) _ _
  obtain ⟨a0, a1⟩ := takeN_bd I2 1 (by omega)
  have : (256 : Int) ^ 1 = 256 := by decide
  unfold cntB
  omega
theorem itI_size (n : Nat) (st : RS) (j : Nat) : ∀ t ∈ itI n st j, t.size ≤ n := by
  intro t ht
  unfold itI at ht
  obtain ⟨i, _, rfl⟩ := List.mem_map.1 ht
  rw [strOfNums_size]
  exact takeN_len _ _
theorem szB_lt (st : RS) (hB : isB st.1) : szB st < 65536 := by
  have I3 : isB (bt3 st).1 := stepN_isB (stepN_isB (stepN_isB hB _ _) _ _) _ _
  obtain ⟨a0, a1⟩ := takeN_bd I3 2 (by omega)
  have : (256 : Int) ^ 2 = 65536 := by decide
  unfold szB
  omega
theorem whole32 (v : Value) (xs : List Int) (W : World) (hv : bytesC W v xs) (hg : W.cell? ⟨0, 0, none⟩ = some (.iface 108 (.agg #[.pointer (some ⟨1, 72, none⟩)]))) :
    Calls Tryd.prog 32 #[v, .func (.func 33) #[] #[], .func (.func 24) #[] #[]] W fun e w' => ∃ u, e = .returned (.tuple #[btV (oR (F8 xs) (pR xs)) (oR (F8 xs) (pL xs)) u, .int .i64 (outC (F8 xs))]) ∧ ownS W.heap.size w'.heap.size w' u (oT (F8 xs) (pI xs)) ∧ Below W.heap.size W w' := by
  have hB : isB xs := by obtain ⟨_, _, _, _, h, _⟩ := hv; exact h
  refine whole_bat v xs (pS xs).1 (btL (pR xs) (pL xs) (pI xs)) (pS xs).2 (F8 xs) (pR xs) (pL xs) (btC (pR xs) (pL xs) (pI xs)) (pI xs) W hv hg (fun w0 q w1 h => batch33 w0 q w1 (st0 xs) hB h) (fun w u hu => bbI _ _ u _ w hu (fun t ht => ?_) ?_) (btL_isB _ _ _) rfl (F8_ok xs)
  · have := itI_size _ _ _ t ht
    have := szB_lt (st0 xs) hB
    unfold maxLen
    omega
  · rw [itI_len]
    have := cntB_lt (st0 xs) hB
    omega
theorem read13 (v : Value) (xs : List Int) (W : World) (hv : bytesC W v xs) (hg : W.cell? ⟨0, 0, none⟩ = some (.iface 108 (.agg #[.pointer (some ⟨1, 72, none⟩)]))) :
    Calls Tryd.prog 13 #[v] W fun e w' => ∃ u, e = .returned (.tuple #[btV (oR (F8 xs) (pR xs)) (oR (F8 xs) (pL xs)) u, .int .i64 (outC (F8 xs))]) ∧ ownS W.heap.size w'.heap.size w' u (oT (F8 xs) (pI xs)) ∧ Below W.heap.size W w' := by
  have h0 : 0 < W.heap.size := by
    rcases Nat.eq_zero_or_pos W.heap.size with h0 | h
    · simp [World.cell?, h0] at hg
    · exact h
  have B1 : Below W.heap.size W (W.alloc (.cells #[.int .i64 0, .int .i64 0, .slice none 0 0] 33)) := bl_al (Below.refl _ _)
  have N1 := hide (heap_at W (.cells #[.int .i64 0, .int .i64 0, .slice none 0 0] 33) W.heap.size rfl)
  have hw := hide (whole32 v xs _ (hv.below B1) ((cellB B1 h0).trans hg))
  generalize outC (F8 xs) = C at *
  generalize oR (F8 xs) (pR xs) = r at *
  generalize oR (F8 xs) (pL xs) = l at *
  generalize oT (F8 xs) (pI xs) = ts at *
  have HB1 := hide B1
  have SZ := hide (show W.heap.size + 1 = (W.alloc (.cells #[.int .i64 0, .int .i64 0, .slice none 0 0] 33)).heap.size by simp)
  clear hv hg h0 B1
  go_enter Tryd.func13, Tryd.ntmps13
  go_wp2_with fail
  generalize W.alloc (.cells #[.int .i64 0, .int .i64 0, .slice none 0 0] 33) = w0 at *
  refine (unhide hw).mono ?_
  rintro e w1 ⟨u, rfl, u1, b1⟩
  obtain ⟨Au, nu, cu, rfl⟩ : ∃ A' n' cap', u = .slice A' n' cap' := by
    obtain ⟨A', cap', e, _⟩ := u1.strs
    exact ⟨_, _, _, e⟩
  have n1 : w1.heap[W.heap.size]? = some (.cells #[.int .i64 0, .int .i64 0, .slice none 0 0] 33 (0, 0)) := (b1.block _ (Array.getElem?_eq_some_iff.1 (unhide N1)).1).trans (unhide N1)
  have p0 : w1.cell? ⟨W.heap.size, 0, none⟩ = some (.int .i64 0) := row_cell n1
  have y0 : w1.frozen? ⟨W.heap.size, 0, none⟩ = false := row_free n1
  have p1 : w1.cell? ⟨W.heap.size, 1, none⟩ = some (.int .i64 0) := row_cell n1
  have y1 : w1.frozen? ⟨W.heap.size, 1, none⟩ = false := row_free n1
  have p2 : w1.cell? ⟨W.heap.size, 2, none⟩ = some (.slice none 0 0) := row_cell n1
  have y2 : w1.frozen? ⟨W.heap.size, 2, none⟩ = false := row_free n1
  have B2 := hide (bl_st b1 (unhide HB1))
  have N2 := hide n1
  have U1 := hide u1
  clear b1 n1 hw N1 u1
  go_wp2
  refine bodyPost_ret (v := .tuple #[btV r l (.slice Au nu cu), .int .i64 C]) (results_tmp_row rfl _ _ W.heap.size 33 _ (0, 0) _ _ rfl rfl (row_set (i := 2) (v := .slice Au nu cu) (row_set (i := 1) (v := .int .i64 l) (row_set (i := 0) (v := .int .i64 r) (unhide N2)))) Tryd.underlying33 rfl (by kernel_rfl)) rfl ⟨_, rfl, ?_, ?_⟩
  · have hs := unhide SZ
    refine ((((unhide U1).only (only_setCell W.heap.size 0 _ (.int .i64 r)) (by omega)).only (only_setCell W.heap.size 1 _ (.int .i64 l)) (by omega)).only (only_setCell W.heap.size 2 _ (.slice Au nu cu)) (by omega)).wide (by omega) ?_
    rw [size_set, size_set, size_set]
    exact Nat.le_refl _
  · exact below_setCell (below_setCell (below_setCell (unhide B2) (Nat.le_refl _)) (Nat.le_refl _)) (Nat.le_refl _)
end Go.Proofs.YtgdohkemamlnhaaDoor
