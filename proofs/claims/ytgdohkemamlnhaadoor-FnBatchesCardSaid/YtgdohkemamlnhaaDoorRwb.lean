/- The program reads a batch whole. -/
import Derived.Test.YtgdohkemamlnhaaDoorRb
import Derived.Test.YtgdohkemamlnhaaDoorBatI
namespace Go.Proofs.YtgdohkemamlnhaaDoor
open Go.RowKit
set_option maxHeartbeats 4000000
set_option maxRecDepth 20000
theorem ownS.only {q lo hi : Nat} {w w' : World} {v : Value} {ts : List ByteArray} (h : ownS lo hi w v ts) (hl : Only q w w') (hq : q < lo) : ownS lo hi w' v ts := by
  obtain h | ⟨g, cap, rest, rfl, hg, hh, hc, hcp⟩ := h
  · exact .inl h
  · exact .inr ⟨g, cap, rest, rfl, hg, hh, (hl.block g (Array.getElem?_eq_some_iff.1 hc).1 (by omega)).trans hc, hcp⟩
def oR (F : Option (ByteArray × Int)) (x : Int) : Int := match F with | none => x | some _ => 0
def oT (F : Option (ByteArray × Int)) (ts : List ByteArray) : List ByteArray := match F with | none => ts | some _ => []
theorem whole_bat (v : Value) (xs x6 L : List Int) (f6 F : Option (ByteArray × Int)) (r l C : Int) (ts : List ByteArray) (W : World) (hv : bytesC W v xs) (hg : W.cell? ⟨0, 0, none⟩ = some (.iface 108 (.agg #[.pointer (some ⟨1, 72, none⟩)])))
    (hbat : ∀ w0 q w1, Rd w0 q w1 xs (f0 xs) → Calls Tryd.prog 33 #[.pointer (some ⟨q, 0, none⟩)] w1 fun e w' => ∃ u, e = .returned (btV r l u) ∧ ownS w1.heap.size w'.heap.size w' u ts ∧ Rd w0 q w' x6 f6 ∧ Only q w1 w')
    (him : ∀ w u, strsV w u ts → Calls Tryd.prog 24 #[btV r l u] w fun e w' => ∃ v, e = .returned (.tuple #[v, .int .i64 C]) ∧ ownB w.heap.size w' v L ∧ Below w.heap.size w w')
    (hL : isB L) (hF : F = if C ≠ 0 ∨ L ≠ xs then orF f6 ⟨#[119, 104, 111, 108, 101]⟩ 3 else f6) (hok : okF F) :
    Calls Tryd.prog 32 #[v, .func (.func 33) #[] #[], .func (.func 24) #[] #[]] W fun e w' => ∃ u, e = .returned (.tuple #[btV (oR F r) (oR F l) u, .int .i64 (outC F)]) ∧ ownS W.heap.size w'.heap.size w' u (oT F ts) ∧ Below W.heap.size W w' := by
  have hB : isB xs := by obtain ⟨_, _, _, _, h, _⟩ := hv; exact h
  have h0 : 0 < W.heap.size := by
    rcases Nat.eq_zero_or_pos W.heap.size with h0 | h
    · simp [World.cell?, h0] at hg
    · exact h
  have HG : ∀ X, Below W.heap.size W X → X.cell? ⟨0, 0, none⟩ = some (.iface 108 (.agg #[.pointer (some ⟨1, 72, none⟩)])) := fun X hX => (cellB hX h0).trans hg
  have B1 : Below W.heap.size W (W.alloc (.cells #[.int .i64 0, .int .i64 0, .slice none 0 0] 33)) := bl_al (Below.refl _ _)
  have N1 := hide (heap_at W (.cells #[.int .i64 0, .int .i64 0, .slice none 0 0] 33) W.heap.size rfl)
  have hv1 := hv.below B1
  have h49 := hide (reader49 v xs _ hv1)
  have HV1 := hide hv1
  have HB := hide hB
  have HL := hide hL
  have HG' := hide HG
  have HB1 := hide B1
  have HM := hide hbat
  have HI := hide him
  have HF := hide hF
  have HO := hide hok
  clear hv hg hB HG B1 hv1 h0 hbat him hL hF hok
  generalize hE : oR F r = r' at *
  generalize hE2 : oR F l = l' at *
  generalize hE3 : outC F = C' at *
  generalize hE4 : oT F ts = ts' at *
  have HE := hide hE
  have HE2 := hide hE2
  have HE3 := hide hE3
  have HE4 := hide hE4
  clear hE hE2 hE3 hE4
  go_enter Tryd.func32, Tryd.ntmps32
  go_wp2_with fail
  generalize W.alloc (.cells #[.int .i64 0, .int .i64 0, .slice none 0 0] 33) = w0 at *
  refine (unhide h49).mono ?_
  rintro e w1 ⟨q, rfl, r1⟩
  have R1 := hide r1
  clear r1 h49
  go_wp2_with fail
  refine (unhide HM w0 q w1 (unhide R1)).mono ?_
  rintro e w2 ⟨u, rfl, u2, r2, o2⟩
  obtain ⟨Au, nu, cu, rfl⟩ : ∃ A' n' cap', u = .slice A' n' cap' := by
    obtain ⟨A', cap', e, _⟩ := u2.strs
    exact ⟨_, _, _, e⟩
  have hq := (unhide R1).le
  have hwq := (unhide HB1).size
  have hlt1 := (Array.getElem?_eq_some_iff.1 (unhide N1)).1
  have n2 : w2.heap[W.heap.size]? = some (.cells #[.int .i64 0, .int .i64 0, .slice none 0 0] 33 (0, 0)) := (o2.block _ (Nat.lt_of_lt_of_le hlt1 (unhide R1).bel.size) (by omega)).trans (((unhide R1).bel.block _ hlt1).trans (unhide N1))
  have R2 := hide r2
  have N2 := hide n2
  have B2 := hide ((unhide HB1).trans (r2.bel.mono (unhide HB1).size))
  have HQ := hide hq
  have LT0 := hide hlt1
  have QW := hide (unhide R1).lt
  have WW := hide (Nat.le_trans hwq (unhide R1).bel.size)
  have U2 := hide u2
  clear r2 n2 o2 R1 N1 hq hwq hlt1 HM u2
  have M3 := hide (heap_at w2 (.cells #[.int .i64 r, .int .i64 l, .slice Au nu cu] 33) w2.heap.size rfl)
  have R3 := hide ((unhide R2).below (bl_al (o := .cells #[.int .i64 r, .int .i64 l, .slice Au nu cu] 33) (Below.refl _ _)))
  have B3 := hide (bl_al (o := .cells #[.int .i64 r, .int .i64 l, .slice Au nu cu] 33) (unhide B2))
  have N3 := hide ((Below.heap_alloc w2 (.cells #[.int .i64 r, .int .i64 l, .slice Au nu cu] 33) W.heap.size (Array.getElem?_eq_some_iff.1 (unhide N2)).1).trans (unhide N2))
  have U3 := hide ((unhide U2).below (bl_al (o := .cells #[.int .i64 r, .int .i64 l, .slice Au nu cu] 33) (Below.refl _ _)))
  have LQ := hide (unhide R2).lt
  clear R2 B2 N2 U2
  go_wp2_with fail
  generalize hw3 : w2.alloc (.cells #[.int .i64 r, .int .i64 l, .slice Au nu cu] 33) = w3 at *
  clear hw3
  generalize hm : w2.heap.size = m at *
  clear hm
  refine (unhide HI w3 _ (unhide U3).strs).mono ?_
  rintro e w4 ⟨wv, rfl, o4, b4⟩
  have R4 := hide ((unhide R3).below b4)
  have B4 := hide ((unhide B3).trans (b4.mono (unhide B3).size))
  have N4 := hide ((b4.block _ (Array.getElem?_eq_some_iff.1 (unhide N3)).1).trans (unhide N3))
  have M4 := hide ((b4.block _ (Array.getElem?_eq_some_iff.1 (unhide M3)).1).trans (unhide M3))
  have U4 := hide ((unhide U3).below b4)
  have LM4 := hide (Nat.le_trans (Nat.le_of_lt (Array.getElem?_eq_some_iff.1 (unhide M3)).1) b4.size)
  have CA := hide o4.conv
  clear o4 b4 R3 B3 N3 M3 HI U3
  have NE : Hid (m ≠ q) := hide (fun h => by have := unhide LQ; omega)
  have CB : Hid ((convert 22 9 v).run Tryd.prog w4 = .ok (.string (strOfNums xs)) w4) := hide ((unhide HV1).below (unhide R4).bel).conv
  by_cases hbad : C ≠ 0 ∨ L ≠ xs
  · rw [if_pos hbad] at HF
    by_cases hC : C = 0
    · have hne : L ≠ xs := by
        rcases hbad with h | h
        · exact absurd hC h
        · exact h
      have hEq := hide (equal50 wv v L xs w4 (unhide CA) (unhide CB) (unhide HL) (unhide HB))
      rw [decide_eq_false hne] at hEq
      subst hC
      clear hbad hne
      go_wp2_with fail
      refine (unhide hEq).mono ?_
      rintro e w4' ⟨rfl, hw4⟩
      obtain rfl := hw4.symm
      go_wp2_with fail
      refine (fail51 w0 q w4 x6 f6 ⟨#[119, 104, 111, 108, 101]⟩ 3 (unhide R4)).mono ?_
      rintro e w5 ⟨⟨u5, rfl⟩, r5, o5⟩
      have n5 : w5.heap[W.heap.size]? = some (.cells #[.int .i64 0, .int .i64 0, .slice none 0 0] 33 (0, 0)) := (o5.block _ (Array.getElem?_eq_some_iff.1 (unhide N4)).1 (by have := unhide HQ; have := unhide LT0; omega)).trans (unhide N4)
      have m5 : w5.heap[m]? = some (.cells #[.int .i64 r, .int .i64 l, .slice Au nu cu] 33 (0, 0)) := (o5.block _ (Array.getElem?_eq_some_iff.1 (unhide M4)).1 (unhide NE)).trans (unhide M4)
      have B5 := hide (o5.below (unhide B4) (by have := unhide HQ; have := (unhide HB1).size; omega) (unhide B4).size)
      clear o5
      have hx : ∃ p c, orF f6 ⟨#[119, 104, 111, 108, 101]⟩ 3 = some (p, c) := by
        cases f6 with
        | none => exact ⟨_, _, rfl⟩
        | some x => exact ⟨x.1, x.2, rfl⟩
      obtain ⟨p, c, hx⟩ := hx
      rw [hx] at HF r5
      obtain rfl := unhide HF
      obtain ⟨v7, hr7, _⟩ := r5.row
      have c7 : w5.cell? ⟨q, 1, none⟩ = some (.iface 89 (.agg #[.string p, .iface 87 (.agg #[.int .i64 c])])) := row_cell hr7
      have N5 := hide n5
      have hc0 := unhide HO p c rfl
      have hc : (c != 0) = true := bne_iff_ne.2 hc0
      clear hc0
      have hz : 0 < w5.heap.size := by have := (Array.getElem?_eq_some_iff.1 (unhide N5)).1; omega
      have h52 := hide (fc_some p c w5 (unhide HG' w5 (unhide B5)) hz)
      clear hr7
      go_wp2_with fail
      refine (unhide h52).mono ?_
      rintro e w6 ⟨rfl, b6⟩
      have n6 : w6.heap[W.heap.size]? = some (.cells #[.int .i64 0, .int .i64 0, .slice none 0 0] 33 (0, 0)) := (b6.block _ (Array.getElem?_eq_some_iff.1 (unhide N5)).1).trans (unhide N5)
      have l6 := (Array.getElem?_eq_some_iff.1 n6).1
      have x6 : (w6.alloc (.cells #[.int .i64 0, .int .i64 0, .slice none 0 0] 33)).heap[W.heap.size]? = some (.cells #[.int .i64 0, .int .i64 0, .slice none 0 0] 33 (0, 0)) := (Below.heap_alloc w6 _ W.heap.size l6).trans n6
      have y6 : (w6.alloc (.cells #[.int .i64 0, .int .i64 0, .slice none 0 0] 33)).heap[w6.heap.size]? = some (.cells #[.int .i64 0, .int .i64 0, .slice none 0 0] 33 (0, 0)) := heap_at w6 _ _ rfl
      have p0 : (w6.alloc (.cells #[.int .i64 0, .int .i64 0, .slice none 0 0] 33)).cell? ⟨W.heap.size, 0, none⟩ = some (.int .i64 0) := row_cell x6
      have y0 : (w6.alloc (.cells #[.int .i64 0, .int .i64 0, .slice none 0 0] 33)).frozen? ⟨W.heap.size, 0, none⟩ = false := row_free x6
      have p1 : (w6.alloc (.cells #[.int .i64 0, .int .i64 0, .slice none 0 0] 33)).cell? ⟨W.heap.size, 1, none⟩ = some (.int .i64 0) := row_cell x6
      have y1 : (w6.alloc (.cells #[.int .i64 0, .int .i64 0, .slice none 0 0] 33)).frozen? ⟨W.heap.size, 1, none⟩ = false := row_free x6
      have p2 : (w6.alloc (.cells #[.int .i64 0, .int .i64 0, .slice none 0 0] 33)).cell? ⟨W.heap.size, 2, none⟩ = some (.slice none 0 0) := row_cell x6
      have y2 : (w6.alloc (.cells #[.int .i64 0, .int .i64 0, .slice none 0 0] 33)).frozen? ⟨W.heap.size, 2, none⟩ = false := row_free x6
      have z0 : (w6.alloc (.cells #[.int .i64 0, .int .i64 0, .slice none 0 0] 33)).cell? ⟨w6.heap.size, 0, none⟩ = some (.int .i64 0) := row_cell y6
      have z1 : (w6.alloc (.cells #[.int .i64 0, .int .i64 0, .slice none 0 0] 33)).cell? ⟨w6.heap.size, 1, none⟩ = some (.int .i64 0) := row_cell y6
      have z2 : (w6.alloc (.cells #[.int .i64 0, .int .i64 0, .slice none 0 0] 33)).cell? ⟨w6.heap.size, 2, none⟩ = some (.slice none 0 0) := row_cell y6
      have B6 := hide ((unhide B5).trans (b6.mono (unhide B5).size))
      have N6 := hide n6
      have L6 := hide l6
      clear b6 n6 x6 y6 l6 h52 c7
      go_wp2
      refine bodyPost_ret (v := .tuple #[btV 0 0 (.slice none 0 0), .int .i64 c]) (results_tmp_row rfl _ _ W.heap.size 33 _ (0, 0) _ _ rfl rfl (row_set (i := 2) (v := .slice none 0 0) (row_set (i := 1) (v := .int .i64 0) (row_set (i := 0) (v := .int .i64 0) ((Below.heap_alloc w6 _ W.heap.size (unhide L6)).trans (unhide N6))))) Tryd.underlying33 rfl (by kernel_rfl)) rfl ⟨.slice none 0 0, by rw [← unhide HE, ← unhide HE2, ← unhide HE3]; rfl, by rw [← unhide HE4]; exact .inl ⟨rfl, rfl⟩, ?_⟩
      exact below_setCell (below_setCell (below_setCell ((unhide B6).alloc (unhide B6).size _) (Nat.le_refl _)) (Nat.le_refl _)) (Nat.le_refl _)
    · clear hbad
      go_wp2_with fail
      refine (fail51 w0 q w4 x6 f6 ⟨#[119, 104, 111, 108, 101]⟩ 3 (unhide R4)).mono ?_
      rintro e w5 ⟨⟨u5, rfl⟩, r5, o5⟩
      have n5 : w5.heap[W.heap.size]? = some (.cells #[.int .i64 0, .int .i64 0, .slice none 0 0] 33 (0, 0)) := (o5.block _ (Array.getElem?_eq_some_iff.1 (unhide N4)).1 (by have := unhide HQ; have := unhide LT0; omega)).trans (unhide N4)
      have m5 : w5.heap[m]? = some (.cells #[.int .i64 r, .int .i64 l, .slice Au nu cu] 33 (0, 0)) := (o5.block _ (Array.getElem?_eq_some_iff.1 (unhide M4)).1 (unhide NE)).trans (unhide M4)
      have B5 := hide (o5.below (unhide B4) (by have := unhide HQ; have := (unhide HB1).size; omega) (unhide B4).size)
      clear o5
      have hx : ∃ p c, orF f6 ⟨#[119, 104, 111, 108, 101]⟩ 3 = some (p, c) := by
        cases f6 with
        | none => exact ⟨_, _, rfl⟩
        | some x => exact ⟨x.1, x.2, rfl⟩
      obtain ⟨p, c, hx⟩ := hx
      rw [hx] at HF r5
      obtain rfl := unhide HF
      obtain ⟨v7, hr7, _⟩ := r5.row
      have c7 : w5.cell? ⟨q, 1, none⟩ = some (.iface 89 (.agg #[.string p, .iface 87 (.agg #[.int .i64 c])])) := row_cell hr7
      have N5 := hide n5
      have hc0 := unhide HO p c rfl
      have hc : (c != 0) = true := bne_iff_ne.2 hc0
      clear hc0
      have hz : 0 < w5.heap.size := by have := (Array.getElem?_eq_some_iff.1 (unhide N5)).1; omega
      have h52 := hide (fc_some p c w5 (unhide HG' w5 (unhide B5)) hz)
      clear hr7
      go_wp2_with fail
      refine (unhide h52).mono ?_
      rintro e w6 ⟨rfl, b6⟩
      have n6 : w6.heap[W.heap.size]? = some (.cells #[.int .i64 0, .int .i64 0, .slice none 0 0] 33 (0, 0)) := (b6.block _ (Array.getElem?_eq_some_iff.1 (unhide N5)).1).trans (unhide N5)
      have l6 := (Array.getElem?_eq_some_iff.1 n6).1
      have x6 : (w6.alloc (.cells #[.int .i64 0, .int .i64 0, .slice none 0 0] 33)).heap[W.heap.size]? = some (.cells #[.int .i64 0, .int .i64 0, .slice none 0 0] 33 (0, 0)) := (Below.heap_alloc w6 _ W.heap.size l6).trans n6
      have y6 : (w6.alloc (.cells #[.int .i64 0, .int .i64 0, .slice none 0 0] 33)).heap[w6.heap.size]? = some (.cells #[.int .i64 0, .int .i64 0, .slice none 0 0] 33 (0, 0)) := heap_at w6 _ _ rfl
      have p0 : (w6.alloc (.cells #[.int .i64 0, .int .i64 0, .slice none 0 0] 33)).cell? ⟨W.heap.size, 0, none⟩ = some (.int .i64 0) := row_cell x6
      have y0 : (w6.alloc (.cells #[.int .i64 0, .int .i64 0, .slice none 0 0] 33)).frozen? ⟨W.heap.size, 0, none⟩ = false := row_free x6
      have p1 : (w6.alloc (.cells #[.int .i64 0, .int .i64 0, .slice none 0 0] 33)).cell? ⟨W.heap.size, 1, none⟩ = some (.int .i64 0) := row_cell x6
      have y1 : (w6.alloc (.cells #[.int .i64 0, .int .i64 0, .slice none 0 0] 33)).frozen? ⟨W.heap.size, 1, none⟩ = false := row_free x6
      have p2 : (w6.alloc (.cells #[.int .i64 0, .int .i64 0, .slice none 0 0] 33)).cell? ⟨W.heap.size, 2, none⟩ = some (.slice none 0 0) := row_cell x6
      have y2 : (w6.alloc (.cells #[.int .i64 0, .int .i64 0, .slice none 0 0] 33)).frozen? ⟨W.heap.size, 2, none⟩ = false := row_free x6
      have z0 : (w6.alloc (.cells #[.int .i64 0, .int .i64 0, .slice none 0 0] 33)).cell? ⟨w6.heap.size, 0, none⟩ = some (.int .i64 0) := row_cell y6
      have z1 : (w6.alloc (.cells #[.int .i64 0, .int .i64 0, .slice none 0 0] 33)).cell? ⟨w6.heap.size, 1, none⟩ = some (.int .i64 0) := row_cell y6
      have z2 : (w6.alloc (.cells #[.int .i64 0, .int .i64 0, .slice none 0 0] 33)).cell? ⟨w6.heap.size, 2, none⟩ = some (.slice none 0 0) := row_cell y6
      have B6 := hide ((unhide B5).trans (b6.mono (unhide B5).size))
      have N6 := hide n6
      have L6 := hide l6
      clear b6 n6 x6 y6 l6 h52 c7
      go_wp2
      refine bodyPost_ret (v := .tuple #[btV 0 0 (.slice none 0 0), .int .i64 c]) (results_tmp_row rfl _ _ W.heap.size 33 _ (0, 0) _ _ rfl rfl (row_set (i := 2) (v := .slice none 0 0) (row_set (i := 1) (v := .int .i64 0) (row_set (i := 0) (v := .int .i64 0) ((Below.heap_alloc w6 _ W.heap.size (unhide L6)).trans (unhide N6))))) Tryd.underlying33 rfl (by kernel_rfl)) rfl ⟨.slice none 0 0, by rw [← unhide HE, ← unhide HE2, ← unhide HE3]; rfl, by rw [← unhide HE4]; exact .inl ⟨rfl, rfl⟩, ?_⟩
      exact below_setCell (below_setCell (below_setCell ((unhide B6).alloc (unhide B6).size _) (Nat.le_refl _)) (Nat.le_refl _)) (Nat.le_refl _)
  · rw [if_neg hbad] at HF
    have hC : C = 0 := by
      rcases Classical.em (C = 0) with h | h
      · exact h
      · exact absurd (.inl h) hbad
    have heq : L = xs := by
      rcases Classical.em (L = xs) with h | h
      · exact h
      · exact absurd (.inr h) hbad
    have hEq := hide (equal50 wv v L xs w4 (unhide CA) (unhide CB) (unhide HL) (unhide HB))
    rw [decide_eq_true heq] at hEq
    subst hC
    clear hbad heq
    obtain rfl := unhide HF
    go_wp2_with fail
    refine (unhide hEq).mono ?_
    rintro e w4' ⟨rfl, hw4⟩
    obtain rfl := hw4.symm
    have r5 := unhide R4
    cases F with
    | none =>
      obtain ⟨v7, hr7, _⟩ := r5.row
      have c7 : w4.cell? ⟨q, 1, none⟩ = some .nilIface := row_cell hr7
      clear hr7
      go_wp2_with fail
      refine (fc_none w4).mono ?_
      rintro e w6 ⟨rfl, b6⟩
      have n6 : w6.heap[W.heap.size]? = some (.cells #[.int .i64 0, .int .i64 0, .slice none 0 0] 33 (0, 0)) := (b6.block _ (Array.getElem?_eq_some_iff.1 (unhide N4)).1).trans (unhide N4)
      have m6 : w6.heap[m]? = some (.cells #[.int .i64 r, .int .i64 l, .slice Au nu cu] 33 (0, 0)) := (b6.block _ (Array.getElem?_eq_some_iff.1 (unhide M4)).1).trans (unhide M4)
      have p0 : w6.cell? ⟨W.heap.size, 0, none⟩ = some (.int .i64 0) := row_cell n6
      have y0 : w6.frozen? ⟨W.heap.size, 0, none⟩ = false := row_free n6
      have p1 : w6.cell? ⟨W.heap.size, 1, none⟩ = some (.int .i64 0) := row_cell n6
      have y1 : w6.frozen? ⟨W.heap.size, 1, none⟩ = false := row_free n6
      have p2 : w6.cell? ⟨W.heap.size, 2, none⟩ = some (.slice none 0 0) := row_cell n6
      have y2 : w6.frozen? ⟨W.heap.size, 2, none⟩ = false := row_free n6
      have g0 : w6.cell? ⟨m, 0, none⟩ = some (.int .i64 r) := row_cell m6
      have g1 : w6.cell? ⟨m, 1, none⟩ = some (.int .i64 l) := row_cell m6
      have g2 : w6.cell? ⟨m, 2, none⟩ = some (.slice Au nu cu) := row_cell m6
      have B6 := hide ((unhide B4).trans (b6.mono (unhide B4).size))
      have N6 := hide n6
      have U6 := hide ((unhide U4).below b6)
      have L6 := hide b6.size
      clear b6 n6 m6
      go_wp2
      refine bodyPost_ret (v := .tuple #[btV r l (.slice Au nu cu), .int .i64 0]) (results_tmp_row rfl _ _ W.heap.size 33 _ (0, 0) _ _ rfl rfl (row_set (i := 2) (v := .slice Au nu cu) (row_set (i := 1) (v := .int .i64 l) (row_set (i := 0) (v := .int .i64 r) (unhide N6)))) Tryd.underlying33 rfl (by kernel_rfl)) rfl ⟨.slice Au nu cu, by rw [← unhide HE, ← unhide HE2, ← unhide HE3]; rfl, ?_, ?_⟩
      · rw [← unhide HE4]
        have hq := unhide HQ
        have hw := unhide LT0
        have hqw := unhide QW
        refine ((((unhide U6).only (only_setCell W.heap.size 0 _ (.int .i64 r)) (by omega)).only (only_setCell W.heap.size 1 _ (.int .i64 l)) (by omega)).only (only_setCell W.heap.size 2 _ (.slice Au nu cu)) (by omega)).wide (unhide WW) ?_
        rw [size_set, size_set, size_set]
        exact Nat.le_trans (unhide LM4) (unhide L6)
      · exact below_setCell (below_setCell (below_setCell (unhide B6) (Nat.le_refl _)) (Nat.le_refl _)) (Nat.le_refl _)
    | some x =>
      obtain ⟨p, c⟩ := x
      obtain ⟨v7, hr7, _⟩ := r5.row
      have c7 : w4.cell? ⟨q, 1, none⟩ = some (.iface 89 (.agg #[.string p, .iface 87 (.agg #[.int .i64 c])])) := row_cell hr7
      have hc0 := unhide HO p c rfl
      have hc : (c != 0) = true := bne_iff_ne.2 hc0
      clear hc0
      have hz : 0 < w4.heap.size := by have := (Array.getElem?_eq_some_iff.1 (unhide N4)).1; omega
      have h52 := hide (fc_some p c w4 (unhide HG' w4 (unhide B4)) hz)
      clear hr7
      go_wp2_with fail
      refine (unhide h52).mono ?_
      rintro e w6 ⟨rfl, b6⟩
      have n6 : w6.heap[W.heap.size]? = some (.cells #[.int .i64 0, .int .i64 0, .slice none 0 0] 33 (0, 0)) := (b6.block _ (Array.getElem?_eq_some_iff.1 (unhide N4)).1).trans (unhide N4)
      have l6 := (Array.getElem?_eq_some_iff.1 n6).1
      have x6 : (w6.alloc (.cells #[.int .i64 0, .int .i64 0, .slice none 0 0] 33)).heap[W.heap.size]? = some (.cells #[.int .i64 0, .int .i64 0, .slice none 0 0] 33 (0, 0)) := (Below.heap_alloc w6 _ W.heap.size l6).trans n6
      have y6 : (w6.alloc (.cells #[.int .i64 0, .int .i64 0, .slice none 0 0] 33)).heap[w6.heap.size]? = some (.cells #[.int .i64 0, .int .i64 0, .slice none 0 0] 33 (0, 0)) := heap_at w6 _ _ rfl
      have p0 : (w6.alloc (.cells #[.int .i64 0, .int .i64 0, .slice none 0 0] 33)).cell? ⟨W.heap.size, 0, none⟩ = some (.int .i64 0) := row_cell x6
      have y0 : (w6.alloc (.cells #[.int .i64 0, .int .i64 0, .slice none 0 0] 33)).frozen? ⟨W.heap.size, 0, none⟩ = false := row_free x6
      have p1 : (w6.alloc (.cells #[.int .i64 0, .int .i64 0, .slice none 0 0] 33)).cell? ⟨W.heap.size, 1, none⟩ = some (.int .i64 0) := row_cell x6
      have y1 : (w6.alloc (.cells #[.int .i64 0, .int .i64 0, .slice none 0 0] 33)).frozen? ⟨W.heap.size, 1, none⟩ = false := row_free x6
      have p2 : (w6.alloc (.cells #[.int .i64 0, .int .i64 0, .slice none 0 0] 33)).cell? ⟨W.heap.size, 2, none⟩ = some (.slice none 0 0) := row_cell x6
      have y2 : (w6.alloc (.cells #[.int .i64 0, .int .i64 0, .slice none 0 0] 33)).frozen? ⟨W.heap.size, 2, none⟩ = false := row_free x6
      have z0 : (w6.alloc (.cells #[.int .i64 0, .int .i64 0, .slice none 0 0] 33)).cell? ⟨w6.heap.size, 0, none⟩ = some (.int .i64 0) := row_cell y6
      have z1 : (w6.alloc (.cells #[.int .i64 0, .int .i64 0, .slice none 0 0] 33)).cell? ⟨w6.heap.size, 1, none⟩ = some (.int .i64 0) := row_cell y6
      have z2 : (w6.alloc (.cells #[.int .i64 0, .int .i64 0, .slice none 0 0] 33)).cell? ⟨w6.heap.size, 2, none⟩ = some (.slice none 0 0) := row_cell y6
      have B6 := hide ((unhide B4).trans (b6.mono (unhide B4).size))
      have N6 := hide n6
      have L6 := hide l6
      clear b6 n6 x6 y6 l6 h52 c7
      go_wp2
      refine bodyPost_ret (v := .tuple #[btV 0 0 (.slice none 0 0), .int .i64 c]) (results_tmp_row rfl _ _ W.heap.size 33 _ (0, 0) _ _ rfl rfl (row_set (i := 2) (v := .slice none 0 0) (row_set (i := 1) (v := .int .i64 0) (row_set (i := 0) (v := .int .i64 0) ((Below.heap_alloc w6 _ W.heap.size (unhide L6)).trans (unhide N6))))) Tryd.underlying33 rfl (by kernel_rfl)) rfl ⟨.slice none 0 0, by rw [← unhide HE, ← unhide HE2, ← unhide HE3]; rfl, by rw [← unhide HE4]; exact .inl ⟨rfl, rfl⟩, ?_⟩
      exact below_setCell (below_setCell (below_setCell ((unhide B6).alloc (unhide B6).size _) (Nat.le_refl _)) (Nat.le_refl _)) (Nat.le_refl _)
end Go.Proofs.YtgdohkemamlnhaaDoor
