/- ReadMessage of the program. -/
import Derived.Test.YtgdohkemamlnhaaDoorRo
import Derived.Test.YtgdohkemamlnhaaDoorMbi
import Derived.Laws.ResultCell
namespace Go.Proofs.YtgdohkemamlnhaaDoor
open Go.RowKit
set_option maxHeartbeats 4000000
set_option maxRecDepth 20000
/-- the beginning of a reader -/
abbrev st0 (xs : List Int) : RS := (xs, f0 xs)
abbrev mR (xs : List Int) : Int := ofL (takeN (st0 xs) 4)
abbrev mS (xs : List Int) : Int := ofL (takeN (s1 (st0 xs)) 2)
abbrev mA (xs : List Int) : Int := ofL (takeN (s2 (st0 xs)) 2)
abbrev mD (xs : List Int) : ByteArray := strOfNums (takeN (s3 (st0 xs)) 8)
abbrev mT (xs : List Int) : ByteArray := strOfNums (takeN (s5 (st0 xs)) (kOf (st0 xs)))
abbrev zeroM : Value := msgV 0 0 0 ⟨#[]⟩ ⟨#[]⟩
/-- the codes of faults -/
def okF (f : Option (ByteArray × Int)) : Prop := ∀ p c, f = some (p, c) → c ≠ 0
theorem okF_step {st : RS} (h : okF st.2) (p : ByteArray) (n : Nat) : okF (stepN st p n).2 := by
  obtain ⟨xs, f⟩ := st
  cases f with
  | some x => exact h
  | none =>
    by_cases hn : n ≤ xs.length
    · simp only [stepN, if_pos hn]; exact h
    · simp only [stepN, if_neg hn]
      intro p' c' e
      simp only [Option.some.injEq, Prod.mk.injEq] at e
      omega
theorem okF_f0 (xs : List Int) : okF (f0 xs) := by
  intro p c e
  unfold f0 at e
  by_cases h : 65536 < xs.length
  · rw [if_pos h] at e
    simp only [Option.some.injEq, Prod.mk.injEq] at e
    omega
  · rw [if_neg h] at e
    cases e
theorem okF_s6 (xs : List Int) : okF (s6 (st0 xs)).2 := okF_step (okF_step (okF_step (okF_step (okF_step (okF_step (okF_f0 xs) _ _) _ _) _ _) _ _) _ _) _ _
theorem okF_or {f : Option (ByteArray × Int)} (h : okF f) (p : ByteArray) : okF (orF f p 3) := by
  cases f with
  | some x => exact h
  | none =>
    intro p' c' e
    simp only [orF, Option.some.injEq, Prod.mk.injEq] at e
    omega
def outM (F : Option (ByteArray × Int)) (m : Value) : Value := match F with | none => m | some _ => zeroM
def outC (F : Option (ByteArray × Int)) : Int := match F with | none => 0 | some (_, c) => c
theorem fcode (f : Option (ByteArray × Int)) (W : World) (hg : W.cell? ⟨0, 0, none⟩ = some (.iface 108 (.agg #[.pointer (some ⟨1, 72, none⟩)]))) :
    Calls Tryd.prog 52 #[faultV f] W fun e w' => e = .returned (.int .i64 (outC f)) ∧ Below W.heap.size W w' := by
  have h0 : 0 < W.heap.size := by
    rcases Nat.eq_zero_or_pos W.heap.size with h0 | h
    · simp [World.cell?, h0] at hg
    · exact h
  cases f with
  | none => exact fc_none W
  | some x => exact fc_some x.1 x.2 W hg h0
theorem results_tmp_row {P : Program} {fn : Func} {p u : Tmp} {ty : TypeId} (h : fn.results = #[.cell p ty, .tmp u]) (tmps : Array Value) (w : World) (g : Nat) (t : TypeId) (cs : Array Value) (fr : Nat × Nat) (d : TypeDesc) (x : Value)
    (hp : tmps.getD p undef = .pointer (some ⟨g, 0, none⟩)) (hx : tmps.getD u undef = x) (hg : w.heap[g]? = some (.cells cs t fr))
    (hu : P.underlying ty = some d) (hd : (match d with | .struct _ | .array _ _ => true | _ => false) = true) (hi : (P.info? ty).map (·.size) = some cs.size) :
    (results fn tmps).run P w = .ok (.tuple #[.agg cs, x]) w := by
  rw [results_cell_tmp h, hp, hx]
  simp [asAddr, run_loadVar_row w g t ty cs fr d hg hu hd hi]
theorem whole_gen (v : Value) (xs x6 L : List Int) (f6 F : Option (ByteArray × Int)) (r s a C : Int) (d b : ByteArray) (W : World) (hv : bytesC W v xs) (hg : W.cell? ⟨0, 0, none⟩ = some (.iface 108 (.agg #[.pointer (some ⟨1, 72, none⟩)])))
    (hmsg : ∀ w0 q w1, Rd w0 q w1 xs (f0 xs) → Calls Tryd.prog 29 #[.pointer (some ⟨q, 0, none⟩)] w1 fun e w' => e = .returned (msgV r s a d b) ∧ Rd w0 q w' x6 f6 ∧ Only q w1 w')
    (him : ∀ w, Calls Tryd.prog 19 #[msgV r s a d b] w fun e w' => ∃ v, e = .returned (.tuple #[v, .int .i64 C]) ∧ ownB w.heap.size w' v L ∧ Below w.heap.size w w')
    (hL : isB L) (hF : F = if C ≠ 0 ∨ L ≠ xs then orF f6 ⟨#[119, 104, 111, 108, 101]⟩ 3 else f6) (hok : okF F) :
    Calls Tryd.prog 28 #[v, .func (.func 29) #[] #[], .func (.func 19) #[] #[]] W fun e w' => e = .returned (.tuple #[outM F (msgV r s a d b), .int .i64 (outC F)]) ∧ Below W.heap.size W w' := by
  have hB : isB xs := by obtain ⟨_, _, _, _, h, _⟩ := hv; exact h
  have h0 : 0 < W.heap.size := by
    rcases Nat.eq_zero_or_pos W.heap.size with h0 | h
    · simp [World.cell?, h0] at hg
    · exact h
  have HG : ∀ X, Below W.heap.size W X → X.cell? ⟨0, 0, none⟩ = some (.iface 108 (.agg #[.pointer (some ⟨1, 72, none⟩)])) := fun X hX => (cellB hX h0).trans hg
  have B1 : Below W.heap.size W (W.alloc (.cells #[.int .i64 0, .int .i64 0, .int .i64 0, .string ⟨#[]⟩, .string ⟨#[]⟩] 24)) := bl_al (Below.refl _ _)
  have N1 := hide (heap_at W (.cells #[.int .i64 0, .int .i64 0, .int .i64 0, .string ⟨#[]⟩, .string ⟨#[]⟩] 24) W.heap.size rfl)
  have hv1 := hv.below B1
  have h49 := hide (reader49 v xs _ hv1)
  have HV1 := hide hv1
  have HB := hide hB
  have HL := hide hL
  have HG' := hide HG
  have HB1 := hide B1
  have HM := hide hmsg
  have HI := hide him
  have HF := hide hF
  have HO := hide hok
  clear hv hg hB HG B1 hv1 h0 hmsg him hL hF hok
  generalize hE : (.tuple #[outM F (msgV r s a d b), .int .i64 (outC F)] : Value) = EV
  have HE := hide hE
  clear hE
  go_enter Tryd.func28, Tryd.ntmps28
  go_wp2_with fail
  generalize W.alloc (.cells #[.int .i64 0, .int .i64 0, .int .i64 0, .string ⟨#[]⟩, .string ⟨#[]⟩] 24) = w0 at *
  refine (unhide h49).mono ?_
  rintro e w1 ⟨q, rfl, r1⟩
  have R1 := hide r1
  clear r1 h49
  go_wp2_with fail
  refine (unhide HM w0 q w1 (unhide R1)).mono ?_
  rintro e w2 ⟨rfl, r2, o2⟩
  have hq := (unhide R1).le
  have hwq := (unhide HB1).size
  have hlt1 := (Array.getElem?_eq_some_iff.1 (unhide N1)).1
  have n2 : w2.heap[W.heap.size]? = some (.cells #[.int .i64 0, .int .i64 0, .int .i64 0, .string ⟨#[]⟩, .string ⟨#[]⟩] 24 (0, 0)) := (o2.block _ (Nat.lt_of_lt_of_le hlt1 (unhide R1).bel.size) (by omega)).trans (((unhide R1).bel.block _ hlt1).trans (unhide N1))
  have R2 := hide r2
  have N2 := hide n2
  have B2 := hide ((unhide HB1).trans (r2.bel.mono (unhide HB1).size))
  have HQ := hide hq
  have LT0 := hide hlt1
  clear r2 n2 o2 R1 N1 hq hwq hlt1 HM
  have M3 := hide (heap_at w2 (.cells #[.int .i64 r, .int .i64 s, .int .i64 a, .string d, .string b] 24) w2.heap.size rfl)
  have R3 := hide ((unhide R2).below (bl_al (o := .cells #[.int .i64 r, .int .i64 s, .int .i64 a, .string d, .string b] 24) (Below.refl _ _)))
  have B3 := hide (bl_al (o := .cells #[.int .i64 r, .int .i64 s, .int .i64 a, .string d, .string b] 24) (unhide B2))
  have N3 := hide ((Below.heap_alloc w2 (.cells #[.int .i64 r, .int .i64 s, .int .i64 a, .string d, .string b] 24) W.heap.size (Array.getElem?_eq_some_iff.1 (unhide N2)).1).trans (unhide N2))
  have LQ := hide (unhide R2).lt
  clear R2 B2 N2
  go_wp2_with fail
  generalize hw3 : w2.alloc (.cells #[.int .i64 r, .int .i64 s, .int .i64 a, .string d, .string b] 24) = w3 at *
  clear hw3
  generalize hm : w2.heap.size = m at *
  clear hm
  refine (unhide HI w3).mono ?_
  rintro e w4 ⟨wv, rfl, o4, b4⟩
  have R4 := hide ((unhide R3).below b4)
  have B4 := hide ((unhide B3).trans (b4.mono (unhide B3).size))
  have N4 := hide ((b4.block _ (Array.getElem?_eq_some_iff.1 (unhide N3)).1).trans (unhide N3))
  have M4 := hide ((b4.block _ (Array.getElem?_eq_some_iff.1 (unhide M3)).1).trans (unhide M3))
  have CA := hide o4.conv
  clear o4 b4 R3 B3 N3 M3 HI
  have NE : Hid (m ≠ q) := hide (fun h => by have := unhide LQ; omega)
  have CB : Hid ((convert 22 9 v).run Tryd.prog w4 = .ok (.string (strOfNums xs)) w4) := hide ((unhide HV1).below (unhide R4).bel).conv
  by_cases hbad : C ≠ 0 ∨ L ≠ xs
  · rw [if_pos hbad] at HF
    by_cases hC : C = 0
    · have hne : L ≠ xs := by
        rcases hbad with h | h
        · exact absurd hC h
        · exact h
      have hEq := hide (equal50 wv v L xs w4 (unhide CA) (unhide CB) (unhide HL) (unhide HB))
      rw [decide_eq_false hne] at hEq
      subst hC
      clear hbad hne
      go_wp2_with fail
      refine (unhide hEq).mono ?_
      rintro e w4' ⟨rfl, hw4⟩
      obtain rfl := hw4.symm
      go_wp2_with fail
      refine (fail51 w0 q w4 x6 f6 ⟨#[119, 104, 111, 108, 101]⟩ 3 (unhide R4)).mono ?_
      rintro e w5 ⟨⟨u5, rfl⟩, r5, o5⟩
      have n5 : w5.heap[W.heap.size]? = some (.cells #[.int .i64 0, .int .i64 0, .int .i64 0, .string ⟨#[]⟩, .string ⟨#[]⟩] 24 (0, 0)) := (o5.block _ (Array.getElem?_eq_some_iff.1 (unhide N4)).1 (by have := unhide HQ; have := unhide LT0; omega)).trans (unhide N4)
      have m5 : w5.heap[m]? = some (.cells #[.int .i64 r, .int .i64 s, .int .i64 a, .string d, .string b] 24 (0, 0)) := (o5.block _ (Array.getElem?_eq_some_iff.1 (unhide M4)).1 (unhide NE)).trans (unhide M4)
      have B5 := hide (o5.below (unhide B4) (by have := unhide HQ; have := (unhide HB1).size; omega) (unhide B4).size)
      clear o5
      have hx : ∃ p c, orF f6 ⟨#[119, 104, 111, 108, 101]⟩ 3 = some (p, c) := by
        cases f6 with
        | none => exact ⟨_, _, rfl⟩
        | some x => exact ⟨x.1, x.2, rfl⟩
      obtain ⟨p, c, hx⟩ := hx
      rw [hx] at HF r5
      obtain rfl := unhide HF
      obtain ⟨v7, hr7, _⟩ := r5.row
      have c7 : w5.cell? ⟨q, 1, none⟩ = some (.iface 89 (.agg #[.string p, .iface 87 (.agg #[.int .i64 c])])) := row_cell hr7
      have hc0 := unhide HO p c rfl
      have hc : (c != 0) = true := bne_iff_ne.2 hc0
      clear hc0
      have N5 := hide n5
      have hz : 0 < w5.heap.size := by have := (Array.getElem?_eq_some_iff.1 (unhide N5)).1; omega
      have h52 := hide (fc_some p c w5 (unhide HG' w5 (unhide B5)) hz)
      clear hr7
      go_wp2_with fail
      refine (unhide h52).mono ?_
      rintro e w6 ⟨rfl, b6⟩
      have n6 : w6.heap[W.heap.size]? = some (.cells #[.int .i64 0, .int .i64 0, .int .i64 0, .string ⟨#[]⟩, .string ⟨#[]⟩] 24 (0, 0)) := (b6.block _ (Array.getElem?_eq_some_iff.1 (unhide N5)).1).trans (unhide N5)
      have l6 := (Array.getElem?_eq_some_iff.1 n6).1
      have x6 : (w6.alloc (.cells #[.int .i64 0, .int .i64 0, .int .i64 0, .string ⟨#[]⟩, .string ⟨#[]⟩] 24)).heap[W.heap.size]? = some (.cells #[.int .i64 0, .int .i64 0, .int .i64 0, .string ⟨#[]⟩, .string ⟨#[]⟩] 24 (0, 0)) := (Below.heap_alloc w6 _ W.heap.size l6).trans n6
      have y6 : (w6.alloc (.cells #[.int .i64 0, .int .i64 0, .int .i64 0, .string ⟨#[]⟩, .string ⟨#[]⟩] 24)).heap[w6.heap.size]? = some (.cells #[.int .i64 0, .int .i64 0, .int .i64 0, .string ⟨#[]⟩, .string ⟨#[]⟩] 24 (0, 0)) := heap_at w6 _ _ rfl
      have p0 : (w6.alloc (.cells #[.int .i64 0, .int .i64 0, .int .i64 0, .string ⟨#[]⟩, .string ⟨#[]⟩] 24)).cell? ⟨W.heap.size, 0, none⟩ = some (.int .i64 0) := row_cell x6
      have y0 : (w6.alloc (.cells #[.int .i64 0, .int .i64 0, .int .i64 0, .string ⟨#[]⟩, .string ⟨#[]⟩] 24)).frozen? ⟨W.heap.size, 0, none⟩ = false := row_free x6
      have z0 : (w6.alloc (.cells #[.int .i64 0, .int .i64 0, .int .i64 0, .string ⟨#[]⟩, .string ⟨#[]⟩] 24)).cell? ⟨w6.heap.size, 0, none⟩ = some (.int .i64 0) := row_cell y6
      have p1 : (w6.alloc (.cells #[.int .i64 0, .int .i64 0, .int .i64 0, .string ⟨#[]⟩, .string ⟨#[]⟩] 24)).cell? ⟨W.heap.size, 1, none⟩ = some (.int .i64 0) := row_cell x6
      have y1 : (w6.alloc (.cells #[.int .i64 0, .int .i64 0, .int .i64 0, .string ⟨#[]⟩, .string ⟨#[]⟩] 24)).frozen? ⟨W.heap.size, 1, none⟩ = false := row_free x6
      have z1 : (w6.alloc (.cells #[.int .i64 0, .int .i64 0, .int .i64 0, .string ⟨#[]⟩, .string ⟨#[]⟩] 24)).cell? ⟨w6.heap.size, 1, none⟩ = some (.int .i64 0) := row_cell y6
      have p2 : (w6.alloc (.cells #[.int .i64 0, .int .i64 0, .int .i64 0, .string ⟨#[]⟩, .string ⟨#[]⟩] 24)).cell? ⟨W.heap.size, 2, none⟩ = some (.int .i64 0) := row_cell x6
      have y2 : (w6.alloc (.cells #[.int .i64 0, .int .i64 0, .int .i64 0, .string ⟨#[]⟩, .string ⟨#[]⟩] 24)).frozen? ⟨W.heap.size, 2, none⟩ = false := row_free x6
      have z2 : (w6.alloc (.cells #[.int .i64 0, .int .i64 0, .int .i64 0, .string ⟨#[]⟩, .string ⟨#[]⟩] 24)).cell? ⟨w6.heap.size, 2, none⟩ = some (.int .i64 0) := row_cell y6
      have p3 : (w6.alloc (.cells #[.int .i64 0, .int .i64 0, .int .i64 0, .string ⟨#[]⟩, .string ⟨#[]⟩] 24)).cell? ⟨W.heap.size, 3, none⟩ = some (.string ⟨#[]⟩) := row_cell x6
      have y3 : (w6.alloc (.cells #[.int .i64 0, .int .i64 0, .int .i64 0, .string ⟨#[]⟩, .string ⟨#[]⟩] 24)).frozen? ⟨W.heap.size, 3, none⟩ = false := row_free x6
      have z3 : (w6.alloc (.cells #[.int .i64 0, .int .i64 0, .int .i64 0, .string ⟨#[]⟩, .string ⟨#[]⟩] 24)).cell? ⟨w6.heap.size, 3, none⟩ = some (.string ⟨#[]⟩) := row_cell y6
      have p4 : (w6.alloc (.cells #[.int .i64 0, .int .i64 0, .int .i64 0, .string ⟨#[]⟩, .string ⟨#[]⟩] 24)).cell? ⟨W.heap.size, 4, none⟩ = some (.string ⟨#[]⟩) := row_cell x6
      have y4 : (w6.alloc (.cells #[.int .i64 0, .int .i64 0, .int .i64 0, .string ⟨#[]⟩, .string ⟨#[]⟩] 24)).frozen? ⟨W.heap.size, 4, none⟩ = false := row_free x6
      have z4 : (w6.alloc (.cells #[.int .i64 0, .int .i64 0, .int .i64 0, .string ⟨#[]⟩, .string ⟨#[]⟩] 24)).cell? ⟨w6.heap.size, 4, none⟩ = some (.string ⟨#[]⟩) := row_cell y6
      have B6 := hide ((unhide B5).trans (b6.mono (unhide B5).size))
      have N6 := hide n6
      have L6 := hide l6
      clear b6 n6 x6 y6 l6 h52 c7
      go_wp2
      refine bodyPost_ret (v := .tuple #[zeroM, .int .i64 c]) (results_tmp_row rfl _ _ W.heap.size 24 _ (0, 0) _ _ rfl rfl (row_set (i := 4) (v := .string ⟨#[]⟩) (row_set (i := 3) (v := .string ⟨#[]⟩) (row_set (i := 2) (v := .int .i64 0) (row_set (i := 1) (v := .int .i64 0) (row_set (i := 0) (v := .int .i64 0) ((Below.heap_alloc w6 _ W.heap.size (unhide L6)).trans (unhide N6))))))) Tryd.underlying24 rfl (by kernel_rfl)) rfl ⟨by rw [← unhide HE]; rfl, ?_⟩
      exact below_setCell (below_setCell (below_setCell (below_setCell (below_setCell ((unhide B6).alloc (unhide B6).size _) (Nat.le_refl _)) (Nat.le_refl _)) (Nat.le_refl _)) (Nat.le_refl _)) (Nat.le_refl _)
    · clear hbad
      go_wp2_with fail
      refine (fail51 w0 q w4 x6 f6 ⟨#[119, 104, 111, 108, 101]⟩ 3 (unhide R4)).mono ?_
      rintro e w5 ⟨⟨u5, rfl⟩, r5, o5⟩
      have n5 : w5.heap[W.heap.size]? = some (.cells #[.int .i64 0, .int .i64 0, .int .i64 0, .string ⟨#[]⟩, .string ⟨#[]⟩] 24 (0, 0)) := (o5.block _ (Array.getElem?_eq_some_iff.1 (unhide N4)).1 (by have := unhide HQ; have := unhide LT0; omega)).trans (unhide N4)
      have m5 : w5.heap[m]? = some (.cells #[.int .i64 r, .int .i64 s, .int .i64 a, .string d, .string b] 24 (0, 0)) := (o5.block _ (Array.getElem?_eq_some_iff.1 (unhide M4)).1 (unhide NE)).trans (unhide M4)
      have B5 := hide (o5.below (unhide B4) (by have := unhide HQ; have := (unhide HB1).size; omega) (unhide B4).size)
      clear o5
      have hx : ∃ p c, orF f6 ⟨#[119, 104, 111, 108, 101]⟩ 3 = some (p, c) := by
        cases f6 with
        | none => exact ⟨_, _, rfl⟩
        | some x => exact ⟨x.1, x.2, rfl⟩
      obtain ⟨p, c, hx⟩ := hx
      rw [hx] at HF r5
      obtain rfl := unhide HF
      obtain ⟨v7, hr7, _⟩ := r5.row
      have c7 : w5.cell? ⟨q, 1, none⟩ = some (.iface 89 (.agg #[.string p, .iface 87 (.agg #[.int .i64 c])])) := row_cell hr7
      have hc0 := unhide HO p c rfl
      have hc : (c != 0) = true := bne_iff_ne.2 hc0
      clear hc0
      have N5 := hide n5
      have hz : 0 < w5.heap.size := by have := (Array.getElem?_eq_some_iff.1 (unhide N5)).1; omega
      have h52 := hide (fc_some p c w5 (unhide HG' w5 (unhide B5)) hz)
      clear hr7
      go_wp2_with fail
      refine (unhide h52).mono ?_
      rintro e w6 ⟨rfl, b6⟩
      have n6 : w6.heap[W.heap.size]? = some (.cells #[.int .i64 0, .int .i64 0, .int .i64 0, .string ⟨#[]⟩, .string ⟨#[]⟩] 24 (0, 0)) := (b6.block _ (Array.getElem?_eq_some_iff.1 (unhide N5)).1).trans (unhide N5)
      have l6 := (Array.getElem?_eq_some_iff.1 n6).1
      have x6 : (w6.alloc (.cells #[.int .i64 0, .int .i64 0, .int .i64 0, .string ⟨#[]⟩, .string ⟨#[]⟩] 24)).heap[W.heap.size]? = some (.cells #[.int .i64 0, .int .i64 0, .int .i64 0, .string ⟨#[]⟩, .string ⟨#[]⟩] 24 (0, 0)) := (Below.heap_alloc w6 _ W.heap.size l6).trans n6
      have y6 : (w6.alloc (.cells #[.int .i64 0, .int .i64 0, .int .i64 0, .string ⟨#[]⟩, .string ⟨#[]⟩] 24)).heap[w6.heap.size]? = some (.cells #[.int .i64 0, .int .i64 0, .int .i64 0, .string ⟨#[]⟩, .string ⟨#[]⟩] 24 (0, 0)) := heap_at w6 _ _ rfl
      have p0 : (w6.alloc (.cells #[.int .i64 0, .int .i64 0, .int .i64 0, .string ⟨#[]⟩, .string ⟨#[]⟩] 24)).cell? ⟨W.heap.size, 0, none⟩ = some (.int .i64 0) := row_cell x6
      have y0 : (w6.alloc (.cells #[.int .i64 0, .int .i64 0, .int .i64 0, .string ⟨#[]⟩, .string ⟨#[]⟩] 24)).frozen? ⟨W.heap.size, 0, none⟩ = false := row_free x6
      have z0 : (w6.alloc (.cells #[.int .i64 0, .int .i64 0, .int .i64 0, .string ⟨#[]⟩, .string ⟨#[]⟩] 24)).cell? ⟨w6.heap.size, 0, none⟩ = some (.int .i64 0) := row_cell y6
      have p1 : (w6.alloc (.cells #[.int .i64 0, .int .i64 0, .int .i64 0, .string ⟨#[]⟩, .string ⟨#[]⟩] 24)).cell? ⟨W.heap.size, 1, none⟩ = some (.int .i64 0) := row_cell x6
      have y1 : (w6.alloc (.cells #[.int .i64 0, .int .i64 0, .int .i64 0, .string ⟨#[]⟩, .string ⟨#[]⟩] 24)).frozen? ⟨W.heap.size, 1, none⟩ = false := row_free x6
      have z1 : (w6.alloc (.cells #[.int .i64 0, .int .i64 0, .int .i64 0, .string ⟨#[]⟩, .string ⟨#[]⟩] 24)).cell? ⟨w6.heap.size, 1, none⟩ = some (.int .i64 0) := row_cell y6
      have p2 : (w6.alloc (.cells #[.int .i64 0, .int .i64 0, .int .i64 0, .string ⟨#[]⟩, .string ⟨#[]⟩] 24)).cell? ⟨W.heap.size, 2, none⟩ = some (.int .i64 0) := row_cell x6
      have y2 : (w6.alloc (.cells #[.int .i64 0, .int .i64 0, .int .i64 0, .string ⟨#[]⟩, .string ⟨#[]⟩] 24)).frozen? ⟨W.heap.size, 2, none⟩ = false := row_free x6
      have z2 : (w6.alloc (.cells #[.int .i64 0, .int .i64 0, .int .i64 0, .string ⟨#[]⟩, .string ⟨#[]⟩] 24)).cell? ⟨w6.heap.size, 2, none⟩ = some (.int .i64 0) := row_cell y6
      have p3 : (w6.alloc (.cells #[.int .i64 0, .int .i64 0, .int .i64 0, .string ⟨#[]⟩, .string ⟨#[]⟩] 24)).cell? ⟨W.heap.size, 3, none⟩ = some (.string ⟨#[]⟩) := row_cell x6
      have y3 : (w6.alloc (.cells #[.int .i64 0, .int .i64 0, .int .i64 0, .string ⟨#[]⟩, .string ⟨#[]⟩] 24)).frozen? ⟨W.heap.size, 3, none⟩ = false := row_free x6
      have z3 : (w6.alloc (.cells #[.int .i64 0, .int .i64 0, .int .i64 0, .string ⟨#[]⟩, .string ⟨#[]⟩] 24)).cell? ⟨w6.heap.size, 3, none⟩ = some (.string ⟨#[]⟩) := row_cell y6
      have p4 : (w6.alloc (.cells #[.int .i64 0, .int .i64 0, .int .i64 0, .string ⟨#[]⟩, .string ⟨#[]⟩] 24)).cell? ⟨W.heap.size, 4, none⟩ = some (.string ⟨#[]⟩) := row_cell x6
      have y4 : (w6.alloc (.cells #[.int .i64 0, .int .i64 0, .int .i64 0, .string ⟨#[]⟩, .string ⟨#[]⟩] 24)).frozen? ⟨W.heap.size, 4, none⟩ = false := row_free x6
      have z4 : (w6.alloc (.cells #[.int .i64 0, .int .i64 0, .int .i64 0, .string ⟨#[]⟩, .string ⟨#[]⟩] 24)).cell? ⟨w6.heap.size, 4, none⟩ = some (.string ⟨#[]⟩) := row_cell y6
      have B6 := hide ((unhide B5).trans (b6.mono (unhide B5).size))
      have N6 := hide n6
      have L6 := hide l6
      clear b6 n6 x6 y6 l6 h52 c7
      go_wp2
      refine bodyPost_ret (v := .tuple #[zeroM, .int .i64 c]) (results_tmp_row rfl _ _ W.heap.size 24 _ (0, 0) _ _ rfl rfl (row_set (i := 4) (v := .string ⟨#[]⟩) (row_set (i := 3) (v := .string ⟨#[]⟩) (row_set (i := 2) (v := .int .i64 0) (row_set (i := 1) (v := .int .i64 0) (row_set (i := 0) (v := .int .i64 0) ((Below.heap_alloc w6 _ W.heap.size (unhide L6)).trans (unhide N6))))))) Tryd.underlying24 rfl (by kernel_rfl)) rfl ⟨by rw [← unhide HE]; rfl, ?_⟩
      exact below_setCell (below_setCell (below_setCell (below_setCell (below_setCell ((unhide B6).alloc (unhide B6).size _) (Nat.le_refl _)) (Nat.le_refl _)) (Nat.le_refl _)) (Nat.le_refl _)) (Nat.le_refl _)
  · rw [if_neg hbad] at HF
    have hC : C = 0 := by
      rcases Classical.em (C = 0) with h | h
      · exact h
      · exact absurd (.inl h) hbad
    have heq : L = xs := by
      rcases Classical.em (L = xs) with h | h
      · exact h
      · exact absurd (.inr h) hbad
    have hEq := hide (equal50 wv v L xs w4 (unhide CA) (unhide CB) (unhide HL) (unhide HB))
    rw [decide_eq_true heq] at hEq
    subst hC
    clear hbad heq
    obtain rfl := unhide HF
    go_wp2_with fail
    refine (unhide hEq).mono ?_
    rintro e w4' ⟨rfl, hw4⟩
    obtain rfl := hw4.symm
    have r5 := unhide R4
    cases F with
    | none =>
      obtain ⟨v7, hr7, _⟩ := r5.row
      have c7 : w4.cell? ⟨q, 1, none⟩ = some .nilIface := row_cell hr7
      have N5 := hide (unhide N4)
      have M5 := hide (unhide M4)
      clear hr7
      go_wp2_with fail
      refine (fc_none w4).mono ?_
      rintro e w6 ⟨rfl, b6⟩
      have n6 : w6.heap[W.heap.size]? = some (.cells #[.int .i64 0, .int .i64 0, .int .i64 0, .string ⟨#[]⟩, .string ⟨#[]⟩] 24 (0, 0)) := (b6.block _ (Array.getElem?_eq_some_iff.1 (unhide N5)).1).trans (unhide N5)
      have m6 : w6.heap[m]? = some (.cells #[.int .i64 r, .int .i64 s, .int .i64 a, .string d, .string b] 24 (0, 0)) := (b6.block _ (Array.getElem?_eq_some_iff.1 (unhide M5)).1).trans (unhide M5)
      have p0 : w6.cell? ⟨W.heap.size, 0, none⟩ = some (.int .i64 0) := row_cell n6
      have y0 : w6.frozen? ⟨W.heap.size, 0, none⟩ = false := row_free n6
      have g0 : w6.cell? ⟨m, 0, none⟩ = some (.int .i64 r) := row_cell m6
      have p1 : w6.cell? ⟨W.heap.size, 1, none⟩ = some (.int .i64 0) := row_cell n6
      have y1 : w6.frozen? ⟨W.heap.size, 1, none⟩ = false := row_free n6
      have g1 : w6.cell? ⟨m, 1, none⟩ = some (.int .i64 s) := row_cell m6
      have p2 : w6.cell? ⟨W.heap.size, 2, none⟩ = some (.int .i64 0) := row_cell n6
      have y2 : w6.frozen? ⟨W.heap.size, 2, none⟩ = false := row_free n6
      have g2 : w6.cell? ⟨m, 2, none⟩ = some (.int .i64 a) := row_cell m6
      have p3 : w6.cell? ⟨W.heap.size, 3, none⟩ = some (.string ⟨#[]⟩) := row_cell n6
      have y3 : w6.frozen? ⟨W.heap.size, 3, none⟩ = false := row_free n6
      have g3 : w6.cell? ⟨m, 3, none⟩ = some (.string d) := row_cell m6
      have p4 : w6.cell? ⟨W.heap.size, 4, none⟩ = some (.string ⟨#[]⟩) := row_cell n6
      have y4 : w6.frozen? ⟨W.heap.size, 4, none⟩ = false := row_free n6
      have g4 : w6.cell? ⟨m, 4, none⟩ = some (.string b) := row_cell m6
      have B6 := hide ((unhide B4).trans (b6.mono (unhide B4).size))
      have N6 := hide n6
      clear b6 n6 m6
      go_wp2
      refine bodyPost_ret (v := .tuple #[msgV r s a d b, .int .i64 0]) (results_tmp_row rfl _ _ W.heap.size 24 _ (0, 0) _ _ rfl rfl (row_set (i := 4) (v := .string b) (row_set (i := 3) (v := .string d) (row_set (i := 2) (v := .int .i64 a) (row_set (i := 1) (v := .int .i64 s) (row_set (i := 0) (v := .int .i64 r) (unhide N6)))))) Tryd.underlying24 rfl (by kernel_rfl)) rfl ⟨by rw [← unhide HE]; rfl, ?_⟩
      exact below_setCell (below_setCell (below_setCell (below_setCell (below_setCell (unhide B6) (Nat.le_refl _)) (Nat.le_refl _)) (Nat.le_refl _)) (Nat.le_refl _)) (Nat.le_refl _)
    | some x =>
      obtain ⟨p, c⟩ := x
      obtain ⟨v7, hr7, _⟩ := r5.row
      have c7 : w4.cell? ⟨q, 1, none⟩ = some (.iface 89 (.agg #[.string p, .iface 87 (.agg #[.int .i64 c])])) := row_cell hr7
      have hc0 := unhide HO p c rfl
      have hc : (c != 0) = true := bne_iff_ne.2 hc0
      clear hc0
      have N5 := hide (unhide N4)
      have hz : 0 < w4.heap.size := by have := (Array.getElem?_eq_some_iff.1 (unhide N5)).1; omega
      have h52 := hide (fc_some p c w4 (unhide HG' w4 (unhide B4)) hz)
      clear hr7
      go_wp2_with fail
      refine (unhide h52).mono ?_
      rintro e w6 ⟨rfl, b6⟩
      have n6 : w6.heap[W.heap.size]? = some (.cells #[.int .i64 0, .int .i64 0, .int .i64 0, .string ⟨#[]⟩, .string ⟨#[]⟩] 24 (0, 0)) := (b6.block _ (Array.getElem?_eq_some_iff.1 (unhide N5)).1).trans (unhide N5)
      have l6 := (Array.getElem?_eq_some_iff.1 n6).1
      have x6 : (w6.alloc (.cells #[.int .i64 0, .int .i64 0, .int .i64 0, .string ⟨#[]⟩, .string ⟨#[]⟩] 24)).heap[W.heap.size]? = some (.cells #[.int .i64 0, .int .i64 0, .int .i64 0, .string ⟨#[]⟩, .string ⟨#[]⟩] 24 (0, 0)) := (Below.heap_alloc w6 _ W.heap.size l6).trans n6
      have y6 : (w6.alloc (.cells #[.int .i64 0, .int .i64 0, .int .i64 0, .string ⟨#[]⟩, .string ⟨#[]⟩] 24)).heap[w6.heap.size]? = some (.cells #[.int .i64 0, .int .i64 0, .int .i64 0, .string ⟨#[]⟩, .string ⟨#[]⟩] 24 (0, 0)) := heap_at w6 _ _ rfl
      have p0 : (w6.alloc (.cells #[.int .i64 0, .int .i64 0, .int .i64 0, .string ⟨#[]⟩, .string ⟨#[]⟩] 24)).cell? ⟨W.heap.size, 0, none⟩ = some (.int .i64 0) := row_cell x6
      have y0 : (w6.alloc (.cells #[.int .i64 0, .int .i64 0, .int .i64 0, .string ⟨#[]⟩, .string ⟨#[]⟩] 24)).frozen? ⟨W.heap.size, 0, none⟩ = false := row_free x6
      have z0 : (w6.alloc (.cells #[.int .i64 0, .int .i64 0, .int .i64 0, .string ⟨#[]⟩, .string ⟨#[]⟩] 24)).cell? ⟨w6.heap.size, 0, none⟩ = some (.int .i64 0) := row_cell y6
      have p1 : (w6.alloc (.cells #[.int .i64 0, .int .i64 0, .int .i64 0, .string ⟨#[]⟩, .string ⟨#[]⟩] 24)).cell? ⟨W.heap.size, 1, none⟩ = some (.int .i64 0) := row_cell x6
      have y1 : (w6.alloc (.cells #[.int .i64 0, .int .i64 0, .int .i64 0, .string ⟨#[]⟩, .string ⟨#[]⟩] 24)).frozen? ⟨W.heap.size, 1, none⟩ = false := row_free x6
      have z1 : (w6.alloc (.cells #[.int .i64 0, .int .i64 0, .int .i64 0, .string ⟨#[]⟩, .string ⟨#[]⟩] 24)).cell? ⟨w6.heap.size, 1, none⟩ = some (.int .i64 0) := row_cell y6
      have p2 : (w6.alloc (.cells #[.int .i64 0, .int .i64 0, .int .i64 0, .string ⟨#[]⟩, .string ⟨#[]⟩] 24)).cell? ⟨W.heap.size, 2, none⟩ = some (.int .i64 0) := row_cell x6
      have y2 : (w6.alloc (.cells #[.int .i64 0, .int .i64 0, .int .i64 0, .string ⟨#[]⟩, .string ⟨#[]⟩] 24)).frozen? ⟨W.heap.size, 2, none⟩ = false := row_free x6
      have z2 : (w6.alloc (.cells #[.int .i64 0, .int .i64 0, .int .i64 0, .string ⟨#[]⟩, .string ⟨#[]⟩] 24)).cell? ⟨w6.heap.size, 2, none⟩ = some (.int .i64 0) := row_cell y6
      have p3 : (w6.alloc (.cells #[.int .i64 0, .int .i64 0, .int .i64 0, .string ⟨#[]⟩, .string ⟨#[]⟩] 24)).cell? ⟨W.heap.size, 3, none⟩ = some (.string ⟨#[]⟩) := row_cell x6
      have y3 : (w6.alloc (.cells #[.int .i64 0, .int .i64 0, .int .i64 0, .string ⟨#[]⟩, .string ⟨#[]⟩] 24)).frozen? ⟨W.heap.size, 3, none⟩ = false := row_free x6
      have z3 : (w6.alloc (.cells #[.int .i64 0, .int .i64 0, .int .i64 0, .string ⟨#[]⟩, .string ⟨#[]⟩] 24)).cell? ⟨w6.heap.size, 3, none⟩ = some (.string ⟨#[]⟩) := row_cell y6
      have p4 : (w6.alloc (.cells #[.int .i64 0, .int .i64 0, .int .i64 0, .string ⟨#[]⟩, .string ⟨#[]⟩] 24)).cell? ⟨W.heap.size, 4, none⟩ = some (.string ⟨#[]⟩) := row_cell x6
      have y4 : (w6.alloc (.cells #[.int .i64 0, .int .i64 0, .int .i64 0, .string ⟨#[]⟩, .string ⟨#[]⟩] 24)).frozen? ⟨W.heap.size, 4, none⟩ = false := row_free x6
      have z4 : (w6.alloc (.cells #[.int .i64 0, .int .i64 0, .int .i64 0, .string ⟨#[]⟩, .string ⟨#[]⟩] 24)).cell? ⟨w6.heap.size, 4, none⟩ = some (.string ⟨#[]⟩) := row_cell y6
      have B6 := hide ((unhide B4).trans (b6.mono (unhide B4).size))
      have N6 := hide n6
      have L6 := hide l6
      clear b6 n6 x6 y6 l6 h52 c7
      go_wp2
      refine bodyPost_ret (v := .tuple #[zeroM, .int .i64 c]) (results_tmp_row rfl _ _ W.heap.size 24 _ (0, 0) _ _ rfl rfl (row_set (i := 4) (v := .string ⟨#[]⟩) (row_set (i := 3) (v := .string ⟨#[]⟩) (row_set (i := 2) (v := .int .i64 0) (row_set (i := 1) (v := .int .i64 0) (row_set (i := 0) (v := .int .i64 0) ((Below.heap_alloc w6 _ W.heap.size (unhide L6)).trans (unhide N6))))))) Tryd.underlying24 rfl (by kernel_rfl)) rfl ⟨by rw [← unhide HE]; rfl, ?_⟩
      exact below_setCell (below_setCell (below_setCell (below_setCell (below_setCell ((unhide B6).alloc (unhide B6).size _) (Nat.le_refl _)) (Nat.le_refl _)) (Nat.le_refl _)) (Nat.le_refl _)) (Nat.le_refl _)
end Go.Proofs.YtgdohkemamlnhaaDoor
