/- What a console tells of both queues. -/
import Derived.Test.YtbkcgkffafjbgaaGreatDoorGk
/- How much each of both has heard. -/
namespace Go.Proofs.YtbkcgkffafjbgaaGreatDoor
open Go.RowKit
set_option maxHeartbeats 4000000
set_option maxRecDepth 20000
set_option linter.unusedVariables false
theorem TwO.open {base g : Nat} {z : Tw} {W : World} (h : TwO base g z W) : ∃ A0 r0 C0 r1 A1 r2 C1 r3, row8 W g (.slice A0 z.x.q.length r0) (.int .i64 z.x.s) (.int .i64 z.x.e) (.slice C0 z.x.i.length r1) (.slice A1 z.y.q.length r2) (.int .i64 z.y.s) (.int .i64 z.y.e) (.slice C1 z.y.i.length r3) [] := by
  obtain ⟨q0, i0, q1, i1, lo0, hi0, lo1, hi1, hr, hx, hy, _⟩ := h
  have ⟨A0, r0, C0, r1, e0⟩ := hx.pe.slices
  have ⟨A1, r2, C1, r3, e1⟩ := hy.pe.slices
  obtain ⟨rfl, rfl⟩ := peA_inj e0
  obtain ⟨rfl, rfl⟩ := peA_inj e1
  exact ⟨_, _, _, _, _, _, _, _, hr⟩
theorem heard60 (base c g : Nat) (z : Tw) (l : List UInt8) (w : World) (h : Con base c g z l w) (hx : z.x.i.length ≤ 100) (hy : z.y.i.length ≤ 100) :
    Calls Tryz.prog 60 #[.pointer (some ⟨c, 0, none⟩)] w fun e w' => e = .returned (.agg #[.int .i64 z.x.i.length, .int .i64 z.y.i.length]) ∧ Below w.heap.size w w' := by
  have b0 : Below w.heap.size w (w.alloc (.cells #[.int .i64 0, .int .i64 0] 93)) := bl_al (Below.refl _ _)
  obtain ⟨A0, r0, C0, r1, A1, r2, C1, r3, hr0⟩ := h.two.open
  have HC0 := hide (hr0.below b0)
  have HA0 := hide (heap_alloc_new w (.cells #[.int .i64 0, .int .i64 0] 93))
  have HB0 := hide b0
  have c0 := (h.below b0).c0
  have hsz : Hid (g < w.heap.size ∧ c < w.heap.size) := hide ⟨Nat.lt_of_lt_of_le h.ltg h.sz, h.ltc⟩
  have m0 : (z.x.i.length : Int) ≤ 9223372036854775807 := by omega
  have m1 : (z.y.i.length : Int) ≤ 9223372036854775807 := by omega
  clear h b0 hr0
  go_enter Tryz.func60, Tryz.ntmps60
  go_wp2_with fail
  generalize w.alloc (.cells #[.int .i64 0, .int .i64 0] 93) = w1 at *
  clear c0
  go_loopw [10] (fun i wr => ∃ (j : Nat), j ≤ 2 ∧ i = .int .i64 j ∧ row8 wr g (.slice A0 z.x.q.length r0) (.int .i64 z.x.s) (.int .i64 z.x.e) (.slice C0 z.x.i.length r1) (.slice A1 z.y.q.length r2) (.int .i64 z.y.s) (.int .i64 z.y.e) (.slice C1 z.y.i.length r3) [] ∧ Below w.heap.size w wr ∧ wr.heap[w.heap.size]? = some (.cells #[.int .i64 (if 0 < j then (z.x.i.length : Int) else 0), .int .i64 (if 1 < j then (z.y.i.length : Int) else 0)] 93 (0, 0))) (fun i _ => 2 - (intOf i).toNat)
  case atStart => exact ⟨0, by omega, rfl, unhide HC0, unhide HB0, unhide HA0⟩
  case round =>
    obtain ⟨j, hj, rfl, hc, hb, ha⟩ := hrel
    have HC := hide hc
    have HB := hide hb
    clear HC0 HB0 HA0
    rcases (by omega : j = 0 ∨ j = 1 ∨ j = 2) with rfl | rfl | rfl
    · have hr := hc
      simp at ha
      have HA := hide ha
      have k0 := hr.c0
      have k1 := hr.c1
      have k2 := hr.c2
      have k3 := hr.c3
      generalize hP : Obj.cells #[.slice A0 z.x.q.length r0, .int .i64 z.x.s, .int .i64 z.x.e, .slice C0 z.x.i.length r1] 53 = P at *
      have ha2 := ((bl_al (o := P) (Below.refl wr.heap.size wr)).block _ (Array.getElem?_eq_some_iff.1 ha).1).trans ha
      have a0 := row_cell (i := 0) ha2
      have af := row_free (i := 0) ha2
      simp only [List.getElem?_toArray, List.getElem?_cons_zero] at a0
      have HA2 := hide ha2
      subst hP
      clear hc hb ha hr ha2 hj
      go_wp2
      obtain ⟨g1, g2⟩ := unhide hsz
      have L := (Lone.of_below (q := w.heap.size) (bl_al (o := .cells #[.slice A0 z.x.q.length r0, .int .i64 z.x.s, .int .i64 z.x.e, .slice C0 z.x.i.length r1] 53) (Below.refl wr.heap.size wr))).trans (lone_setCell w.heap.size 0 _ (.int .i64 z.x.i.length))
      refine ⟨⟨1, by omega, by go_num, (unhide HC).lone L (by omega), L.below (unhide HB) (Nat.le_refl _) (unhide HB).size, ?_⟩, by simp [intOf]⟩
      have := row_set (i := 0) (v := .int .i64 z.x.i.length) (unhide HA2)
      simpa using this
    · have hr := hc
      simp at ha
      have HA := hide ha
      have k4 := hr.c4
      have k5 := hr.c5
      have k6 := hr.c6
      have k7 := hr.c7
      generalize hP : Obj.cells #[.slice A1 z.y.q.length r2, .int .i64 z.y.s, .int .i64 z.y.e, .slice C1 z.y.i.length r3] 53 = P at *
      have ha2 := ((bl_al (o := P) (Below.refl wr.heap.size wr)).block _ (Array.getElem?_eq_some_iff.1 ha).1).trans ha
      have a0 := row_cell (i := 1) ha2
      have af := row_free (i := 1) ha2
      simp only [List.getElem?_toArray, List.getElem?_cons_succ, List.getElem?_cons_zero] at a0
      have HA2 := hide ha2
      subst hP
      clear hc hb ha hr ha2 hj
      go_wp2
      obtain ⟨g1, g2⟩ := unhide hsz
      have L := (Lone.of_below (q := w.heap.size) (bl_al (o := .cells #[.slice A1 z.y.q.length r2, .int .i64 z.y.s, .int .i64 z.y.e, .slice C1 z.y.i.length r3] 53) (Below.refl wr.heap.size wr))).trans (lone_setCell w.heap.size 1 _ (.int .i64 z.y.i.length))
      refine ⟨⟨2, by omega, by go_num, (unhide HC).lone L (by omega), L.below (unhide HB) (Nat.le_refl _) (unhide HB).size, ?_⟩, by simp [intOf]⟩
      have := row_set (i := 1) (v := .int .i64 z.y.i.length) (unhide HA2)
      simpa using this
    · simp at ha
      have HA := hide ha
      have a0 := row_cell (i := 0) ha
      have a1 := row_cell (i := 1) ha
      have f0 := row_free (i := 0) ha
      have f1 := row_free (i := 1) ha
      simp only [List.getElem?_toArray, List.getElem?_cons_succ, List.getElem?_cons_zero] at a0 a1
      rw [show ((2 : Nat) : Int) = 2 from rfl]
      clear hj hc hb ha
      go_wp2
      have hA := row_set (i := 1) (v := .int .i64 z.y.i.length) (row_set (i := 0) (v := .int .i64 z.x.i.length) (unhide HA))
      refine bodyPost_ret (results_cell_row rfl _ _ w.heap.size 93 #[.int .i64 z.x.i.length, .int .i64 z.y.i.length] (0, 0) _ rfl (by simpa using hA) Tryz.underlying93 rfl (by kernel_rfl)) rfl ?_
      exact ⟨rfl, ((lone_setCell w.heap.size 0 wr (.int .i64 z.x.i.length)).trans (lone_setCell w.heap.size 1 _ (.int .i64 z.y.i.length))).below (unhide HB) (Nat.le_refl _) (unhide HB).size⟩
end Go.Proofs.YtbkcgkffafjbgaaGreatDoor
/- What both have heard anew is told. -/
namespace Go.Proofs.YtbkcgkffafjbgaaGreatDoor
open Go.RowKit
set_option maxHeartbeats 4000000
set_option maxRecDepth 20000
set_option linter.unusedVariables false
/-- x[k:] of texts -/
theorem cut_from (A : Option Addr) (k n cap : Nat) (hk : k ≤ n) (hn : n ≤ cap) (hbig : n ≤ 2097152) (hp : ∀ a, A = some a → ∃ b o, a = ⟨b, o, none⟩) :
    ∃ A', (∀ b off, A = some ⟨b, off, none⟩ → k < n → A' = some ⟨b, off + k, none⟩) ∧ ∀ X : World, (Instr.slice 23 (.slice A n cap) (some (.int .i64 k)) none none).run Tryz.prog X = .ok (.slice A' (n - k) (cap - k)) X := by
  have k1 : (k : Int) ≤ (n : Int) := by omega
  have k0 : (0 : Int) ≤ (k : Int) := by omega
  cases A with
  | none =>
    refine ⟨none, fun _ _ e => (by cases e), fun X => ?_⟩
    go_simp
  | some a =>
    obtain ⟨b, o, rfl⟩ := hp a rfl
    by_cases hc : cap - k = 0
    · refine ⟨some ⟨b, o, none⟩, fun _ _ _ h => (by omega), fun X => ?_⟩
      go_simp
      intro; omega
    · refine ⟨some ⟨b, o + k, none⟩, fun b' o' e _ => by injection e with e; injection e with e1 e2; subst e1 e2; rfl, fun X => ?_⟩
      go_simp
      intro; omega
/-- texts from some place of a list on -/
def inbO (base : Nat) (W : World) (A : Option Addr) (ns : List ByteArray) : Prop :=
  ∀ i, i < ns.length → ∃ b o cs, A = some ⟨b, o, none⟩ ∧ base ≤ b ∧ W.heap[b]? = some (.cells cs 9 (0, 0)) ∧ cs[o + i]? = some (.string (ns.getD i noS))
theorem inbO.kb {base c : Nat} {W X : World} {A : Option Addr} {ns : List ByteArray} (h : inbO base W A ns) (hk : Kb base c W X) (hc : c < base) : inbO base X A ns := by
  intro i hi
  obtain ⟨b, o, cs, e, hb, hr, hx⟩ := h i hi
  exact ⟨b, o, cs, e, hb, (hk.same b (Array.getElem?_eq_some_iff.1 hr).1 (by omega) (Or.inr fun cs' fr' e => by rw [hr] at e; simp at e)).trans hr, hx⟩
theorem inb_of {base lo hi k n cap : Nat} {W : World} {A : Option Addr} {ts : List ByteArray} (h : ownG lo hi W (.slice A n cap) ts) (hlo : base ≤ lo) (hk : k ≤ n) (hbig : n ≤ 2097152) :
    ∃ A', inbO base W A' (ts.drop k) ∧ (ts.drop k).length = n - k ∧ ∀ X : World, (Instr.slice 23 (.slice A n cap) (some (.int .i64 k)) none none).run Tryz.prog X = .ok (.slice A' (n - k) (cap - k)) X := by
  rcases h with ⟨e, rfl⟩ | ⟨g, off, cap', cs, e, h1, h2, h3, h4, h5⟩
  · injection e with e1 e2 e3
    subst e1 e2 e3
    obtain ⟨A', _, hr⟩ := cut_from none k 0 0 hk (Nat.le_refl _) (by omega) (fun _ e => by cases e)
    exact ⟨A', fun i hi => by simp at hi, by simp, hr⟩
  · injection e with e1 e2 e3
    subst e1 e2 e3
    obtain ⟨A', h6, hr⟩ := cut_from (some ⟨g, off, none⟩) k ts.length cap hk h4 hbig (fun a e => ⟨g, off, (Option.some.inj e).symm⟩)
    refine ⟨A', fun i hi => ?_, by simp, hr⟩
    simp at hi
    refine ⟨g, off + k, cs, h6 g off rfl (by omega), by omega, h3, ?_⟩
    rw [Nat.add_assoc, h5 (k + i) (by omega)]
    simp [List.getD_eq_getElem?_getD]
theorem TwO.open2 {base g : Nat} {z : Tw} {W : World} (h : TwO base g z W) : ∃ A0 r0 C0 r1 A1 r2 C1 r3 lo0 hi0 lo1 hi1, row8 W g (.slice A0 z.x.q.length r0) (.int .i64 z.x.s) (.int .i64 z.x.e) (.slice C0 z.x.i.length r1) (.slice A1 z.y.q.length r2) (.int .i64 z.y.s) (.int .i64 z.y.e) (.slice C1 z.y.i.length r3) [] ∧
    ownG lo0 hi0 W (.slice C0 z.x.i.length r1) z.x.i ∧ base ≤ lo0 ∧ ownG lo1 hi1 W (.slice C1 z.y.i.length r3) z.y.i ∧ base ≤ lo1 := by
  obtain ⟨q0, i0, q1, i1, lo0, hi0, lo1, hi1, hr, hx, hy, _, b0, b1, _⟩ := h
  have ⟨A0, r0, C0, r1, e0⟩ := hx.pe.slices
  have ⟨A1, r2, C1, r3, e1⟩ := hy.pe.slices
  obtain ⟨rfl, rfl⟩ := peA_inj e0
  obtain ⟨rfl, rfl⟩ := peA_inj e1
  obtain ⟨q, i, e, _, h1, _⟩ := hx
  obtain ⟨rfl, rfl⟩ := peA_inj e
  obtain ⟨q, i, e, _, h2, _⟩ := hy
  obtain ⟨rfl, rfl⟩ := peA_inj e
  exact ⟨_, _, _, _, _, _, _, _, lo0, hi0, lo1, hi1, hr, h1, b0, h2, b1⟩
theorem told_snoc (who : UInt8) (ns : List ByteArray) (i : Nat) (h : i < ns.length) : toldOne who (ns.take (i + 1)) = toldOne who (ns.take i) ++ toldL who (ns.getD i noS) := by
  unfold toldOne
  rw [List.take_add_one, List.map_append, List.flatten_append]
  congr 1
  rw [List.getD_eq_getElem?_getD, List.getElem?_eq_getElem h]
  simp
theorem told_join (who : UInt8) (t : ByteArray) : joinB [⟨#[who]⟩, ⟨#[104, 101, 97, 114, 115]⟩, t] ++ [10] = toldL who t := by
  simp [joinB, Lib.join, List.intercalate, toldL, hearsB]
def tjF (a b : By) (j : Nat) : By := if j = 0 then [] else if j = 1 then a else a ++ b
theorem news62 (base c g : Nat) (z : Tw) (l : List UInt8) (n0 n1 : Nat) (w : World) (h : Con base c g z l w) (h0 : n0 ≤ z.x.i.length) (h1 : n1 ≤ z.y.i.length) (px : Pb z.x) (py : Pb z.y) (hl : l.length ≤ 536870912) :
    Calls Tryz.prog 62 #[.pointer (some ⟨c, 0, none⟩), .agg #[.int .i64 n0, .int .i64 n1]] w fun e w' => e = .returned (.tuple #[]) ∧ Con base c g z (l ++ (toldOne 97 (z.x.i.drop n0) ++ toldOne 98 (z.y.i.drop n1))) w' ∧ Kb base c w w' := by
  have b0 : Below w.heap.size w (w.alloc (.cells #[.int .i64 n0, .int .i64 n1] 93)) := bl_al (Below.refl _ _)
  have HC0 := hide (h.below b0)
  have HA0 := hide (heap_alloc_new w (.cells #[.int .i64 n0, .int .i64 n1] 93))
  have HB0 := hide b0
  have c0 := (h.below b0).c0
  have hsz : Hid (g < w.heap.size ∧ c < w.heap.size) := hide ⟨Nat.lt_of_lt_of_le h.ltg h.sz, h.ltc⟩
  have hlow : Hid (c < base) := hide h.low
  have H0 := hide h0
  have H1 := hide h1
  have X0 : Hid (∀ k, (toldOne 97 ((z.x.i.drop n0).take k)).length ≤ 4900) := hide (fun k => by
    have := told_len 97 ((z.x.i.drop n0).take k) (fun t ht => px.all t (List.mem_of_mem_drop (List.mem_of_mem_take ht)))
    have := px.i
    simp only [List.length_take, List.length_drop] at *
    omega)
  have X1 : Hid (∀ k, (toldOne 98 ((z.y.i.drop n1).take k)).length ≤ 4900) := hide (fun k => by
    have := told_len 98 ((z.y.i.drop n1).take k) (fun t ht => py.all t (List.mem_of_mem_drop (List.mem_of_mem_take ht)))
    have := py.i
    simp only [List.length_take, List.length_drop] at *
    omega)
  have Y0 : Hid ((toldOne 97 (z.x.i.drop n0)).length ≤ 4900) := hide (by
    have := unhide X0 (z.x.i.drop n0).length
    rwa [List.take_length] at this)
  have T0 : Hid (∀ i, ((z.x.i.drop n0).getD i noS).size ≤ 40) := hide (fun i => by
    rw [List.getD_eq_getElem?_getD]
    cases e : (z.x.i.drop n0)[i]? with
    | none => decide
    | some t => exact px.all t (List.mem_of_mem_drop (List.mem_of_getElem? e)))
  have T1 : Hid (∀ i, ((z.y.i.drop n1).getD i noS).size ≤ 40) := hide (fun i => by
    rw [List.getD_eq_getElem?_getD]
    cases e : (z.y.i.drop n1)[i]? with
    | none => decide
    | some t => exact py.all t (List.mem_of_mem_drop (List.mem_of_getElem? e)))
  have P0 := hide px.i
  have P1 := hide py.i
  have HL := hide hl
  have m0 : (n0 : Int) ≤ 9223372036854775807 := by have := px.i; omega
  have m1 : (n1 : Int) ≤ 9223372036854775807 := by have := py.i; omega
  have m2 : (z.x.i.length : Int) ≤ 9223372036854775807 := by have := px.i; omega
  have m3 : (z.y.i.length : Int) ≤ 9223372036854775807 := by have := py.i; omega
  clear h b0 h0 h1 px py hl
  go_enter Tryz.func62, Tryz.ntmps62
  go_wp2_with fail
  generalize hw1 : w.alloc (.cells #[.int .i64 n0, .int .i64 n1] 93) = w1 at *
  clear c0
  go_loopw [13] (fun i wr => ∃ (j : Nat), j ≤ 2 ∧ i = .int .i64 j ∧ Con base c g z (l ++ tjF (toldOne 97 (z.x.i.drop n0)) (toldOne 98 (z.y.i.drop n1)) j) wr ∧ Kb base c w1 wr) (fun i _ => 2 - (intOf i).toNat)
  case atStart => exact ⟨0, by omega, rfl, by simpa [tjF] using unhide HC0, Kb.refl _ _ _⟩
  case round =>
    obtain ⟨j, hj, rfl, hc, hk⟩ := hrel
    have HC := hide hc
    have HK := hide hk
    rcases (by omega : j = 0 ∨ j = 1 ∨ j = 2) with rfl | rfl | rfl
    · obtain ⟨A0, r0, C0, r1, A1, r2, C1, r3, lo0, hi0, lo1, hi1, hr, i0, bl0, i1, bl1⟩ := hc.two.open2
      obtain ⟨A', hin, hlen, hrun⟩ := inb_of (k := n0) i0 bl0 (unhide H0) (by have := unhide P0; omega)
      have k0 := hr.c0
      have k1 := hr.c1
      have k2 := hr.c2
      have k3 := hr.c3
      have B2 : Below wr.heap.size wr (wr.alloc (.cells #[.slice A0 z.x.q.length r0, .int .i64 z.x.s, .int .i64 z.x.e, .slice C0 z.x.i.length r1] 53)) := bl_al (Below.refl _ _)
      have HI := hide (hin.kb (Kb.of_below (B := base) B2) (unhide hlow))
      have ra : w1.heap[w.heap.size]? = some (.cells #[.int .i64 n0, .int .i64 n1] 93 (0, 0)) := unhide HA0
      have ha := (B2.block _ (Array.getElem?_eq_some_iff.1 ((hk.kc (g := g)).row ra (by decide) (by have := unhide hsz; omega) (by have := unhide hsz; omega))).1).trans ((hk.kc (g := g)).row ra (by decide) (by have := unhide hsz; omega) (by have := unhide hsz; omega))
      have a0 := row_cell (i := 0) ha
      simp only [List.getElem?_toArray, List.getElem?_cons_zero] at a0
      have rp := heap_alloc_new wr (.cells #[.slice A0 z.x.q.length r0, .int .i64 z.x.s, .int .i64 z.x.e, .slice C0 z.x.i.length r1] 53)
      have p3 := row_cell (i := 3) rp
      simp only [List.getElem?_toArray, List.getElem?_cons_succ, List.getElem?_cons_zero] at p3
      have HC2 := hide (hc.below B2)
      have HK2 := hide (hk.trans (Kb.of_below (B := base) (c := c) B2))
      have HLn := hide hlen
      have kn : n0 ≤ z.x.i.length := unhide H0
      have m4 : ((z.x.i.length - n0 : Nat) : Int) ≤ 9223372036854775807 := by have := unhide P0; omega
      clear hc hk hr i0 i1 hin hlen ha rp ra B2 hj kn
      rw [show ((0 : Nat) : Int) = 0 from rfl]
      go_wp2_with fail
      go_quiet (fail)
      go_wp2_with fail
      have B3 : Below (wr.alloc (.cells #[.slice A0 z.x.q.length r0, .int .i64 z.x.s, .int .i64 z.x.e, .slice C0 z.x.i.length r1] 53)).heap.size (wr.alloc (.cells #[.slice A0 z.x.q.length r0, .int .i64 z.x.s, .int .i64 z.x.e, .slice C0 z.x.i.length r1] 53)) ((wr.alloc (.cells #[.slice A0 z.x.q.length r0, .int .i64 z.x.s, .int .i64 z.x.e, .slice C0 z.x.i.length r1] 53)).drewN nq) := below_drewN (Below.refl _ _) nq
      have HC3 := hide ((unhide HC2).below B3)
      have HK3 := hide ((unhide HK2).trans (Kb.of_below (B := base) (c := c) B3))
      have HI3 := hide ((unhide HI).kb (Kb.of_below (B := base) B3) (unhide hlow))
      generalize (wr.alloc (.cells #[.slice A0 z.x.q.length r0, .int .i64 z.x.s, .int .i64 z.x.e, .slice C0 z.x.i.length r1] 53)).drewN nq = w3 at *
      clear HC2 HK2 HI B3 a0 p3 k0 k1 k2 k3 hrun
      generalize hns : z.x.i.drop n0 = ns at *
      generalize hnn : z.x.i.length - n0 = nn at *
      have HN1 : Hid (ns.length = nn) := HLn
      go_loopw [25] (fun i ws => ∃ (k : Nat), k ≤ nn ∧ i = .int .i64 k ∧ Con base c g z (l ++ tjF (toldOne 97 ns) (toldOne 98 (z.y.i.drop n1)) 0 ++ toldOne 97 (ns.take k)) ws ∧ Kb base c w1 ws ∧ inbO base ws A' ns) (fun i _ => nn - (intOf i).toNat)
      case atStart => exact ⟨0, by omega, rfl, by simpa [toldOne] using unhide HC3, unhide HK3, unhide HI3⟩
      case round =>
        obtain ⟨k, hk, rfl, hc, hkb, hin⟩ := hrel
        have HCs := hide hc
        have HKs := hide hkb
        have HIs := hide hin
        clear HC3 HK3 HI3
        by_cases h9 : k = nn
        · subst h9
          clear hc hkb hin hk
          go_wp2
          refine ⟨⟨1, by omega, by go_num, ?_, unhide HKs⟩, by simp [intOf]⟩
          have := unhide HCs
          rw [← unhide HN1, List.take_length] at this
          rw [← hns] at this
          simpa [tjF, List.append_assoc] using this
        · have hlt : k < nn := by omega
          have q1 : (k : Int) < (nn : Int) := by omega
          obtain ⟨b, o, cs, rfl, hb, hr, hx⟩ := hin k (by rw [unhide HN1]; exact hlt)
          have cc := row_cell (i := o + k) hr
          rw [hx] at cc
          have nm := hc.glo.1.c0
          have bx := unhide X0 k
          have ty := unhide T0 k
          have KT := tellA base c g z (l ++ tjF (toldOne 97 ns) (toldOne 98 (z.y.i.drop n1)) 0 ++ toldOne 97 (ns.take k)) [⟨#[97]⟩, ⟨#[104, 101, 97, 114, 115]⟩, ns.getD k noS] wr hc (by simp) (by
            have e := congrArg List.length (told_join 97 (ns.getD k noS))
            simp only [toldL, hearsB, List.length_append, List.length_cons, List.length_nil, Array.length_toList] at e
            have : (ns.getD k noS).data.size ≤ 40 := ty
            omega) (by
            have := unhide HL
            have := unhide Y0
            have e : (tjF (toldOne 97 ns) (toldOne 98 (z.y.i.drop n1)) 0).length ≤ 4900 := by show List.length ([] : By) ≤ 4900; decide
            simp only [List.length_append]
            omega)
          rw [told_join, List.append_assoc, List.append_assoc, ← told_snoc 97 ns k (by rw [unhide HN1]; exact hlt), ← List.append_assoc] at KT
          simp only [List.map_cons, List.map_nil, List.length_cons, List.length_nil] at KT
          have HT := hide KT
          clear KT bx ty hr hx hb hc hkb hin
          generalize ns.getD k noS = tx at *
          go_wp2_with (go_at_call 57; refine (unhide HT).mono ?_; rintro e w5 ⟨rfl, hc5, hk5⟩; have HC5 := hide hc5; have HK5 := hide ((unhide HKs).trans hk5); have HI5 := hide ((unhide HIs).kb hk5 (unhide hlow)); clear hc5 hk5)
          go_round
          case rel => exact ⟨k + 1, by omega, by go_num, unhide HC5, unhide HK5, unhide HI5⟩
          case measure => simp [intOf]; omega
    · obtain ⟨A0, r0, C0, r1, A1, r2, C1, r3, lo0, hi0, lo1, hi1, hr, i0, bl0, i1, bl1⟩ := hc.two.open2
      obtain ⟨A', hin, hlen, hrun⟩ := inb_of (k := n1) i1 bl1 (unhide H1) (by have := unhide P1; omega)
      have k4 := hr.c4
      have k5 := hr.c5
      have k6 := hr.c6
      have k7 := hr.c7
      have B2 : Below wr.heap.size wr (wr.alloc (.cells #[.slice A1 z.y.q.length r2, .int .i64 z.y.s, .int .i64 z.y.e, .slice C1 z.y.i.length r3] 53)) := bl_al (Below.refl _ _)
      have HI := hide (hin.kb (Kb.of_below (B := base) B2) (unhide hlow))
      have ra : w1.heap[w.heap.size]? = some (.cells #[.int .i64 n0, .int .i64 n1] 93 (0, 0)) := unhide HA0
      have ha := (B2.block _ (Array.getElem?_eq_some_iff.1 ((hk.kc (g := g)).row ra (by decide) (by have := unhide hsz; omega) (by have := unhide hsz; omega))).1).trans ((hk.kc (g := g)).row ra (by decide) (by have := unhide hsz; omega) (by have := unhide hsz; omega))
      have a1 := row_cell (i := 1) ha
      simp only [List.getElem?_toArray, List.getElem?_cons_succ, List.getElem?_cons_zero] at a1
      have rp := heap_alloc_new wr (.cells #[.slice A1 z.y.q.length r2, .int .i64 z.y.s, .int .i64 z.y.e, .slice C1 z.y.i.length r3] 53)
      have p3 := row_cell (i := 3) rp
      simp only [List.getElem?_toArray, List.getElem?_cons_succ, List.getElem?_cons_zero] at p3
      have HC2 := hide (hc.below B2)
      have HK2 := hide (hk.trans (Kb.of_below (B := base) (c := c) B2))
      have HLn := hide hlen
      have kn : n1 ≤ z.y.i.length := unhide H1
      have m4 : ((z.y.i.length - n1 : Nat) : Int) ≤ 9223372036854775807 := by have := unhide P1; omega
      clear hc hk hr i0 i1 hin hlen ha rp ra B2 hj kn
      rw [show ((1 : Nat) : Int) = 1 from rfl]
      go_wp2_with fail
      go_quiet (fail)
      go_wp2_with fail
      have B3 : Below (wr.alloc (.cells #[.slice A1 z.y.q.length r2, .int .i64 z.y.s, .int .i64 z.y.e, .slice C1 z.y.i.length r3] 53)).heap.size (wr.alloc (.cells #[.slice A1 z.y.q.length r2, .int .i64 z.y.s, .int .i64 z.y.e, .slice C1 z.y.i.length r3] 53)) ((wr.alloc (.cells #[.slice A1 z.y.q.length r2, .int .i64 z.y.s, .int .i64 z.y.e, .slice C1 z.y.i.length r3] 53)).drewN nq) := below_drewN (Below.refl _ _) nq
      have HC3 := hide ((unhide HC2).below B3)
      have HK3 := hide ((unhide HK2).trans (Kb.of_below (B := base) (c := c) B3))
      have HI3 := hide ((unhide HI).kb (Kb.of_below (B := base) B3) (unhide hlow))
      generalize (wr.alloc (.cells #[.slice A1 z.y.q.length r2, .int .i64 z.y.s, .int .i64 z.y.e, .slice C1 z.y.i.length r3] 53)).drewN nq = w3 at *
      clear HC2 HK2 HI B3 a1 p3 k4 k5 k6 k7 hrun
      generalize hns : z.y.i.drop n1 = ns at *
      generalize hnn : z.y.i.length - n1 = nn at *
      have HN1 : Hid (ns.length = nn) := HLn
      go_loopw [25] (fun i ws => ∃ (k : Nat), k ≤ nn ∧ i = .int .i64 k ∧ Con base c g z (l ++ tjF (toldOne 97 (z.x.i.drop n0)) (toldOne 98 ns) 1 ++ toldOne 98 (ns.take k)) ws ∧ Kb base c w1 ws ∧ inbO base ws A' ns) (fun i _ => nn - (intOf i).toNat)
      case atStart => exact ⟨0, by omega, rfl, by simpa [toldOne] using unhide HC3, unhide HK3, unhide HI3⟩
      case round =>
        obtain ⟨k, hk, rfl, hc, hkb, hin⟩ := hrel
        have HCs := hide hc
        have HKs := hide hkb
        have HIs := hide hin
        clear HC3 HK3 HI3
        by_cases h9 : k = nn
        · subst h9
          clear hc hkb hin hk
          go_wp2
          refine ⟨⟨2, by omega, by go_num, ?_, unhide HKs⟩, by simp [intOf]⟩
          have := unhide HCs
          rw [← unhide HN1, List.take_length] at this
          rw [← hns] at this
          simpa [tjF, List.append_assoc] using this
        · have hlt : k < nn := by omega
          have q1 : (k : Int) < (nn : Int) := by omega
          obtain ⟨b, o, cs, rfl, hb, hr, hx⟩ := hin k (by rw [unhide HN1]; exact hlt)
          have cc := row_cell (i := o + k) hr
          rw [hx] at cc
          have nm := hc.glo.1.c1
          have bx := unhide X1 k
          have ty := unhide T1 k
          have KT := tellA base c g z (l ++ tjF (toldOne 97 (z.x.i.drop n0)) (toldOne 98 ns) 1 ++ toldOne 98 (ns.take k)) [⟨#[98]⟩, ⟨#[104, 101, 97, 114, 115]⟩, ns.getD k noS] wr hc (by simp) (by
            have e := congrArg List.length (told_join 98 (ns.getD k noS))
            simp only [toldL, hearsB, List.length_append, List.length_cons, List.length_nil, Array.length_toList] at e
            have : (ns.getD k noS).data.size ≤ 40 := ty
            omega) (by
            have := unhide HL
            have := unhide Y0
            have e : (tjF (toldOne 97 (z.x.i.drop n0)) (toldOne 98 ns) 1).length ≤ 4900 := by exact unhide Y0
            simp only [List.length_append]
            omega)
          rw [told_join, List.append_assoc, List.append_assoc, ← told_snoc 98 ns k (by rw [unhide HN1]; exact hlt), ← List.append_assoc] at KT
          simp only [List.map_cons, List.map_nil, List.length_cons, List.length_nil] at KT
          have HT := hide KT
          clear KT bx ty hr hx hb hc hkb hin
          generalize ns.getD k noS = tx at *
          go_wp2_with (go_at_call 57; refine (unhide HT).mono ?_; rintro e w5 ⟨rfl, hc5, hk5⟩; have HC5 := hide hc5; have HK5 := hide ((unhide HKs).trans hk5); have HI5 := hide ((unhide HIs).kb hk5 (unhide hlow)); clear hc5 hk5)
          go_round
          case rel => exact ⟨k + 1, by omega, by go_num, unhide HC5, unhide HK5, unhide HI5⟩
          case measure => simp [intOf]; omega
    · clear hj hc hk
      rw [show ((2 : Nat) : Int) = 2 from rfl]
      go_wp2
      go_end0
      refine ⟨rfl, by simpa [tjF] using unhide HC, (Kb.of_below ?_).trans (unhide HK)⟩
      rw [← hw1]; exact bl_al (Below.refl _ _)
end Go.Proofs.YtbkcgkffafjbgaaGreatDoor
/- What a console tells of both queues. -/
namespace Go.Proofs.YtbkcgkffafjbgaaGreatDoor
open Go.RowKit
set_option maxHeartbeats 4000000
set_option maxRecDepth 20000
set_option linter.unusedVariables false
theorem dig_small {n : Nat} (h : n < 10) : Lib.decDigits n = digB n := by
  unfold Lib.decDigits digB
  rw [dif_pos h]
theorem queues35 (base c g : Nat) (z : Tw) (l : List UInt8) (w : World) (h : Con base c g z l w) (hx : z.x.q.length ≤ 8) (hy : z.y.q.length ≤ 8) (hl : l.length ≤ 1073741824) :
    Calls Tryz.prog 35 #[.pointer (some ⟨c, 0, none⟩)] w fun e w' => e = .returned (.tuple #[]) ∧ Con base c g z (l ++ queB z) w' ∧ Kb base c w w' := by
  have H := h
  obtain ⟨q0, i0, q1, i1, lo0, hi0, lo1, hi1, hr, px, py, _⟩ := h.two
  obtain ⟨A0, k0, rfl⟩ : ∃ A k, q0 = .slice A z.x.q.length k := by
    obtain ⟨q, i, e, h1, _⟩ := px
    obtain ⟨rfl, _⟩ := peA_inj e
    exact h1.strs.slice
  obtain ⟨A1, k1, rfl⟩ : ∃ A k, q1 = .slice A z.y.q.length k := by
    obtain ⟨q, i, e, h1, _⟩ := py
    obtain ⟨rfl, _⟩ := peA_inj e
    exact h1.strs.slice
  have K0 := hide (fun W => strconv_Itoa_small z.x.q.length (by omega) W)
  have K1 := hide (fun W => strconv_Itoa_small z.y.q.length (by omega) W)
  rw [dig_small (by omega)] at K0 K1
  have KT := hide (fun W (a : Con base c g z l W) => tellA base c g z l [⟨(digB z.x.q.length).toArray⟩, ⟨(digB z.y.q.length).toArray⟩] W a (by simp) (by simp [joinB, Lib.join, digB, List.intercalate]) hl)
  rw [show joinB [⟨(digB z.x.q.length).toArray⟩, ⟨(digB z.y.q.length).toArray⟩] ++ [10] = queB z by simp [joinB, Lib.join, queB, List.intercalate]] at KT
  simp only [List.map_cons, List.map_nil, List.length_cons, List.length_nil] at KT
  have C0 := hide (fun W (a : Con base c g z l W) => a.c0)
  have HH := hide h
  have HR := hide hr
  have m0 : (z.x.q.length : Int) ≤ 9223372036854775807 := by omega
  have m1 : (z.y.q.length : Int) ≤ 9223372036854775807 := by omega
  generalize z.x.q.length = n0 at *
  generalize z.y.q.length = n1 at *
  generalize (⟨(digB n0).toArray⟩ : ByteArray) = x0 at *
  generalize (⟨(digB n1).toArray⟩ : ByteArray) = x1 at *
  clear h hr px py hl
  go_enter Tryz.func35, Tryz.ntmps35
  go_wp2_with fail
  refine wp_region_held (S := fun W => W.cell? ⟨c, 0, none⟩ = some (.slice (some ⟨g, 0, none⟩) 2 2) ∧ W.cell? ⟨g, 0, none⟩ = some (.slice A0 n0 k0) ∧ W.cell? ⟨g, 4, none⟩ = some (.slice A1 n1 k1)) (by kernel_rfl) ?_
  have hS0 : Below w.heap.size w { w with drawn := w.drawn + 1 } := below_drewN (Below.refl _ _) 1
  obtain ⟨w2, hw2⟩ : ∃ x, x = ({ w with drawn := w.drawn + 1 } : World) := ⟨_, rfl⟩
  rw [← hw2] at hS0 ⊢
  clear hw2
  have C2 := (unhide HH).below hS0
  have R2 := (unhide HR).below hS0
  have S2 : w2.cell? ⟨c, 0, none⟩ = some (.slice (some ⟨g, 0, none⟩) 2 2) ∧ w2.cell? ⟨g, 0, none⟩ = some (.slice A0 n0 k0) ∧ w2.cell? ⟨g, 4, none⟩ = some (.slice A1 n1 k1) := ⟨C2.c0, R2.c0, R2.c4⟩
  have HC2 := hide C2
  have HR2 := hide R2
  clear C2 R2
  refine wpAnyH_take (i := 0) (oi := { dst := some 2, op := Op.move (Operand.tmp 0), type := 66, pos := "l16_console.go:127", after := #[], guard := none }) (v := ?_) rfl (by kernel_rfl) (by kernel_rfl) (by kernel_rfl) (fun _ _ _ h => h) (Or.inl ⟨by rfl, ?_⟩) S2 ?_
  rotate_left
  · intro W hSw
    obtain ⟨a0, a1, a2⟩ := hSw
    go_simp
    try with_reducible rfl
  simp only [Act.put, List.setIfInBounds_toArray, List.set_cons_zero, List.set_cons_succ]
  refine wpAnyH_take (i := 1) (oi := { dst := some 3, op := Op.move (Operand.tmp 0), type := 66, pos := "l16_console.go:127", after := #[], guard := none }) (v := ?_) rfl (by kernel_rfl) (by kernel_rfl) (by kernel_rfl) (fun _ _ _ h => h) (Or.inl ⟨by rfl, ?_⟩) S2 ?_
  rotate_left
  · intro W hSw
    obtain ⟨a0, a1, a2⟩ := hSw
    go_simp
    try with_reducible rfl
  simp only [Act.put, List.setIfInBounds_toArray, List.set_cons_zero, List.set_cons_succ]
  refine wpAnyH_take (i := 2) (oi := { dst := some 4, op := Op.nilCheck (Operand.tmp 3), type := 0, pos := "l16_console.go:127", after := #[{ on := 1, ground := Ground.data }], guard := none }) (v := ?_) rfl (by kernel_rfl) (by kernel_rfl) (by kernel_rfl) (fun _ _ _ h => h) (Or.inl ⟨by rfl, ?_⟩) S2 ?_
  rotate_left
  · intro W hSw
    obtain ⟨a0, a1, a2⟩ := hSw
    go_simp
    try with_reducible rfl
  simp only [Act.put, List.setIfInBounds_toArray, List.set_cons_zero, List.set_cons_succ]
  refine wpAnyH_take (i := 3) (oi := { dst := some 5, op := Op.fieldAddr 47 (Operand.tmp 4) 0, type := 0, pos := "l16_console.go:127", after := #[{ on := 2, ground := Ground.data }], guard := none }) (v := ?_) rfl (by kernel_rfl) (by kernel_rfl) (by kernel_rfl) (fun _ _ _ h => h) (Or.inl ⟨by rfl, ?_⟩) S2 ?_
  rotate_left
  · intro W hSw
    obtain ⟨a0, a1, a2⟩ := hSw
    go_simp
    try with_reducible rfl
  simp only [Act.put, List.setIfInBounds_toArray, List.set_cons_zero, List.set_cons_succ]
  refine wpAnyH_take (i := 4) (oi := { dst := some 6, op := Op.load 42 (Operand.tmp 5), type := 42, pos := "l16_console.go:127", after := #[{ on := 3, ground := Ground.data }], guard := none }) (v := ?_) rfl (by kernel_rfl) (by kernel_rfl) (by kernel_rfl) (fun _ _ _ h => h) (Or.inl ⟨by rfl, ?_⟩) S2 ?_
  rotate_left
  · intro W hSw
    obtain ⟨a0, a1, a2⟩ := hSw
    go_simp
    try with_reducible rfl
  simp only [Act.put, List.setIfInBounds_toArray, List.set_cons_zero, List.set_cons_succ]
  refine wpAnyH_take (i := 5) (oi := { dst := some 7, op := Op.indexAddr 42 (Operand.tmp 6) (Operand.const (Value.int IntKind.i64 0)), type := 0, pos := "l16_console.go:127", after := #[{ on := 4, ground := Ground.data }], guard := none }) (v := ?_) rfl (by kernel_rfl) (by kernel_rfl) (by kernel_rfl) (fun _ _ _ h => h) (Or.inl ⟨by rfl, ?_⟩) S2 ?_
  rotate_left
  · intro W hSw
    obtain ⟨a0, a1, a2⟩ := hSw
    go_simp
    try with_reducible rfl
  simp only [Act.put, List.setIfInBounds_toArray, List.set_cons_zero, List.set_cons_succ]
  refine wpAnyH_take (i := 6) (oi := { dst := some 8, op := Op.fieldAddr 53 (Operand.tmp 7) 0, type := 0, pos := "l16_console.go:127", after := #[{ on := 5, ground := Ground.data }], guard := none }) (v := ?_) rfl (by kernel_rfl) (by kernel_rfl) (by kernel_rfl) (fun _ _ _ h => h) (Or.inl ⟨by rfl, ?_⟩) S2 ?_
  rotate_left
  · intro W hSw
    obtain ⟨a0, a1, a2⟩ := hSw
    go_simp
    try with_reducible rfl
  simp only [Act.put, List.setIfInBounds_toArray, List.set_cons_zero, List.set_cons_succ]
  refine wpAnyH_take (i := 7) (oi := { dst := some 9, op := Op.load 23 (Operand.tmp 8), type := 23, pos := "l16_console.go:127", after := #[{ on := 6, ground := Ground.data }], guard := none }) (v := ?_) rfl (by kernel_rfl) (by kernel_rfl) (by kernel_rfl) (fun _ _ _ h => h) (Or.inl ⟨by rfl, ?_⟩) S2 ?_
  rotate_left
  · intro W hSw
    obtain ⟨a0, a1, a2⟩ := hSw
    go_simp
    try with_reducible rfl
  simp only [Act.put, List.setIfInBounds_toArray, List.set_cons_zero, List.set_cons_succ]
  refine wpAnyH_take (i := 8) (oi := { dst := some 10, op := Op.call { callee := Callee.builtin Builtin.len, args := #[Operand.tmp 9], argTypes := #[23] }, type := 3, pos := "l16_console.go:127", after := #[{ on := 7, ground := Ground.data }], guard := none }) (v := ?_) rfl (by kernel_rfl) (by kernel_rfl) (by kernel_rfl) (fun _ _ _ h => h) (Or.inl ⟨by rfl, ?_⟩) S2 ?_
  rotate_left
  · intro W hSw
    obtain ⟨a0, a1, a2⟩ := hSw
    go_simp
    try with_reducible rfl
  simp only [Act.put, List.setIfInBounds_toArray, List.set_cons_zero, List.set_cons_succ]
  refine wpAnyH_take (i := 10) (oi := { dst := some 12, op := Op.move (Operand.tmp 0), type := 66, pos := "l16_console.go:127", after := #[], guard := none }) (v := ?_) rfl (by kernel_rfl) (by kernel_rfl) (by kernel_rfl) (fun _ _ _ h => h) (Or.inl ⟨by rfl, ?_⟩) S2 ?_
  rotate_left
  · intro W hSw
    obtain ⟨a0, a1, a2⟩ := hSw
    go_simp
    try with_reducible rfl
  simp only [Act.put, List.setIfInBounds_toArray, List.set_cons_zero, List.set_cons_succ]
  refine wpAnyH_take (i := 11) (oi := { dst := some 13, op := Op.nilCheck (Operand.tmp 12), type := 0, pos := "l16_console.go:127", after := #[{ on := 10, ground := Ground.data }], guard := none }) (v := ?_) rfl (by kernel_rfl) (by kernel_rfl) (by kernel_rfl) (fun _ _ _ h => h) (Or.inl ⟨by rfl, ?_⟩) S2 ?_
  rotate_left
  · intro W hSw
    obtain ⟨a0, a1, a2⟩ := hSw
    go_simp
    try with_reducible rfl
  simp only [Act.put, List.setIfInBounds_toArray, List.set_cons_zero, List.set_cons_succ]
  refine wpAnyH_take (i := 12) (oi := { dst := some 14, op := Op.fieldAddr 47 (Operand.tmp 13) 0, type := 0, pos := "l16_console.go:127", after := #[{ on := 11, ground := Ground.data }], guard := none }) (v := ?_) rfl (by kernel_rfl) (by kernel_rfl) (by kernel_rfl) (fun _ _ _ h => h) (Or.inl ⟨by rfl, ?_⟩) S2 ?_
  rotate_left
  · intro W hSw
    obtain ⟨a0, a1, a2⟩ := hSw
    go_simp
    try with_reducible rfl
  simp only [Act.put, List.setIfInBounds_toArray, List.set_cons_zero, List.set_cons_succ]
  refine wpAnyH_take (i := 13) (oi := { dst := some 15, op := Op.load 42 (Operand.tmp 14), type := 42, pos := "l16_console.go:127", after := #[{ on := 12, ground := Ground.data }], guard := none }) (v := ?_) rfl (by kernel_rfl) (by kernel_rfl) (by kernel_rfl) (fun _ _ _ h => h) (Or.inl ⟨by rfl, ?_⟩) S2 ?_
  rotate_left
  · intro W hSw
    obtain ⟨a0, a1, a2⟩ := hSw
    go_simp
    try with_reducible rfl
  simp only [Act.put, List.setIfInBounds_toArray, List.set_cons_zero, List.set_cons_succ]
  refine wpAnyH_take (i := 14) (oi := { dst := some 16, op := Op.indexAddr 42 (Operand.tmp 15) (Operand.const (Value.int IntKind.i64 1)), type := 0, pos := "l16_console.go:127", after := #[{ on := 13, ground := Ground.data }], guard := none }) (v := ?_) rfl (by kernel_rfl) (by kernel_rfl) (by kernel_rfl) (fun _ _ _ h => h) (Or.inl ⟨by rfl, ?_⟩) S2 ?_
  rotate_left
  · intro W hSw
    obtain ⟨a0, a1, a2⟩ := hSw
    go_simp
    try with_reducible rfl
  simp only [Act.put, List.setIfInBounds_toArray, List.set_cons_zero, List.set_cons_succ]
  refine wpAnyH_take (i := 15) (oi := { dst := some 17, op := Op.fieldAddr 53 (Operand.tmp 16) 0, type := 0, pos := "l16_console.go:127", after := #[{ on := 14, ground := Ground.data }], guard := none }) (v := ?_) rfl (by kernel_rfl) (by kernel_rfl) (by kernel_rfl) (fun _ _ _ h => h) (Or.inl ⟨by rfl, ?_⟩) S2 ?_
  rotate_left
  · intro W hSw
    obtain ⟨a0, a1, a2⟩ := hSw
    go_simp
    try with_reducible rfl
  simp only [Act.put, List.setIfInBounds_toArray, List.set_cons_zero, List.set_cons_succ]
  refine wpAnyH_take (i := 16) (oi := { dst := some 18, op := Op.load 23 (Operand.tmp 17), type := 23, pos := "l16_console.go:127", after := #[{ on := 15, ground := Ground.data }], guard := none }) (v := ?_) rfl (by kernel_rfl) (by kernel_rfl) (by kernel_rfl) (fun _ _ _ h => h) (Or.inl ⟨by rfl, ?_⟩) S2 ?_
  rotate_left
  · intro W hSw
    obtain ⟨a0, a1, a2⟩ := hSw
    go_simp
    try with_reducible rfl
  simp only [Act.put, List.setIfInBounds_toArray, List.set_cons_zero, List.set_cons_succ]
  refine wpAnyH_take (i := 17) (oi := { dst := some 19, op := Op.call { callee := Callee.builtin Builtin.len, args := #[Operand.tmp 18], argTypes := #[23] }, type := 3, pos := "l16_console.go:127", after := #[{ on := 16, ground := Ground.data }], guard := none }) (v := ?_) rfl (by kernel_rfl) (by kernel_rfl) (by kernel_rfl) (fun _ _ _ h => h) (Or.inl ⟨by rfl, ?_⟩) S2 ?_
  rotate_left
  · intro W hSw
    obtain ⟨a0, a1, a2⟩ := hSw
    go_simp
    try with_reducible rfl
  simp only [Act.put, List.setIfInBounds_toArray, List.set_cons_zero, List.set_cons_succ]
  refine wpAnyH_one (i := 9) (by kernel_rfl) ?_
  refine wpOp_step (o := { dst := some 11, op := Op.call { callee := Callee.value (Operand.func 58), args := #[Operand.tmp 10], argTypes := #[3] }, type := 9, pos := "l16_console.go:127", after := #[{ on := 8, ground := Ground.data }], guard := none }) rfl fun K' hK => step_enterW (by rfl) 58 #[.int .i64 n0] (by go_simp) ?_
  refine (unhide K0 w2).mono ?_
  rintro e w3 ⟨rfl, e3⟩
  subst e3

  refine ⟨_, rfl, hK _ _ ⟨S2, ?_⟩⟩
  simp only [Act.put, List.setIfInBounds_toArray, List.set_cons_zero, List.set_cons_succ]
  refine wpAnyH_one (i := 18) (by kernel_rfl) ?_
  refine wpOp_step (o := { dst := some 20, op := Op.call { callee := Callee.value (Operand.func 58), args := #[Operand.tmp 19], argTypes := #[3] }, type := 9, pos := "l16_console.go:127", after := #[{ on := 17, ground := Ground.data }, { on := 9, ground := Ground.chain }], guard := none }) rfl fun K' hK => step_enterW (by rfl) 58 #[.int .i64 n1] (by go_simp) ?_
  refine (unhide K1 _).mono ?_
  rintro e w3 ⟨rfl, e3⟩
  subst e3

  refine ⟨_, rfl, hK _ _ ⟨S2, ?_⟩⟩
  simp only [Act.put, List.setIfInBounds_toArray, List.set_cons_zero, List.set_cons_succ]
  have S3 : (w3.alloc (.cells #[.string x0, .string x1] 9)).cell? ⟨c, 0, none⟩ = some (.slice (some ⟨g, 0, none⟩) 2 2) ∧ (w3.alloc (.cells #[.string x0, .string x1] 9)).cell? ⟨g, 0, none⟩ = some (.slice A0 n0 k0) ∧ (w3.alloc (.cells #[.string x0, .string x1] 9)).cell? ⟨g, 4, none⟩ = some (.slice A1 n1 k1) := ⟨((unhide HC2).below (bl_al (Below.refl _ _))).c0, ((unhide HR2).below (bl_al (Below.refl _ _))).c0, ((unhide HR2).below (bl_al (Below.refl _ _))).c4⟩
  refine wpAnyH_one (i := 19) (by kernel_rfl) ?_
  refine wpOp_step (o := { dst := some 21, op := Op.buildSlice 23 2 #[(0, Operand.tmp 11), (1, Operand.tmp 20)], type := 23, pos := "l16_console.go:127", after := #[{ on := 9, ground := Ground.data }, { on := 18, ground := Ground.data }], guard := none }) rfl fun K' hK => step_valueW (by rfl) (.slice (some ⟨w3.heap.size, 0, none⟩) 2 2) (w3.alloc (.cells #[.string x0, .string x1] 9)) (by go_simp) ?_
  refine hK _ _ ⟨S3, ?_⟩
  simp only [Act.put, List.setIfInBounds_toArray, List.set_cons_zero, List.set_cons_succ]
  refine wpAnyH_one (i := 20) (by kernel_rfl) ?_
  refine wpOp_step (o := { dst := some 22, op := Op.call { callee := Callee.value (Operand.func 57), args := #[Operand.tmp 2, Operand.tmp 21], argTypes := #[66, 23] }, type := 0, pos := "l16_console.go:127", after := #[{ on := 0, ground := Ground.data }, { on := 19, ground := Ground.data }, { on := 18, ground := Ground.chain }], guard := none }) rfl fun K' hK => step_enterW (by rfl) 57 #[.pointer (some ⟨c, 0, none⟩), .slice (some ⟨w3.heap.size, 0, none⟩) 2 2] (by go_simp) ?_
  refine (unhide KT _ (unhide HC2)).mono ?_
  rintro e w4 ⟨rfl, c4, k4⟩
  have R4 := (unhide HR2).kb k4 c4.far
  have HR4 := hide (And.intro c4 ((Kb.of_below (c := c) (B := base) hS0).trans k4))

  refine ⟨_, rfl, hK _ _ ⟨⟨c4.c0, R4.c0, R4.c4⟩, ?_⟩⟩
  simp only [Act.put, List.setIfInBounds_toArray, List.set_cons_zero, List.set_cons_succ]
  refine wpAnyH_done (by kernel_rfl) ?_ _
  go_wp2
  go_end0
  exact ⟨rfl, unhide HR4⟩
end Go.Proofs.YtbkcgkffafjbgaaGreatDoor
