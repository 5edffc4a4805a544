/- A round of two who talk, by the program. -/
import Derived.Test.YtbkcgkffafjbgaaGreatDoorFmp
namespace Go.Proofs.YtbkcgkffafjbgaaGreatDoor
open Go.RowKit Go.Maps Go.WideMaps
set_option maxHeartbeats 4000000
set_option maxRecDepth 20000
set_option linter.unusedVariables false
/-- what is done to a map that is none of theirs leaves them -/
theorem ownG.keptC {lo hi : Nat} {W X : World} {v : Value} {ts : List ByteArray} (h : ownG lo hi W v ts) (hk : ∀ (k : Nat) cs t fr, W.heap[k]? = some (Obj.cells cs t fr) → X.heap[k]? = W.heap[k]?) : ownG lo hi X v ts := by
  rcases h with h | ⟨g, off, cap, cs, e, h1, h2, h3, h4, h5⟩
  · exact Or.inl h
  · exact Or.inr ⟨g, off, cap, cs, e, h1, h2, (hk _ _ _ _ h3).trans h3, h4, h5⟩
theorem peO.keptC {lo hi : Nat} {W X : World} {v : Value} {p : Pe} (h : peO lo hi W v p) (hk : ∀ (k : Nat) cs t fr, W.heap[k]? = some (Obj.cells cs t fr) → X.heap[k]? = W.heap[k]?) : peO lo hi X v p := by
  obtain ⟨q, i, e, h1, h2, h3⟩ := h
  exact ⟨q, i, e, h1.keptC hk, h2.keptC hk, h3⟩
theorem TwO.map {base g b : Nat} {z : Tw} {W X : World} (h : TwO base g z W) (hl : Lone b W X) (hb : ∃ es c, W.heap[b]? = some (.map es c)) : TwO base g z X := by
  obtain ⟨es, c, hb⟩ := hb
  have hk : ∀ (k : Nat) cs t fr, W.heap[k]? = some (Obj.cells cs t fr) → X.heap[k]? = W.heap[k]? := fun k cs t fr hc => hl.block k (Array.getElem?_eq_some_iff.1 hc).1 (fun e => by rw [e, hb] at hc; cases hc)
  obtain ⟨q0, i0, q1, i1, lo0, hi0, lo1, hi1, hr, hx, hy, h1, h2, h3, h4, h5, h6⟩ := h
  have := hl.size
  exact ⟨q0, i0, q1, i1, lo0, hi0, lo1, hi1, (hk _ _ _ _ hr).trans hr, hx.keptC hk, hy.keptC hk, h1, h2, h3, by omega, by omega, h6⟩
theorem owns_is {W : World} {b n : Nat} {D : DataW Unit} (h : W.ownsMap Tryz.prog 124 frE b n D) : ∃ es c, W.heap[b]? = some (.map es c) := by
  obtain ⟨es, c, e, _⟩ := h; exact ⟨es, c, e⟩
theorem owns_new (w : World) (o : Obj) : ((w.alloc o).alloc (.map #[] 0)).ownsMap Tryz.prog 124 frE (w.heap.size + 1) 0 (.map []) := by
  have e : (w.alloc o).heap.size = w.heap.size + 1 := by simp
  have := World.ownsMap_made (w.alloc o) Tryz.prog 124 frE
  rw [e] at this
  exact this
def zJ (x y : Pe) (z : Tw) (j : Nat) : Tw := if j = 0 then z else if j = 1 then ⟨x, z.y⟩ else ⟨x, y⟩
theorem lone_past {q b : Nat} {w W X : World} (h : Lone q w W) (hl : Lone b W X) (hb : w.heap.size ≤ b) : Lone q w X :=
  ⟨hl.os.trans h.os, hl.tape.trans h.tape, hl.output.trans h.output, Nat.le_trans h.size hl.size, fun k hk hq => (hl.block k (Nat.lt_of_lt_of_le hk h.size) (by omega)).trans (h.block k hk hq)⟩
def Dj (f0 f1 : Fr) (j : Nat) : DataW Unit := if j = 0 then .map [] else if j = 1 then (DataW.map []).put k01 (frD f0) else D2 f0 f1
theorem rnd_one (base g : Nat) (z : Tw) (a : Ta) (w : World) (h : TwO base g z w) (hB : base ≤ w.heap.size) (ox : peOK z.x = true) (oy : peOK z.y = true) (fx : peFew z.x) (fy : peFew z.y) :
    Calls Tryz.prog 81 #[.slice (some ⟨g, 0, none⟩) 2 2, taA a.k a.w a.t a.la a.lb] w fun e w' => e = .returned (.tuple #[]) ∧ TwO base g (rndF z a.la a.lb) w' ∧ Lone g w w' := by
  have hmm := @run_makeMap Tryz.prog
  have KO0 := hide (fun u W (hu : peV W u z.x) => by have K := out23 u z.x W hu fx; rw [outR_in ox] at K; exact K)
  have KO1 := hide (fun u W (hu : peV W u z.y) => by have K := out23 u z.y W hu fy; rw [outR_in oy] at K; exact K)
  have KI0 := hide (fun u W (hu : peV W u z.x) => by have K := pin18 u z.x (outF z.y) W hu fx (body_out oy); rw [inR_in ox oy] at K; exact K)
  have KI1 := hide (fun u W (hu : peV W u z.y) => by have K := pin18 u z.y (outF z.x) W hu fy (body_out ox); rw [inR_in oy ox] at K; exact K)
  obtain ⟨k, wh, tt, la, lb⟩ := a
  dsimp only at *
  generalize hf0 : outF z.x = f0 at *
  generalize hf1 : outF z.y = f1 at *
  generalize hy0 : inF z.x f1 = y0 at *
  generalize hy1 : inF z.y f0 = y1 at *
  have HG : Hid (g < base ∧ base ≤ w.heap.size) := hide ⟨by obtain ⟨_, _, _, _, _, _, _, _, _, _, _, gb, _⟩ := h; exact gb, hB⟩
  have HT0 := hide ((h.below (bl_al (o := .cells #[.int .i64 k, .int .i64 wh, .string tt, .bool la, .bool lb] 27) (Below.refl _ _))).below (bl_al (o := .map #[] 0) (Below.refl _ _)))
  have HA0 : Hid (((w.alloc (.cells #[.int .i64 k, .int .i64 wh, .string tt, .bool la, .bool lb] 27)).alloc (.map #[] 0)).heap[w.heap.size]? = some (.cells #[.int .i64 k, .int .i64 wh, .string tt, .bool la, .bool lb] 27 (0, 0))) := hide (((bl_al (Below.refl _ _)).block _ (by simp)).trans (heap_alloc_new w _))
  have HB0 : Hid (Below w.heap.size w ((w.alloc (.cells #[.int .i64 k, .int .i64 wh, .string tt, .bool la, .bool lb] 27)).alloc (.map #[] 0))) := hide (bl_al (bl_al (Below.refl _ _)))
  have HO0 := hide (owns_new w (.cells #[.int .i64 k, .int .i64 wh, .string tt, .bool la, .bool lb] 27))
  clear h hB
  go_enter Tryz.func81, Tryz.ntmps81
  go_wp2_with fail
  generalize (w.alloc (.cells #[.int .i64 k, .int .i64 wh, .string tt, .bool la, .bool lb] 27)).alloc (.map #[] 0) = wm at *
  go_loopw [14] (fun i wr => ∃ (j : Nat) (D : DataW Unit), j ≤ 2 ∧ i = .int .i64 j ∧ wr.ownsMap Tryz.prog 124 frE (w.heap.size + 1) j D ∧ D = Dj f0 f1 j ∧ TwO base g z wr ∧ wr.heap[w.heap.size]? = some (.cells #[.int .i64 k, .int .i64 wh, .string tt, .bool la, .bool lb] 27 (0, 0)) ∧ Below w.heap.size w wr) (fun i _ => 2 - (intOf i).toNat)
  case atStart => exact ⟨0, _, by omega, rfl, unhide HO0, rfl, unhide HT0, unhide HA0, unhide HB0⟩
  case round =>
    obtain ⟨j, D, hj, rfl, own, hD, ht, ha, hb⟩ := hrel
    have HO := hide own
    have HT := hide ht
    have HA := hide ha
    have HB := hide hb
    clear own ht ha hb HT0 HA0 HB0 HO0
    rcases (by omega : j = 0 ∨ j = 1 ∨ j = 2) with rfl | rfl | rfl
    · subst hD
      clear hj
      obtain ⟨q0, i0, q1, i1, lo0, hi0, lo1, hi1, hr, hx, hy, gb, b0, b1, z0, z1, dj⟩ := unhide HT
      have ⟨A0, r0, C0, r1, e0⟩ := hx.pe.slices
      have ⟨A1, r2, C1, r3, e1⟩ := hy.pe.slices
      obtain ⟨rfl, rfl⟩ := peA_inj e0
      obtain ⟨rfl, rfl⟩ := peA_inj e1
      clear e0 e1
      have k0 := hr.c0
      have k1 := hr.c1
      have k2 := hr.c2
      have k3 := hr.c3
      have HV := hide (hx.pe.below (bl_al (o := .cells #[.slice A0 z.x.q.length r0, .int .i64 z.x.s, .int .i64 z.x.e, .slice C0 z.x.i.length r1] 53) (Below.refl _ _)))
      have HC := hide (heap_alloc_new wr (.cells #[.slice A0 z.x.q.length r0, .int .i64 z.x.s, .int .i64 z.x.e, .slice C0 z.x.i.length r1] 53))
      have HM3 := hide (unhide HO).lt
      clear hr hx hy
      go_wp2_with fail
      refine wp_region_held (S := fun _ => True) (by kernel_rfl) ?_
      have s2 : Below (wr.alloc (.cells #[.slice A0 z.x.q.length r0, .int .i64 z.x.s, .int .i64 z.x.e, .slice C0 z.x.i.length r1] 53)).heap.size (wr.alloc (.cells #[.slice A0 z.x.q.length r0, .int .i64 z.x.s, .int .i64 z.x.e, .slice C0 z.x.i.length r1] 53)) { (wr.alloc (.cells #[.slice A0 z.x.q.length r0, .int .i64 z.x.s, .int .i64 z.x.e, .slice C0 z.x.i.length r1] 53)) with drawn := (wr.alloc (.cells #[.slice A0 z.x.q.length r0, .int .i64 z.x.s, .int .i64 z.x.e, .slice C0 z.x.i.length r1] 53)).drawn + 1 } := below_drewN (Below.refl _ _) 1
      obtain ⟨w2, hw2⟩ : ∃ x, x = ({ (wr.alloc (.cells #[.slice A0 z.x.q.length r0, .int .i64 z.x.s, .int .i64 z.x.e, .slice C0 z.x.i.length r1] 53)) with drawn := (wr.alloc (.cells #[.slice A0 z.x.q.length r0, .int .i64 z.x.s, .int .i64 z.x.e, .slice C0 z.x.i.length r1] 53)).drawn + 1 } : World) := ⟨_, rfl⟩
      rw [← hw2] at s2 ⊢
      have RC := (s2.block _ (Array.getElem?_eq_some_iff.1 (unhide HC)).1).trans (unhide HC)
      have k0 := row_cell (i := 0) RC
      have k1 := row_cell (i := 1) RC
      have k2 := row_cell (i := 2) RC
      have k3 := row_cell (i := 3) RC
      simp at k0 k1 k2 k3
      clear hw2 RC
      refine wpAnyH_take (i := 0) (oi := { dst := some 20, op := Op.move (Operand.tmp 4), type := 120, pos := "l15_talk.go:127", after := #[], guard := none }) (v := ?_) rfl (by kernel_rfl) (by kernel_rfl) (by kernel_rfl) (fun _ _ _ h => h) (Or.inl ⟨by rfl, ?_⟩) trivial ?_
      rotate_left
      · intro W hSw
        go_simp
        try with_reducible rfl
      simp only [Act.put, List.setIfInBounds_toArray, List.set_cons_zero, List.set_cons_succ]
      refine wpAnyH_take (i := 1) (oi := { dst := some 21, op := Op.move (Operand.tmp 5), type := 3, pos := "l15_talk.go:127", after := #[], guard := none }) (v := ?_) rfl (by kernel_rfl) (by kernel_rfl) (by kernel_rfl) (fun _ _ _ h => h) (Or.inl ⟨by rfl, ?_⟩) trivial ?_
      rotate_left
      · intro W hSw
        go_simp
        try with_reducible rfl
      simp only [Act.put, List.setIfInBounds_toArray, List.set_cons_zero, List.set_cons_succ]
      refine wpAnyH_take (i := 2) (oi := { dst := some 22, op := Op.move (Operand.tmp 5), type := 3, pos := "l15_talk.go:127", after := #[], guard := none }) (v := ?_) rfl (by kernel_rfl) (by kernel_rfl) (by kernel_rfl) (fun _ _ _ h => h) (Or.inl ⟨by rfl, ?_⟩) trivial ?_
      rotate_left
      · intro W hSw
        go_simp
        try with_reducible rfl
      simp only [Act.put, List.setIfInBounds_toArray, List.set_cons_zero, List.set_cons_succ]
      refine wpAnyH_two (i := 3) (j := 5) (by kernel_rfl) ?_ ?_
      · refine wpOp_step (o := { dst := some 23, op := Op.call { callee := Callee.value (Operand.func 96), args := #[Operand.tmp 22], argTypes := #[3] }, type := 3, pos := "l15_talk.go:127", after := #[{ on := 2, ground := Ground.data }], guard := none }) rfl fun K' hK => step_enterW (by rfl) 96 #[.int .i64 0] (by go_simp) ((other88 0 _ (Or.inl rfl)).mono ?_)
        rintro e w2b ⟨rfl, hwb⟩
        have hwb := hwb.symm
        subst hwb

        refine ⟨_, rfl, hK _ _ ⟨trivial, ?_⟩⟩
        simp only [Act.put, List.setIfInBounds_toArray, List.set_cons_zero, List.set_cons_succ]
        refine wpAnyH_take (i := 4) (oi := { dst := some 24, op := Op.build 124 #[(0, Operand.tmp 21), (1, Operand.tmp 23)], type := 124, pos := "l15_talk.go:127", after := #[{ on := 1, ground := Ground.data }, { on := 3, ground := Ground.data }], guard := none }) (v := ?_) rfl (by kernel_rfl) (by kernel_rfl) (by kernel_rfl) (fun _ _ _ h => h) (Or.inl ⟨by rfl, ?_⟩) trivial ?_
        rotate_left
        · intro W hSw
          go_simp
          try with_reducible rfl
        simp only [Act.put, List.setIfInBounds_toArray, List.set_cons_zero, List.set_cons_succ]
        refine wpAnyH_one (i := 5) (by kernel_rfl) ?_
        refine wpOp_step (o := { dst := some 25, op := Op.load 53 (Operand.tmp 6), type := 53, pos := "l15_talk.go:127", after := #[], guard := none }) rfl fun K' hK => step_valueW (by rfl) (peA (.slice A0 z.x.q.length r0) z.x.s z.x.e (.slice C0 z.x.i.length r1)) (w2) (by go_simp) ?_
        refine hK _ _ ⟨trivial, ?_⟩
        simp only [Act.put, List.setIfInBounds_toArray, List.set_cons_zero, List.set_cons_succ]
        refine wpAnyH_one (i := 6) (by kernel_rfl) ?_
        refine wpOp_step (o := { dst := some 26, op := Op.call { callee := Callee.value (Operand.func 95), args := #[Operand.tmp 25], argTypes := #[53] }, type := 121, pos := "l15_talk.go:127", after := #[{ on := 5, ground := Ground.data }, { on := 3, ground := Ground.chain }], guard := none }) rfl fun K' hK => step_enterW (by rfl) 95 #[peA (.slice A0 z.x.q.length r0) z.x.s z.x.e (.slice C0 z.x.i.length r1)] (by go_simp) ((unhide KO0 _ _ ((unhide HV).below s2)).mono ?_)
        rintro e w3 ⟨rfl, b3⟩
        have s3 := bl_st b3 s2

        refine ⟨_, rfl, hK _ _ ⟨trivial, ?_⟩⟩
        simp only [Act.put, List.setIfInBounds_toArray, List.set_cons_zero, List.set_cons_succ]
        refine wpAnyH_take (i := 7) (oi := { dst := some 19, op := Op.move (Operand.tmp 26), type := 121, pos := "l15_talk.go:127", after := #[{ on := 6, ground := Ground.data }], guard := none }) (v := ?_) rfl (by kernel_rfl) (by kernel_rfl) (by kernel_rfl) (fun _ _ _ h => h) (Or.inl ⟨by rfl, ?_⟩) trivial ?_
        rotate_left
        · intro W hSw
          go_simp
          try with_reducible rfl
        simp only [Act.put, List.setIfInBounds_toArray, List.set_cons_zero, List.set_cons_succ]
        refine wpAnyH_take (i := 8) (oi := { dst := some 27, op := Op.extract (Operand.tmp 19) 0, type := 75, pos := "l15_talk.go:127", after := #[{ on := 7, ground := Ground.data }], guard := none }) (v := ?_) rfl (by kernel_rfl) (by kernel_rfl) (by kernel_rfl) (fun _ _ _ h => h) (Or.inl ⟨by rfl, ?_⟩) trivial ?_
        rotate_left
        · intro W hSw
          go_simp
          try with_reducible rfl
        simp only [Act.put, List.setIfInBounds_toArray, List.set_cons_zero, List.set_cons_succ]
        refine wpAnyH_take (i := 9) (oi := { dst := some 28, op := Op.extract (Operand.tmp 19) 1, type := 3, pos := "l15_talk.go:127", after := #[{ on := 7, ground := Ground.data }, { on := 10, ground := Ground.gcOnly Departure.lateStores }], guard := none }) (v := ?_) rfl (by kernel_rfl) (by kernel_rfl) (by kernel_rfl) (fun _ _ _ h => h) (Or.inl ⟨by rfl, ?_⟩) trivial ?_
        rotate_left
        · intro W hSw
          go_simp
          try with_reducible rfl
        simp only [Act.put, List.setIfInBounds_toArray, List.set_cons_zero, List.set_cons_succ]
        have own3 := own_lone (q := w3.heap.size) ((unhide HO).alloc (.cells #[.slice A0 z.x.q.length r0, .int .i64 z.x.s, .int .i64 z.x.e, .slice C0 z.x.i.length r1] 53)) (Lone.of_below s3) (by have := (unhide HO).lt; have := s3.size; simp at this; omega)
        obtain ⟨w4, hrun, own4, gr4⟩ := own3.update lawLeg Tryz.underlying120 (by decide) key01 (frE_mk f0)
        refine wpAnyH_one (i := 10) (by kernel_rfl) ?_
        refine wpOp_step (o := { dst := none, op := Op.mapUpdate 120 (Operand.tmp 20) (Operand.tmp 24) (Operand.tmp 27), type := 0, pos := "l15_talk.go:127", after := #[{ on := 0, ground := Ground.data }, { on := 4, ground := Ground.data }, { on := 8, ground := Ground.data }, { on := 6, ground := Ground.chain }, { on := 0, ground := Ground.phase }, { on := 1, ground := Ground.phase }, { on := 2, ground := Ground.phase }, { on := 3, ground := Ground.phase }, { on := 4, ground := Ground.phase }, { on := 5, ground := Ground.phase }, { on := 6, ground := Ground.phase }, { on := 7, ground := Ground.phase }, { on := 8, ground := Ground.phase }, { on := 9, ground := Ground.textOnly Departure.lateStores }], guard := none }) rfl fun K' hK => step_skipW (by rfl) (w4) (by go_simp) ?_
        refine hK _ _ ⟨trivial, ?_⟩
        try simp only [Act.put]
        refine wpAnyH_done (by kernel_rfl) ?_ _
        have L4 : Lone (w.heap.size + 1) w3 w4 := ⟨gr4.os, gr4.tape, gr4.output, gr4.size, fun k hk hne => gr4.block k hk (by intro e; injection e with e; exact hne e)⟩
        have HT4 := hide ((((unhide HT).below (bl_al (o := .cells #[.slice A0 z.x.q.length r0, .int .i64 z.x.s, .int .i64 z.x.e, .slice C0 z.x.i.length r1] 53) (Below.refl _ _))).below s3).map L4 (owns_is own3))
        have HA4 := hide ((L4.block _ (by have := (Array.getElem?_eq_some_iff.1 (unhide HA)).1; have := s3.size; simp at this; omega) (by omega)).trans ((s3.block _ (by have := (Array.getElem?_eq_some_iff.1 (unhide HA)).1; simp; omega)).trans (((bl_al (o := .cells #[.slice A0 z.x.q.length r0, .int .i64 z.x.s, .int .i64 z.x.e, .slice C0 z.x.i.length r1] 53) (Below.refl _ _)).block _ (Array.getElem?_eq_some_iff.1 (unhide HA)).1).trans (unhide HA))))
        have HB4 := hide (below_grown (bl_st s3 (bl_al (o := .cells #[.slice A0 z.x.q.length r0, .int .i64 z.x.s, .int .i64 z.x.e, .slice C0 z.x.i.length r1] 53) (unhide HB))) gr4 (by omega) (by have := (bl_st s3 (bl_al (o := .cells #[.slice A0 z.x.q.length r0, .int .i64 z.x.s, .int .i64 z.x.e, .slice C0 z.x.i.length r1] 53) (unhide HB))).size; omega))
        go_wp2
        refine ⟨⟨1, _, by omega, by go_num, own4, rfl, unhide HT4, unhide HA4, unhide HB4⟩, ?_⟩
        simp [intOf]
      · refine wpOp_step (o := { dst := some 25, op := Op.load 53 (Operand.tmp 6), type := 53, pos := "l15_talk.go:127", after := #[], guard := none }) rfl fun K' hK => step_valueW (by rfl) (peA (.slice A0 z.x.q.length r0) z.x.s z.x.e (.slice C0 z.x.i.length r1)) (w2) (by go_simp) ?_
        refine hK _ _ ⟨trivial, ?_⟩
        simp only [Act.put, List.setIfInBounds_toArray, List.set_cons_zero, List.set_cons_succ]
        refine wpAnyH_one (i := 3) (by kernel_rfl) ?_
        refine wpOp_step (o := { dst := some 23, op := Op.call { callee := Callee.value (Operand.func 96), args := #[Operand.tmp 22], argTypes := #[3] }, type := 3, pos := "l15_talk.go:127", after := #[{ on := 2, ground := Ground.data }], guard := none }) rfl fun K' hK => step_enterW (by rfl) 96 #[.int .i64 0] (by go_simp) ((other88 0 _ (Or.inl rfl)).mono ?_)
        rintro e w2b ⟨rfl, hwb⟩
        have hwb := hwb.symm
        subst hwb

        refine ⟨_, rfl, hK _ _ ⟨trivial, ?_⟩⟩
        simp only [Act.put, List.setIfInBounds_toArray, List.set_cons_zero, List.set_cons_succ]
        refine wpAnyH_take (i := 4) (oi := { dst := some 24, op := Op.build 124 #[(0, Operand.tmp 21), (1, Operand.tmp 23)], type := 124, pos := "l15_talk.go:127", after := #[{ on := 1, ground := Ground.data }, { on := 3, ground := Ground.data }], guard := none }) (v := ?_) rfl (by kernel_rfl) (by kernel_rfl) (by kernel_rfl) (fun _ _ _ h => h) (Or.inl ⟨by rfl, ?_⟩) trivial ?_
        rotate_left
        · intro W hSw
          go_simp
          try with_reducible rfl
        simp only [Act.put, List.setIfInBounds_toArray, List.set_cons_zero, List.set_cons_succ]
        refine wpAnyH_one (i := 6) (by kernel_rfl) ?_
        refine wpOp_step (o := { dst := some 26, op := Op.call { callee := Callee.value (Operand.func 95), args := #[Operand.tmp 25], argTypes := #[53] }, type := 121, pos := "l15_talk.go:127", after := #[{ on := 5, ground := Ground.data }, { on := 3, ground := Ground.chain }], guard := none }) rfl fun K' hK => step_enterW (by rfl) 95 #[peA (.slice A0 z.x.q.length r0) z.x.s z.x.e (.slice C0 z.x.i.length r1)] (by go_simp) ((unhide KO0 _ _ ((unhide HV).below s2)).mono ?_)
        rintro e w3 ⟨rfl, b3⟩
        have s3 := bl_st b3 s2

        refine ⟨_, rfl, hK _ _ ⟨trivial, ?_⟩⟩
        simp only [Act.put, List.setIfInBounds_toArray, List.set_cons_zero, List.set_cons_succ]
        refine wpAnyH_take (i := 7) (oi := { dst := some 19, op := Op.move (Operand.tmp 26), type := 121, pos := "l15_talk.go:127", after := #[{ on := 6, ground := Ground.data }], guard := none }) (v := ?_) rfl (by kernel_rfl) (by kernel_rfl) (by kernel_rfl) (fun _ _ _ h => h) (Or.inl ⟨by rfl, ?_⟩) trivial ?_
        rotate_left
        · intro W hSw
          go_simp
          try with_reducible rfl
        simp only [Act.put, List.setIfInBounds_toArray, List.set_cons_zero, List.set_cons_succ]
        refine wpAnyH_take (i := 8) (oi := { dst := some 27, op := Op.extract (Operand.tmp 19) 0, type := 75, pos := "l15_talk.go:127", after := #[{ on := 7, ground := Ground.data }], guard := none }) (v := ?_) rfl (by kernel_rfl) (by kernel_rfl) (by kernel_rfl) (fun _ _ _ h => h) (Or.inl ⟨by rfl, ?_⟩) trivial ?_
        rotate_left
        · intro W hSw
          go_simp
          try with_reducible rfl
        simp only [Act.put, List.setIfInBounds_toArray, List.set_cons_zero, List.set_cons_succ]
        refine wpAnyH_take (i := 9) (oi := { dst := some 28, op := Op.extract (Operand.tmp 19) 1, type := 3, pos := "l15_talk.go:127", after := #[{ on := 7, ground := Ground.data }, { on := 10, ground := Ground.gcOnly Departure.lateStores }], guard := none }) (v := ?_) rfl (by kernel_rfl) (by kernel_rfl) (by kernel_rfl) (fun _ _ _ h => h) (Or.inl ⟨by rfl, ?_⟩) trivial ?_
        rotate_left
        · intro W hSw
          go_simp
          try with_reducible rfl
        simp only [Act.put, List.setIfInBounds_toArray, List.set_cons_zero, List.set_cons_succ]
        have own3 := own_lone (q := w3.heap.size) ((unhide HO).alloc (.cells #[.slice A0 z.x.q.length r0, .int .i64 z.x.s, .int .i64 z.x.e, .slice C0 z.x.i.length r1] 53)) (Lone.of_below s3) (by have := (unhide HO).lt; have := s3.size; simp at this; omega)
        obtain ⟨w4, hrun, own4, gr4⟩ := own3.update lawLeg Tryz.underlying120 (by decide) key01 (frE_mk f0)
        refine wpAnyH_one (i := 10) (by kernel_rfl) ?_
        refine wpOp_step (o := { dst := none, op := Op.mapUpdate 120 (Operand.tmp 20) (Operand.tmp 24) (Operand.tmp 27), type := 0, pos := "l15_talk.go:127", after := #[{ on := 0, ground := Ground.data }, { on := 4, ground := Ground.data }, { on := 8, ground := Ground.data }, { on := 6, ground := Ground.chain }, { on := 0, ground := Ground.phase }, { on := 1, ground := Ground.phase }, { on := 2, ground := Ground.phase }, { on := 3, ground := Ground.phase }, { on := 4, ground := Ground.phase }, { on := 5, ground := Ground.phase }, { on := 6, ground := Ground.phase }, { on := 7, ground := Ground.phase }, { on := 8, ground := Ground.phase }, { on := 9, ground := Ground.textOnly Departure.lateStores }], guard := none }) rfl fun K' hK => step_skipW (by rfl) (w4) (by go_simp) ?_
        refine hK _ _ ⟨trivial, ?_⟩
        try simp only [Act.put]
        refine wpAnyH_done (by kernel_rfl) ?_ _
        have L4 : Lone (w.heap.size + 1) w3 w4 := ⟨gr4.os, gr4.tape, gr4.output, gr4.size, fun k hk hne => gr4.block k hk (by intro e; injection e with e; exact hne e)⟩
        have HT4 := hide ((((unhide HT).below (bl_al (o := .cells #[.slice A0 z.x.q.length r0, .int .i64 z.x.s, .int .i64 z.x.e, .slice C0 z.x.i.length r1] 53) (Below.refl _ _))).below s3).map L4 (owns_is own3))
        have HA4 := hide ((L4.block _ (by have := (Array.getElem?_eq_some_iff.1 (unhide HA)).1; have := s3.size; simp at this; omega) (by omega)).trans ((s3.block _ (by have := (Array.getElem?_eq_some_iff.1 (unhide HA)).1; simp; omega)).trans (((bl_al (o := .cells #[.slice A0 z.x.q.length r0, .int .i64 z.x.s, .int .i64 z.x.e, .slice C0 z.x.i.length r1] 53) (Below.refl _ _)).block _ (Array.getElem?_eq_some_iff.1 (unhide HA)).1).trans (unhide HA))))
        have HB4 := hide (below_grown (bl_st s3 (bl_al (o := .cells #[.slice A0 z.x.q.length r0, .int .i64 z.x.s, .int .i64 z.x.e, .slice C0 z.x.i.length r1] 53) (unhide HB))) gr4 (by omega) (by have := (bl_st s3 (bl_al (o := .cells #[.slice A0 z.x.q.length r0, .int .i64 z.x.s, .int .i64 z.x.e, .slice C0 z.x.i.length r1] 53) (unhide HB))).size; omega))
        go_wp2
        refine ⟨⟨1, _, by omega, by go_num, own4, rfl, unhide HT4, unhide HA4, unhide HB4⟩, ?_⟩
        simp [intOf]
    · subst hD
      clear hj
      obtain ⟨q0, i0, q1, i1, lo0, hi0, lo1, hi1, hr, hx, hy, gb, b0, b1, z0, z1, dj⟩ := unhide HT
      have ⟨A0, r0, C0, r1, e0⟩ := hx.pe.slices
      have ⟨A1, r2, C1, r3, e1⟩ := hy.pe.slices
      obtain ⟨rfl, rfl⟩ := peA_inj e0
      obtain ⟨rfl, rfl⟩ := peA_inj e1
      clear e0 e1
      have k4 := hr.c4
      have k5 := hr.c5
      have k6 := hr.c6
      have k7 := hr.c7
      have HV := hide (hy.pe.below (bl_al (o := .cells #[.slice A1 z.y.q.length r2, .int .i64 z.y.s, .int .i64 z.y.e, .slice C1 z.y.i.length r3] 53) (Below.refl _ _)))
      have HC := hide (heap_alloc_new wr (.cells #[.slice A1 z.y.q.length r2, .int .i64 z.y.s, .int .i64 z.y.e, .slice C1 z.y.i.length r3] 53))
      have HM3 := hide (unhide HO).lt
      clear hr hx hy
      go_wp2_with fail
      refine wp_region_held (S := fun _ => True) (by kernel_rfl) ?_
      have s2 : Below (wr.alloc (.cells #[.slice A1 z.y.q.length r2, .int .i64 z.y.s, .int .i64 z.y.e, .slice C1 z.y.i.length r3] 53)).heap.size (wr.alloc (.cells #[.slice A1 z.y.q.length r2, .int .i64 z.y.s, .int .i64 z.y.e, .slice C1 z.y.i.length r3] 53)) { (wr.alloc (.cells #[.slice A1 z.y.q.length r2, .int .i64 z.y.s, .int .i64 z.y.e, .slice C1 z.y.i.length r3] 53)) with drawn := (wr.alloc (.cells #[.slice A1 z.y.q.length r2, .int .i64 z.y.s, .int .i64 z.y.e, .slice C1 z.y.i.length r3] 53)).drawn + 1 } := below_drewN (Below.refl _ _) 1
      obtain ⟨w2, hw2⟩ : ∃ x, x = ({ (wr.alloc (.cells #[.slice A1 z.y.q.length r2, .int .i64 z.y.s, .int .i64 z.y.e, .slice C1 z.y.i.length r3] 53)) with drawn := (wr.alloc (.cells #[.slice A1 z.y.q.length r2, .int .i64 z.y.s, .int .i64 z.y.e, .slice C1 z.y.i.length r3] 53)).drawn + 1 } : World) := ⟨_, rfl⟩
      rw [← hw2] at s2 ⊢
      have RC := (s2.block _ (Array.getElem?_eq_some_iff.1 (unhide HC)).1).trans (unhide HC)
      have k0 := row_cell (i := 0) RC
      have k1 := row_cell (i := 1) RC
      have k2 := row_cell (i := 2) RC
      have k3 := row_cell (i := 3) RC
      simp at k0 k1 k2 k3
      clear hw2 RC k4 k5 k6 k7
      refine wpAnyH_take (i := 0) (oi := { dst := some 20, op := Op.move (Operand.tmp 4), type := 120, pos := "l15_talk.go:127", after := #[], guard := none }) (v := ?_) rfl (by kernel_rfl) (by kernel_rfl) (by kernel_rfl) (fun _ _ _ h => h) (Or.inl ⟨by rfl, ?_⟩) trivial ?_
      rotate_left
      · intro W hSw
        go_simp
        try with_reducible rfl
      simp only [Act.put, List.setIfInBounds_toArray, List.set_cons_zero, List.set_cons_succ]
      refine wpAnyH_take (i := 1) (oi := { dst := some 21, op := Op.move (Operand.tmp 5), type := 3, pos := "l15_talk.go:127", after := #[], guard := none }) (v := ?_) rfl (by kernel_rfl) (by kernel_rfl) (by kernel_rfl) (fun _ _ _ h => h) (Or.inl ⟨by rfl, ?_⟩) trivial ?_
      rotate_left
      · intro W hSw
        go_simp
        try with_reducible rfl
      simp only [Act.put, List.setIfInBounds_toArray, List.set_cons_zero, List.set_cons_succ]
      refine wpAnyH_take (i := 2) (oi := { dst := some 22, op := Op.move (Operand.tmp 5), type := 3, pos := "l15_talk.go:127", after := #[], guard := none }) (v := ?_) rfl (by kernel_rfl) (by kernel_rfl) (by kernel_rfl) (fun _ _ _ h => h) (Or.inl ⟨by rfl, ?_⟩) trivial ?_
      rotate_left
      · intro W hSw
        go_simp
        try with_reducible rfl
      simp only [Act.put, List.setIfInBounds_toArray, List.set_cons_zero, List.set_cons_succ]
      refine wpAnyH_two (i := 3) (j := 5) (by kernel_rfl) ?_ ?_
      · refine wpOp_step (o := { dst := some 23, op := Op.call { callee := Callee.value (Operand.func 96), args := #[Operand.tmp 22], argTypes := #[3] }, type := 3, pos := "l15_talk.go:127", after := #[{ on := 2, ground := Ground.data }], guard := none }) rfl fun K' hK => step_enterW (by rfl) 96 #[.int .i64 1] (by go_simp) ((other88 1 _ (Or.inr rfl)).mono ?_)
        rintro e w2b ⟨rfl, hwb⟩
        have hwb := hwb.symm
        subst hwb

        refine ⟨_, rfl, hK _ _ ⟨trivial, ?_⟩⟩
        simp only [Act.put, List.setIfInBounds_toArray, List.set_cons_zero, List.set_cons_succ]
        refine wpAnyH_take (i := 4) (oi := { dst := some 24, op := Op.build 124 #[(0, Operand.tmp 21), (1, Operand.tmp 23)], type := 124, pos := "l15_talk.go:127", after := #[{ on := 1, ground := Ground.data }, { on := 3, ground := Ground.data }], guard := none }) (v := ?_) rfl (by kernel_rfl) (by kernel_rfl) (by kernel_rfl) (fun _ _ _ h => h) (Or.inl ⟨by rfl, ?_⟩) trivial ?_
        rotate_left
        · intro W hSw
          go_simp
          try with_reducible rfl
        simp only [Act.put, List.setIfInBounds_toArray, List.set_cons_zero, List.set_cons_succ]
        refine wpAnyH_one (i := 5) (by kernel_rfl) ?_
        refine wpOp_step (o := { dst := some 25, op := Op.load 53 (Operand.tmp 6), type := 53, pos := "l15_talk.go:127", after := #[], guard := none }) rfl fun K' hK => step_valueW (by rfl) (peA (.slice A1 z.y.q.length r2) z.y.s z.y.e (.slice C1 z.y.i.length r3)) (w2) (by go_simp) ?_
        refine hK _ _ ⟨trivial, ?_⟩
        simp only [Act.put, List.setIfInBounds_toArray, List.set_cons_zero, List.set_cons_succ]
        refine wpAnyH_one (i := 6) (by kernel_rfl) ?_
        refine wpOp_step (o := { dst := some 26, op := Op.call { callee := Callee.value (Operand.func 95), args := #[Operand.tmp 25], argTypes := #[53] }, type := 121, pos := "l15_talk.go:127", after := #[{ on := 5, ground := Ground.data }, { on := 3, ground := Ground.chain }], guard := none }) rfl fun K' hK => step_enterW (by rfl) 95 #[peA (.slice A1 z.y.q.length r2) z.y.s z.y.e (.slice C1 z.y.i.length r3)] (by go_simp) ((unhide KO1 _ _ ((unhide HV).below s2)).mono ?_)
        rintro e w3 ⟨rfl, b3⟩
        have s3 := bl_st b3 s2

        refine ⟨_, rfl, hK _ _ ⟨trivial, ?_⟩⟩
        simp only [Act.put, List.setIfInBounds_toArray, List.set_cons_zero, List.set_cons_succ]
        refine wpAnyH_take (i := 7) (oi := { dst := some 19, op := Op.move (Operand.tmp 26), type := 121, pos := "l15_talk.go:127", after := #[{ on := 6, ground := Ground.data }], guard := none }) (v := ?_) rfl (by kernel_rfl) (by kernel_rfl) (by kernel_rfl) (fun _ _ _ h => h) (Or.inl ⟨by rfl, ?_⟩) trivial ?_
        rotate_left
        · intro W hSw
          go_simp
          try with_reducible rfl
        simp only [Act.put, List.setIfInBounds_toArray, List.set_cons_zero, List.set_cons_succ]
        refine wpAnyH_take (i := 8) (oi := { dst := some 27, op := Op.extract (Operand.tmp 19) 0, type := 75, pos := "l15_talk.go:127", after := #[{ on := 7, ground := Ground.data }], guard := none }) (v := ?_) rfl (by kernel_rfl) (by kernel_rfl) (by kernel_rfl) (fun _ _ _ h => h) (Or.inl ⟨by rfl, ?_⟩) trivial ?_
        rotate_left
        · intro W hSw
          go_simp
          try with_reducible rfl
        simp only [Act.put, List.setIfInBounds_toArray, List.set_cons_zero, List.set_cons_succ]
        refine wpAnyH_take (i := 9) (oi := { dst := some 28, op := Op.extract (Operand.tmp 19) 1, type := 3, pos := "l15_talk.go:127", after := #[{ on := 7, ground := Ground.data }, { on := 10, ground := Ground.gcOnly Departure.lateStores }], guard := none }) (v := ?_) rfl (by kernel_rfl) (by kernel_rfl) (by kernel_rfl) (fun _ _ _ h => h) (Or.inl ⟨by rfl, ?_⟩) trivial ?_
        rotate_left
        · intro W hSw
          go_simp
          try with_reducible rfl
        simp only [Act.put, List.setIfInBounds_toArray, List.set_cons_zero, List.set_cons_succ]
        have own3 := own_lone (q := w3.heap.size) ((unhide HO).alloc (.cells #[.slice A1 z.y.q.length r2, .int .i64 z.y.s, .int .i64 z.y.e, .slice C1 z.y.i.length r3] 53)) (Lone.of_below s3) (by have := (unhide HO).lt; have := s3.size; simp at this; omega)
        obtain ⟨w4, hrun, own4, gr4⟩ := own3.update lawLeg Tryz.underlying120 (by decide) key10 (frE_mk f1)
        refine wpAnyH_one (i := 10) (by kernel_rfl) ?_
        refine wpOp_step (o := { dst := none, op := Op.mapUpdate 120 (Operand.tmp 20) (Operand.tmp 24) (Operand.tmp 27), type := 0, pos := "l15_talk.go:127", after := #[{ on := 0, ground := Ground.data }, { on := 4, ground := Ground.data }, { on := 8, ground := Ground.data }, { on := 6, ground := Ground.chain }, { on := 0, ground := Ground.phase }, { on := 1, ground := Ground.phase }, { on := 2, ground := Ground.phase }, { on := 3, ground := Ground.phase }, { on := 4, ground := Ground.phase }, { on := 5, ground := Ground.phase }, { on := 6, ground := Ground.phase }, { on := 7, ground := Ground.phase }, { on := 8, ground := Ground.phase }, { on := 9, ground := Ground.textOnly Departure.lateStores }], guard := none }) rfl fun K' hK => step_skipW (by rfl) (w4) (by go_simp) ?_
        refine hK _ _ ⟨trivial, ?_⟩
        try simp only [Act.put]
        refine wpAnyH_done (by kernel_rfl) ?_ _
        have L4 : Lone (w.heap.size + 1) w3 w4 := ⟨gr4.os, gr4.tape, gr4.output, gr4.size, fun k hk hne => gr4.block k hk (by intro e; injection e with e; exact hne e)⟩
        have HT4 := hide ((((unhide HT).below (bl_al (o := .cells #[.slice A1 z.y.q.length r2, .int .i64 z.y.s, .int .i64 z.y.e, .slice C1 z.y.i.length r3] 53) (Below.refl _ _))).below s3).map L4 (owns_is own3))
        have HA4 := hide ((L4.block _ (by have := (Array.getElem?_eq_some_iff.1 (unhide HA)).1; have := s3.size; simp at this; omega) (by omega)).trans ((s3.block _ (by have := (Array.getElem?_eq_some_iff.1 (unhide HA)).1; simp; omega)).trans (((bl_al (o := .cells #[.slice A1 z.y.q.length r2, .int .i64 z.y.s, .int .i64 z.y.e, .slice C1 z.y.i.length r3] 53) (Below.refl _ _)).block _ (Array.getElem?_eq_some_iff.1 (unhide HA)).1).trans (unhide HA))))
        have HB4 := hide (below_grown (bl_st s3 (bl_al (o := .cells #[.slice A1 z.y.q.length r2, .int .i64 z.y.s, .int .i64 z.y.e, .slice C1 z.y.i.length r3] 53) (unhide HB))) gr4 (by omega) (by have := (bl_st s3 (bl_al (o := .cells #[.slice A1 z.y.q.length r2, .int .i64 z.y.s, .int .i64 z.y.e, .slice C1 z.y.i.length r3] 53) (unhide HB))).size; omega))
        go_wp2
        refine ⟨⟨2, _, by omega, by go_num, own4, rfl, unhide HT4, unhide HA4, unhide HB4⟩, ?_⟩
        simp [intOf]
      · refine wpOp_step (o := { dst := some 25, op := Op.load 53 (Operand.tmp 6), type := 53, pos := "l15_talk.go:127", after := #[], guard := none }) rfl fun K' hK => step_valueW (by rfl) (peA (.slice A1 z.y.q.length r2) z.y.s z.y.e (.slice C1 z.y.i.length r3)) (w2) (by go_simp) ?_
        refine hK _ _ ⟨trivial, ?_⟩
        simp only [Act.put, List.setIfInBounds_toArray, List.set_cons_zero, List.set_cons_succ]
        refine wpAnyH_one (i := 3) (by kernel_rfl) ?_
        refine wpOp_step (o := { dst := some 23, op := Op.call { callee := Callee.value (Operand.func 96), args := #[Operand.tmp 22], argTypes := #[3] }, type := 3, pos := "l15_talk.go:127", after := #[{ on := 2, ground := Ground.data }], guard := none }) rfl fun K' hK => step_enterW (by rfl) 96 #[.int .i64 1] (by go_simp) ((other88 1 _ (Or.inr rfl)).mono ?_)
        rintro e w2b ⟨rfl, hwb⟩
        have hwb := hwb.symm
        subst hwb

        refine ⟨_, rfl, hK _ _ ⟨trivial, ?_⟩⟩
        simp only [Act.put, List.setIfInBounds_toArray, List.set_cons_zero, List.set_cons_succ]
        refine wpAnyH_take (i := 4) (oi := { dst := some 24, op := Op.build 124 #[(0, Operand.tmp 21), (1, Operand.tmp 23)], type := 124, pos := "l15_talk.go:127", after := #[{ on := 1, ground := Ground.data }, { on := 3, ground := Ground.data }], guard := none }) (v := ?_) rfl (by kernel_rfl) (by kernel_rfl) (by kernel_rfl) (fun _ _ _ h => h) (Or.inl ⟨by rfl, ?_⟩) trivial ?_
        rotate_left
        · intro W hSw
          go_simp
          try with_reducible rfl
        simp only [Act.put, List.setIfInBounds_toArray, List.set_cons_zero, List.set_cons_succ]
        refine wpAnyH_one (i := 6) (by kernel_rfl) ?_
        refine wpOp_step (o := { dst := some 26, op := Op.call { callee := Callee.value (Operand.func 95), args := #[Operand.tmp 25], argTypes := #[53] }, type := 121, pos := "l15_talk.go:127", after := #[{ on := 5, ground := Ground.data }, { on := 3, ground := Ground.chain }], guard := none }) rfl fun K' hK => step_enterW (by rfl) 95 #[peA (.slice A1 z.y.q.length r2) z.y.s z.y.e (.slice C1 z.y.i.length r3)] (by go_simp) ((unhide KO1 _ _ ((unhide HV).below s2)).mono ?_)
        rintro e w3 ⟨rfl, b3⟩
        have s3 := bl_st b3 s2

        refine ⟨_, rfl, hK _ _ ⟨trivial, ?_⟩⟩
        simp only [Act.put, List.setIfInBounds_toArray, List.set_cons_zero, List.set_cons_succ]
        refine wpAnyH_take (i := 7) (oi := { dst := some 19, op := Op.move (Operand.tmp 26), type := 121, pos := "l15_talk.go:127", after := #[{ on := 6, ground := Ground.data }], guard := none }) (v := ?_) rfl (by kernel_rfl) (by kernel_rfl) (by kernel_rfl) (fun _ _ _ h => h) (Or.inl ⟨by rfl, ?_⟩) trivial ?_
        rotate_left
        · intro W hSw
          go_simp
          try with_reducible rfl
        simp only [Act.put, List.setIfInBounds_toArray, List.set_cons_zero, List.set_cons_succ]
        refine wpAnyH_take (i := 8) (oi := { dst := some 27, op := Op.extract (Operand.tmp 19) 0, type := 75, pos := "l15_talk.go:127", after := #[{ on := 7, ground := Ground.data }], guard := none }) (v := ?_) rfl (by kernel_rfl) (by kernel_rfl) (by kernel_rfl) (fun _ _ _ h => h) (Or.inl ⟨by rfl, ?_⟩) trivial ?_
        rotate_left
        · intro W hSw
          go_simp
          try with_reducible rfl
        simp only [Act.put, List.setIfInBounds_toArray, List.set_cons_zero, List.set_cons_succ]
        refine wpAnyH_take (i := 9) (oi := { dst := some 28, op := Op.extract (Operand.tmp 19) 1, type := 3, pos := "l15_talk.go:127", after := #[{ on := 7, ground := Ground.data }, { on := 10, ground := Ground.gcOnly Departure.lateStores }], guard := none }) (v := ?_) rfl (by kernel_rfl) (by kernel_rfl) (by kernel_rfl) (fun _ _ _ h => h) (Or.inl ⟨by rfl, ?_⟩) trivial ?_
        rotate_left
        · intro W hSw
          go_simp
          try with_reducible rfl
        simp only [Act.put, List.setIfInBounds_toArray, List.set_cons_zero, List.set_cons_succ]
        have own3 := own_lone (q := w3.heap.size) ((unhide HO).alloc (.cells #[.slice A1 z.y.q.length r2, .int .i64 z.y.s, .int .i64 z.y.e, .slice C1 z.y.i.length r3] 53)) (Lone.of_below s3) (by have := (unhide HO).lt; have := s3.size; simp at this; omega)
        obtain ⟨w4, hrun, own4, gr4⟩ := own3.update lawLeg Tryz.underlying120 (by decide) key10 (frE_mk f1)
        refine wpAnyH_one (i := 10) (by kernel_rfl) ?_
        refine wpOp_step (o := { dst := none, op := Op.mapUpdate 120 (Operand.tmp 20) (Operand.tmp 24) (Operand.tmp 27), type := 0, pos := "l15_talk.go:127", after := #[{ on := 0, ground := Ground.data }, { on := 4, ground := Ground.data }, { on := 8, ground := Ground.data }, { on := 6, ground := Ground.chain }, { on := 0, ground := Ground.phase }, { on := 1, ground := Ground.phase }, { on := 2, ground := Ground.phase }, { on := 3, ground := Ground.phase }, { on := 4, ground := Ground.phase }, { on := 5, ground := Ground.phase }, { on := 6, ground := Ground.phase }, { on := 7, ground := Ground.phase }, { on := 8, ground := Ground.phase }, { on := 9, ground := Ground.textOnly Departure.lateStores }], guard := none }) rfl fun K' hK => step_skipW (by rfl) (w4) (by go_simp) ?_
        refine hK _ _ ⟨trivial, ?_⟩
        try simp only [Act.put]
        refine wpAnyH_done (by kernel_rfl) ?_ _
        have L4 : Lone (w.heap.size + 1) w3 w4 := ⟨gr4.os, gr4.tape, gr4.output, gr4.size, fun k hk hne => gr4.block k hk (by intro e; injection e with e; exact hne e)⟩
        have HT4 := hide ((((unhide HT).below (bl_al (o := .cells #[.slice A1 z.y.q.length r2, .int .i64 z.y.s, .int .i64 z.y.e, .slice C1 z.y.i.length r3] 53) (Below.refl _ _))).below s3).map L4 (owns_is own3))
        have HA4 := hide ((L4.block _ (by have := (Array.getElem?_eq_some_iff.1 (unhide HA)).1; have := s3.size; simp at this; omega) (by omega)).trans ((s3.block _ (by have := (Array.getElem?_eq_some_iff.1 (unhide HA)).1; simp; omega)).trans (((bl_al (o := .cells #[.slice A1 z.y.q.length r2, .int .i64 z.y.s, .int .i64 z.y.e, .slice C1 z.y.i.length r3] 53) (Below.refl _ _)).block _ (Array.getElem?_eq_some_iff.1 (unhide HA)).1).trans (unhide HA))))
        have HB4 := hide (below_grown (bl_st s3 (bl_al (o := .cells #[.slice A1 z.y.q.length r2, .int .i64 z.y.s, .int .i64 z.y.e, .slice C1 z.y.i.length r3] 53) (unhide HB))) gr4 (by omega) (by have := (bl_st s3 (bl_al (o := .cells #[.slice A1 z.y.q.length r2, .int .i64 z.y.s, .int .i64 z.y.e, .slice C1 z.y.i.length r3] 53) (unhide HB))).size; omega))
        go_wp2
        refine ⟨⟨2, _, by omega, by go_num, own4, rfl, unhide HT4, unhide HA4, unhide HB4⟩, ?_⟩
        simp [intOf]
    · subst hD
      have HU := hide (ud_all f0 f1)
      have c3 := row_cell (i := 3) (unhide HA)
      have c4 := row_cell (i := 4) (unhide HA)
      simp at c3 c4
      have HL : Hid (Lone g w wr) := hide (Lone.of_below (unhide HB))
      have HO : Hid (wr.ownsMap Tryz.prog 124 frE (w.heap.size + 1) 2 (D2 f0 f1)) := HO
      clear hj HB
      generalize D2 f0 f1 = D at *
      by_cases hlafalsefalse : la = false ∧ lb = false
      · obtain ⟨rfl, rfl⟩ := hlafalsefalse
        have HF : Hid (rndF z false false = ⟨y0, y1⟩) := hide (by rw [rndF, hf0, hf1]; simp [hy0, hy1])
        go_wp2_with fail
        have HO0 := HO
        have HT0 := HT
        have HL0 := HL
        clear HO HT HL
        go_loopw [40] (fun i wr => ∃ (j : Nat) (zz : Tw), j ≤ 2 ∧ i = .int .i64 j ∧ wr.ownsMap Tryz.prog 124 frE (w.heap.size + 1) 2 _ ∧ zz = zJ y0 y1 z j ∧ TwO base g zz wr ∧ Lone g w wr) (fun i _ => 2 - (intOf i).toNat)
        case atStart => exact ⟨0, _, by omega, rfl, unhide HO0, rfl, unhide HT0, unhide HL0⟩
        case round =>
          obtain ⟨j, zz, hj, rfl, own, hz, ht, hl⟩ := hrel
          have HO := hide own
          have HT := hide ht
          have HL := hide hl
          clear own ht hl HO0 HT0 HL0
          rcases (by omega : j = 0 ∨ j = 1 ∨ j = 2) with rfl | rfl | rfl
          · have hz : zz = z := hz
            rw [hz] at HT
            clear hj hz
            obtain ⟨q0, i0, q1, i1, lo0, hi0, lo1, hi1, hr, hx, hy, gb, b0, b1, z0, z1, dj⟩ := unhide HT
            try dsimp only at hr hx hy
            have ⟨A0, r0, C0, r1, e0⟩ := hx.pe.slices
            have ⟨A1, r2, C1, r3, e1⟩ := hy.pe.slices
            obtain ⟨rfl, rfl⟩ := peA_inj e0
            obtain ⟨rfl, rfl⟩ := peA_inj e1
            clear e0 e1
            have k0 := hr.c0
            have k1 := hr.c1
            have k2 := hr.c2
            have k3 := hr.c3
            have HV := hide hx.pe
            have HR := hide hr
            clear hr hx hy
            obtain ⟨v, ps, hrun, hv⟩ := ((unhide HO).alloc (.cells #[.slice A0 z.x.q.length r0, .int .i64 z.x.s, .int .i64 z.x.e, .slice C0 z.x.i.length r1] 53)).look_ok lawLeg Tryz.underlying120 (zero41 _) (frE_mk fr0) key10
            rw [(unhide HU).h1] at hrun
            rw [(unhide HU).a1] at hv
            obtain rfl := frE_inv hv
            simp only [Bool.not_false, Bool.cond_false] at hrun
            clear hv
            have sA : Below wr.heap.size wr ((wr.alloc (.cells #[.slice A0 z.x.q.length r0, .int .i64 z.x.s, .int .i64 z.x.e, .slice C0 z.x.i.length r1] 53)).alloc (.cells #[.int .i64 f1.s, .int .i64 f1.a, .bool f1.h, .string f1.b] 75)) := bl_al (bl_al (Below.refl _ _))
            have HSA := hide sA
            have HV2 := hide ((unhide HV).below sA)
            clear sA
            go_wp2_with (first | (go_at_call 96; refine (other88 0 _ (Or.inl rfl)).mono ?_; rintro e wo ⟨rfl, hwo⟩; have hwo := hwo.symm; subst hwo) | (go_at_call 97; refine (unhide KI0 _ _ (unhide HV2)).mono ?_; rintro e w5 ⟨r, rfl, po, b5⟩; have s5 := bl_st b5 (unhide HSA); have PO := hide (po.wide (unhide HSA).size (Nat.le_refl _)); have HS5 := hide s5; obtain ⟨qq, ii, rfl, hq, hi, _⟩ := po; obtain ⟨Aq, aq, rfl⟩ := hq.strs.slice; obtain ⟨Ai, ai, rfl⟩ := hi.strs.slice; have R5 := (unhide HR).below s5; have d0 := R5.c0; have d1 := R5.c1; have d2 := R5.c2; have d3 := R5.c3; have x0 := R5.fz 0; have x1 := R5.fz 1; have x2 := R5.fz 2; have x3 := R5.fz 3; clear hq hi b5 s5 R5 k0 k1 k2 k3))
            have LP := lone_put w5 g 0 1 2 3 (.slice Aq y0.q.length aq) (.int .i64 y0.s) (.int .i64 y0.e) (.slice Ai y0.i.length ai)
            have HT5 := hide ((unhide HT).put0 (unhide HS5) (unhide PO) (by have := unhide HG; have := (unhide HL).size; omega))
            have HO5 := hide (own_lone (own_lone (q := w5.heap.size) (unhide HO) (Lone.of_below (unhide HS5)) (by have := (unhide HO).lt; have := (unhide HS5).size; omega)) LP (by have := unhide HG; omega))
            have HL5 := hide ((unhide HL).trans ((Lone.of_below (unhide HS5)).trans LP))
            refine ⟨?_, ?_⟩
            · (repeat apply Exists.intro)
              refine ⟨⟨1, _, by omega, ?_, unhide HO5, rfl, unhide HT5, unhide HL5⟩, rfl⟩
              go_num
            · simp [intOf]
          · have hz : zz = ⟨y0, z.y⟩ := hz
            rw [hz] at HT
            clear hj hz
            obtain ⟨q0, i0, q1, i1, lo0, hi0, lo1, hi1, hr, hx, hy, gb, b0, b1, z0, z1, dj⟩ := unhide HT
            try dsimp only at hr hx hy
            have ⟨A0, r0, C0, r1, e0⟩ := hx.pe.slices
            have ⟨A1, r2, C1, r3, e1⟩ := hy.pe.slices
            obtain ⟨rfl, rfl⟩ := peA_inj e0
            obtain ⟨rfl, rfl⟩ := peA_inj e1
            clear e0 e1
            have k4 := hr.c4
            have k5 := hr.c5
            have k6 := hr.c6
            have k7 := hr.c7
            have HV := hide hy.pe
            have HR := hide hr
            clear hr hx hy
            obtain ⟨v, ps, hrun, hv⟩ := ((unhide HO).alloc (.cells #[.slice A1 z.y.q.length r2, .int .i64 z.y.s, .int .i64 z.y.e, .slice C1 z.y.i.length r3] 53)).look_ok lawLeg Tryz.underlying120 (zero41 _) (frE_mk fr0) key01
            rw [(unhide HU).h0] at hrun
            rw [(unhide HU).a0] at hv
            obtain rfl := frE_inv hv
            simp only [Bool.not_false, Bool.cond_false] at hrun
            clear hv
            have sA : Below wr.heap.size wr ((wr.alloc (.cells #[.slice A1 z.y.q.length r2, .int .i64 z.y.s, .int .i64 z.y.e, .slice C1 z.y.i.length r3] 53)).alloc (.cells #[.int .i64 f0.s, .int .i64 f0.a, .bool f0.h, .string f0.b] 75)) := bl_al (bl_al (Below.refl _ _))
            have HSA := hide sA
            have HV2 := hide ((unhide HV).below sA)
            clear sA
            go_wp2_with (first | (go_at_call 96; refine (other88 1 _ (Or.inr rfl)).mono ?_; rintro e wo ⟨rfl, hwo⟩; have hwo := hwo.symm; subst hwo) | (go_at_call 97; refine (unhide KI1 _ _ (unhide HV2)).mono ?_; rintro e w5 ⟨r, rfl, po, b5⟩; have s5 := bl_st b5 (unhide HSA); have PO := hide (po.wide (unhide HSA).size (Nat.le_refl _)); have HS5 := hide s5; obtain ⟨qq, ii, rfl, hq, hi, _⟩ := po; obtain ⟨Aq, aq, rfl⟩ := hq.strs.slice; obtain ⟨Ai, ai, rfl⟩ := hi.strs.slice; have R5 := (unhide HR).below s5; have d0 := R5.c4; have d1 := R5.c5; have d2 := R5.c6; have d3 := R5.c7; have x0 := R5.fz 4; have x1 := R5.fz 5; have x2 := R5.fz 6; have x3 := R5.fz 7; clear hq hi b5 s5 R5 k4 k5 k6 k7))
            have LP := lone_put w5 g 4 5 6 7 (.slice Aq y1.q.length aq) (.int .i64 y1.s) (.int .i64 y1.e) (.slice Ai y1.i.length ai)
            have HT5 := hide ((unhide HT).put4 (unhide HS5) (unhide PO) (by have := unhide HG; have := (unhide HL).size; omega))
            have HO5 := hide (own_lone (own_lone (q := w5.heap.size) (unhide HO) (Lone.of_below (unhide HS5)) (by have := (unhide HO).lt; have := (unhide HS5).size; omega)) LP (by have := unhide HG; omega))
            have HL5 := hide ((unhide HL).trans ((Lone.of_below (unhide HS5)).trans LP))
            refine ⟨?_, ?_⟩
            · (repeat apply Exists.intro)
              refine ⟨⟨2, _, by omega, ?_, unhide HO5, rfl, unhide HT5, unhide HL5⟩, rfl⟩
              go_num
            · simp [intOf]
          · have hz : zz = ⟨y0, y1⟩ := hz
            rw [hz] at HT
            go_wp2
            refine bodyPost_end (results_none rfl _ _ _) rfl ?_
            rw [unhide HF]
            exact ⟨rfl, unhide HT, unhide HL⟩
      by_cases hlafalsetrue : la = false ∧ lb = true
      · obtain ⟨rfl, rfl⟩ := hlafalsetrue
        have HF : Hid (rndF z false true = ⟨z.x, y1⟩) := hide (by rw [rndF, hf0, hf1]; simp [hy1])
        go_wp2_with (first | (at_delete; refine wpList_delete_own _ rfl _ _ 120 124 rfl 75 lawLeg Tryz.underlying120 frE (w.heap.size + 1) 2 _ rfl (unhide HO) (leg 1 0) k10 rfl key10 ?_; intro wB ownB tB; have LB := turned_lone tB; have HTB := hide ((unhide HT).map LB (owns_is (unhide HO))); have HAB := hide ((LB.block _ (Array.getElem?_eq_some_iff.1 (unhide HA)).1 (by omega)).trans (unhide HA)); have HLB := hide (lone_past (unhide HL) LB (by omega)); have d4 := row_cell (i := 4) (unhide HAB); simp at d4; have HOB := hide ownB; have HUB := hide (unhide HU).loseB; clear ownB tB LB c3 c4))
        have HO := HOB
        have HT := HTB
        have HL := HLB
        have HU := HUB
        clear HOB HTB HLB HUB
        have HO0 := HO
        have HT0 := HT
        have HL0 := HL
        clear HO HT HL
        go_loopw [40] (fun i wr => ∃ (j : Nat) (zz : Tw), j ≤ 2 ∧ i = .int .i64 j ∧ wr.ownsMap Tryz.prog 124 frE (w.heap.size + 1) 2 _ ∧ zz = zJ z.x y1 z j ∧ TwO base g zz wr ∧ Lone g w wr) (fun i _ => 2 - (intOf i).toNat)
        case atStart => exact ⟨0, _, by omega, rfl, unhide HO0, rfl, unhide HT0, unhide HL0⟩
        case round =>
          obtain ⟨j, zz, hj, rfl, own, hz, ht, hl⟩ := hrel
          have HO := hide own
          have HT := hide ht
          have HL := hide hl
          clear own ht hl HO0 HT0 HL0
          rcases (by omega : j = 0 ∨ j = 1 ∨ j = 2) with rfl | rfl | rfl
          · have hz : zz = z := hz
            rw [hz] at HT
            clear hj hz
            obtain ⟨q0, i0, q1, i1, lo0, hi0, lo1, hi1, hr, hx, hy, gb, b0, b1, z0, z1, dj⟩ := unhide HT
            try dsimp only at hr hx hy
            have ⟨A0, r0, C0, r1, e0⟩ := hx.pe.slices
            have ⟨A1, r2, C1, r3, e1⟩ := hy.pe.slices
            obtain ⟨rfl, rfl⟩ := peA_inj e0
            obtain ⟨rfl, rfl⟩ := peA_inj e1
            clear e0 e1
            have k0 := hr.c0
            have k1 := hr.c1
            have k2 := hr.c2
            have k3 := hr.c3
            have HV := hide hx.pe
            have HR := hide hr
            clear hr hx hy
            obtain ⟨v, ps, hrun, hv⟩ := ((unhide HO).alloc (.cells #[.slice A0 z.x.q.length r0, .int .i64 z.x.s, .int .i64 z.x.e, .slice C0 z.x.i.length r1] 53)).look_ok lawLeg Tryz.underlying120 (zero41 _) (frE_mk fr0) key10
            rw [(unhide HU).h1] at hrun
            rw [(unhide HU).a1] at hv
            obtain rfl := frE_inv hv
            simp only [Bool.not_true, Bool.cond_true] at hrun
            clear hv
            unfold fr0 at hrun
            go_wp2_with (go_at_call 96; refine (other88 0 _ (Or.inl rfl)).mono ?_; rintro e wo ⟨rfl, hwo⟩; have hwo := hwo.symm; subst hwo)
            have HT5 := hide (((unhide HT).below (bl_al (o := .cells #[.slice A0 z.x.q.length r0, .int .i64 z.x.s, .int .i64 z.x.e, .slice C0 z.x.i.length r1] 53) (Below.refl _ _))).below (bl_al (o := .cells #[.int .i64 0, .int .i64 0, .bool false, .string ⟨#[]⟩] 75) (Below.refl _ _)))
            have HO5 := hide (((unhide HO).alloc (.cells #[.slice A0 z.x.q.length r0, .int .i64 z.x.s, .int .i64 z.x.e, .slice C0 z.x.i.length r1] 53)).alloc (.cells #[.int .i64 0, .int .i64 0, .bool false, .string ⟨#[]⟩] 75))
            have HL5 := hide ((unhide HL).trans ((Lone.of_below (q := g) (bl_al (o := .cells #[.slice A0 z.x.q.length r0, .int .i64 z.x.s, .int .i64 z.x.e, .slice C0 z.x.i.length r1] 53) (Below.refl _ _))).trans (Lone.of_below (bl_al (o := .cells #[.int .i64 0, .int .i64 0, .bool false, .string ⟨#[]⟩] 75) (Below.refl _ _)))))
            refine ⟨⟨1, _, by omega, by go_num, unhide HO5, rfl, unhide HT5, unhide HL5⟩, ?_⟩
            simp [intOf]
          · have hz : zz = ⟨z.x, z.y⟩ := hz
            rw [hz] at HT
            clear hj hz
            obtain ⟨q0, i0, q1, i1, lo0, hi0, lo1, hi1, hr, hx, hy, gb, b0, b1, z0, z1, dj⟩ := unhide HT
            try dsimp only at hr hx hy
            have ⟨A0, r0, C0, r1, e0⟩ := hx.pe.slices
            have ⟨A1, r2, C1, r3, e1⟩ := hy.pe.slices
            obtain ⟨rfl, rfl⟩ := peA_inj e0
            obtain ⟨rfl, rfl⟩ := peA_inj e1
            clear e0 e1
            have k4 := hr.c4
            have k5 := hr.c5
            have k6 := hr.c6
            have k7 := hr.c7
            have HV := hide hy.pe
            have HR := hide hr
            clear hr hx hy
            obtain ⟨v, ps, hrun, hv⟩ := ((unhide HO).alloc (.cells #[.slice A1 z.y.q.length r2, .int .i64 z.y.s, .int .i64 z.y.e, .slice C1 z.y.i.length r3] 53)).look_ok lawLeg Tryz.underlying120 (zero41 _) (frE_mk fr0) key01
            rw [(unhide HU).h0] at hrun
            rw [(unhide HU).a0] at hv
            obtain rfl := frE_inv hv
            simp only [Bool.not_false, Bool.cond_false] at hrun
            clear hv
            have sA : Below wr.heap.size wr ((wr.alloc (.cells #[.slice A1 z.y.q.length r2, .int .i64 z.y.s, .int .i64 z.y.e, .slice C1 z.y.i.length r3] 53)).alloc (.cells #[.int .i64 f0.s, .int .i64 f0.a, .bool f0.h, .string f0.b] 75)) := bl_al (bl_al (Below.refl _ _))
            have HSA := hide sA
            have HV2 := hide ((unhide HV).below sA)
            clear sA
            go_wp2_with (first | (go_at_call 96; refine (other88 1 _ (Or.inr rfl)).mono ?_; rintro e wo ⟨rfl, hwo⟩; have hwo := hwo.symm; subst hwo) | (go_at_call 97; refine (unhide KI1 _ _ (unhide HV2)).mono ?_; rintro e w5 ⟨r, rfl, po, b5⟩; have s5 := bl_st b5 (unhide HSA); have PO := hide (po.wide (unhide HSA).size (Nat.le_refl _)); have HS5 := hide s5; obtain ⟨qq, ii, rfl, hq, hi, _⟩ := po; obtain ⟨Aq, aq, rfl⟩ := hq.strs.slice; obtain ⟨Ai, ai, rfl⟩ := hi.strs.slice; have R5 := (unhide HR).below s5; have d0 := R5.c4; have d1 := R5.c5; have d2 := R5.c6; have d3 := R5.c7; have x0 := R5.fz 4; have x1 := R5.fz 5; have x2 := R5.fz 6; have x3 := R5.fz 7; clear hq hi b5 s5 R5 k4 k5 k6 k7))
            have LP := lone_put w5 g 4 5 6 7 (.slice Aq y1.q.length aq) (.int .i64 y1.s) (.int .i64 y1.e) (.slice Ai y1.i.length ai)
            have HT5 := hide ((unhide HT).put4 (unhide HS5) (unhide PO) (by have := unhide HG; have := (unhide HL).size; omega))
            have HO5 := hide (own_lone (own_lone (q := w5.heap.size) (unhide HO) (Lone.of_below (unhide HS5)) (by have := (unhide HO).lt; have := (unhide HS5).size; omega)) LP (by have := unhide HG; omega))
            have HL5 := hide ((unhide HL).trans ((Lone.of_below (unhide HS5)).trans LP))
            go_roundw
            case rel => exact ⟨2, _, by omega, by go_num, unhide HO5, rfl, unhide HT5, unhide HL5⟩
            case measure => simp [intOf]
          · have hz : zz = ⟨z.x, y1⟩ := hz
            rw [hz] at HT
            go_wp2
            refine bodyPost_end (results_none rfl _ _ _) rfl ?_
            rw [unhide HF]
            exact ⟨rfl, unhide HT, unhide HL⟩
      by_cases hlatruefalse : la = true ∧ lb = false
      · obtain ⟨rfl, rfl⟩ := hlatruefalse
        have HF : Hid (rndF z true false = ⟨y0, z.y⟩) := hide (by rw [rndF, hf0, hf1]; simp [hy0])
        go_wp2_with (first | (at_delete; refine wpList_delete_own _ rfl _ _ 120 124 rfl 75 lawLeg Tryz.underlying120 frE (w.heap.size + 1) 2 _ rfl (unhide HO) (leg 0 1) k01 rfl key01 ?_; intro wA ownA tA; have LA := turned_lone tA; have HTA := hide ((unhide HT).map LA (owns_is (unhide HO))); have HAA := hide ((LA.block _ (Array.getElem?_eq_some_iff.1 (unhide HA)).1 (by omega)).trans (unhide HA)); have HLA := hide (lone_past (unhide HL) LA (by omega)); have d4 := row_cell (i := 4) (unhide HAA); simp at d4; have HOA := hide ownA; have HUA := hide (unhide HU).loseA; clear ownA tA LA c3 c4))
        have HO := HOA
        have HT := HTA
        have HL := HLA
        have HU := HUA
        clear HOA HTA HLA HUA
        have HO0 := HO
        have HT0 := HT
        have HL0 := HL
        clear HO HT HL
        go_loopw [40] (fun i wr => ∃ (j : Nat) (zz : Tw), j ≤ 2 ∧ i = .int .i64 j ∧ wr.ownsMap Tryz.prog 124 frE (w.heap.size + 1) 2 _ ∧ zz = zJ y0 z.y z j ∧ TwO base g zz wr ∧ Lone g w wr) (fun i _ => 2 - (intOf i).toNat)
        case atStart => exact ⟨0, _, by omega, rfl, unhide HO0, rfl, unhide HT0, unhide HL0⟩
        case round =>
          obtain ⟨j, zz, hj, rfl, own, hz, ht, hl⟩ := hrel
          have HO := hide own
          have HT := hide ht
          have HL := hide hl
          clear own ht hl HO0 HT0 HL0
          rcases (by omega : j = 0 ∨ j = 1 ∨ j = 2) with rfl | rfl | rfl
          · have hz : zz = z := hz
            rw [hz] at HT
            clear hj hz
            obtain ⟨q0, i0, q1, i1, lo0, hi0, lo1, hi1, hr, hx, hy, gb, b0, b1, z0, z1, dj⟩ := unhide HT
            try dsimp only at hr hx hy
            have ⟨A0, r0, C0, r1, e0⟩ := hx.pe.slices
            have ⟨A1, r2, C1, r3, e1⟩ := hy.pe.slices
            obtain ⟨rfl, rfl⟩ := peA_inj e0
            obtain ⟨rfl, rfl⟩ := peA_inj e1
            clear e0 e1
            have k0 := hr.c0
            have k1 := hr.c1
            have k2 := hr.c2
            have k3 := hr.c3
            have HV := hide hx.pe
            have HR := hide hr
            clear hr hx hy
            obtain ⟨v, ps, hrun, hv⟩ := ((unhide HO).alloc (.cells #[.slice A0 z.x.q.length r0, .int .i64 z.x.s, .int .i64 z.x.e, .slice C0 z.x.i.length r1] 53)).look_ok lawLeg Tryz.underlying120 (zero41 _) (frE_mk fr0) key10
            rw [(unhide HU).h1] at hrun
            rw [(unhide HU).a1] at hv
            obtain rfl := frE_inv hv
            simp only [Bool.not_false, Bool.cond_false] at hrun
            clear hv
            have sA : Below wr.heap.size wr ((wr.alloc (.cells #[.slice A0 z.x.q.length r0, .int .i64 z.x.s, .int .i64 z.x.e, .slice C0 z.x.i.length r1] 53)).alloc (.cells #[.int .i64 f1.s, .int .i64 f1.a, .bool f1.h, .string f1.b] 75)) := bl_al (bl_al (Below.refl _ _))
            have HSA := hide sA
            have HV2 := hide ((unhide HV).below sA)
            clear sA
            go_wp2_with (first | (go_at_call 96; refine (other88 0 _ (Or.inl rfl)).mono ?_; rintro e wo ⟨rfl, hwo⟩; have hwo := hwo.symm; subst hwo) | (go_at_call 97; refine (unhide KI0 _ _ (unhide HV2)).mono ?_; rintro e w5 ⟨r, rfl, po, b5⟩; have s5 := bl_st b5 (unhide HSA); have PO := hide (po.wide (unhide HSA).size (Nat.le_refl _)); have HS5 := hide s5; obtain ⟨qq, ii, rfl, hq, hi, _⟩ := po; obtain ⟨Aq, aq, rfl⟩ := hq.strs.slice; obtain ⟨Ai, ai, rfl⟩ := hi.strs.slice; have R5 := (unhide HR).below s5; have d0 := R5.c0; have d1 := R5.c1; have d2 := R5.c2; have d3 := R5.c3; have x0 := R5.fz 0; have x1 := R5.fz 1; have x2 := R5.fz 2; have x3 := R5.fz 3; clear hq hi b5 s5 R5 k0 k1 k2 k3))
            have LP := lone_put w5 g 0 1 2 3 (.slice Aq y0.q.length aq) (.int .i64 y0.s) (.int .i64 y0.e) (.slice Ai y0.i.length ai)
            have HT5 := hide ((unhide HT).put0 (unhide HS5) (unhide PO) (by have := unhide HG; have := (unhide HL).size; omega))
            have HO5 := hide (own_lone (own_lone (q := w5.heap.size) (unhide HO) (Lone.of_below (unhide HS5)) (by have := (unhide HO).lt; have := (unhide HS5).size; omega)) LP (by have := unhide HG; omega))
            have HL5 := hide ((unhide HL).trans ((Lone.of_below (unhide HS5)).trans LP))
            go_roundw
            case rel => exact ⟨1, _, by omega, by go_num, unhide HO5, rfl, unhide HT5, unhide HL5⟩
            case measure => simp [intOf]
          · have hz : zz = ⟨y0, z.y⟩ := hz
            rw [hz] at HT
            clear hj hz
            obtain ⟨q0, i0, q1, i1, lo0, hi0, lo1, hi1, hr, hx, hy, gb, b0, b1, z0, z1, dj⟩ := unhide HT
            try dsimp only at hr hx hy
            have ⟨A0, r0, C0, r1, e0⟩ := hx.pe.slices
            have ⟨A1, r2, C1, r3, e1⟩ := hy.pe.slices
            obtain ⟨rfl, rfl⟩ := peA_inj e0
            obtain ⟨rfl, rfl⟩ := peA_inj e1
            clear e0 e1
            have k4 := hr.c4
            have k5 := hr.c5
            have k6 := hr.c6
            have k7 := hr.c7
            have HV := hide hy.pe
            have HR := hide hr
            clear hr hx hy
            obtain ⟨v, ps, hrun, hv⟩ := ((unhide HO).alloc (.cells #[.slice A1 z.y.q.length r2, .int .i64 z.y.s, .int .i64 z.y.e, .slice C1 z.y.i.length r3] 53)).look_ok lawLeg Tryz.underlying120 (zero41 _) (frE_mk fr0) key01
            rw [(unhide HU).h0] at hrun
            rw [(unhide HU).a0] at hv
            obtain rfl := frE_inv hv
            simp only [Bool.not_true, Bool.cond_true] at hrun
            clear hv
            unfold fr0 at hrun
            go_wp2_with (go_at_call 96; refine (other88 1 _ (Or.inr rfl)).mono ?_; rintro e wo ⟨rfl, hwo⟩; have hwo := hwo.symm; subst hwo)
            have HT5 := hide (((unhide HT).below (bl_al (o := .cells #[.slice A1 z.y.q.length r2, .int .i64 z.y.s, .int .i64 z.y.e, .slice C1 z.y.i.length r3] 53) (Below.refl _ _))).below (bl_al (o := .cells #[.int .i64 0, .int .i64 0, .bool false, .string ⟨#[]⟩] 75) (Below.refl _ _)))
            have HO5 := hide (((unhide HO).alloc (.cells #[.slice A1 z.y.q.length r2, .int .i64 z.y.s, .int .i64 z.y.e, .slice C1 z.y.i.length r3] 53)).alloc (.cells #[.int .i64 0, .int .i64 0, .bool false, .string ⟨#[]⟩] 75))
            have HL5 := hide ((unhide HL).trans ((Lone.of_below (q := g) (bl_al (o := .cells #[.slice A1 z.y.q.length r2, .int .i64 z.y.s, .int .i64 z.y.e, .slice C1 z.y.i.length r3] 53) (Below.refl _ _))).trans (Lone.of_below (bl_al (o := .cells #[.int .i64 0, .int .i64 0, .bool false, .string ⟨#[]⟩] 75) (Below.refl _ _)))))
            refine ⟨⟨2, _, by omega, by go_num, unhide HO5, rfl, unhide HT5, unhide HL5⟩, ?_⟩
            simp [intOf]
          · have hz : zz = ⟨y0, z.y⟩ := hz
            rw [hz] at HT
            go_wp2
            refine bodyPost_end (results_none rfl _ _ _) rfl ?_
            rw [unhide HF]
            exact ⟨rfl, unhide HT, unhide HL⟩
      by_cases hlatruetrue : la = true ∧ lb = true
      · obtain ⟨rfl, rfl⟩ := hlatruetrue
        have HF : Hid (rndF z true true = ⟨z.x, z.y⟩) := hide (by rw [rndF, hf0, hf1]; simp)
        go_wp2_with (first | (at_delete; refine wpList_delete_own _ rfl _ _ 120 124 rfl 75 lawLeg Tryz.underlying120 frE (w.heap.size + 1) 2 _ rfl (unhide HO) (leg 0 1) k01 rfl key01 ?_; intro wA ownA tA; have LA := turned_lone tA; have HTA := hide ((unhide HT).map LA (owns_is (unhide HO))); have HAA := hide ((LA.block _ (Array.getElem?_eq_some_iff.1 (unhide HA)).1 (by omega)).trans (unhide HA)); have HLA := hide (lone_past (unhide HL) LA (by omega)); have d4 := row_cell (i := 4) (unhide HAA); simp at d4; have HOA := hide ownA; have HUA := hide (unhide HU).loseA; clear ownA tA LA c3 c4) | (at_delete; refine wpList_delete_own _ rfl _ _ 120 124 rfl 75 lawLeg Tryz.underlying120 frE (w.heap.size + 1) 2 _ rfl (unhide HOA) (leg 1 0) k10 rfl key10 ?_; intro wB ownB tB; have LB := turned_lone tB; have HTB := hide ((unhide HTA).map LB (owns_is (unhide HOA))); have HAB := hide ((LB.block _ (Array.getElem?_eq_some_iff.1 (unhide HAA)).1 (by omega)).trans (unhide HAA)); have HLB := hide (lone_past (unhide HLA) LB (by omega)); have HOB := hide ownB; have HUB := hide (unhide HUA).loseB; clear ownB tB LB d4))
        have HO := HOB
        have HT := HTB
        have HL := HLB
        have HU := HUB
        clear HOB HTB HLB HUB
        have HO0 := HO
        have HT0 := HT
        have HL0 := HL
        clear HO HT HL
        go_loopw [40] (fun i wr => ∃ (j : Nat) (zz : Tw), j ≤ 2 ∧ i = .int .i64 j ∧ wr.ownsMap Tryz.prog 124 frE (w.heap.size + 1) 2 _ ∧ zz = zJ z.x z.y z j ∧ TwO base g zz wr ∧ Lone g w wr) (fun i _ => 2 - (intOf i).toNat)
        case atStart => exact ⟨0, _, by omega, rfl, unhide HO0, rfl, unhide HT0, unhide HL0⟩
        case round =>
          obtain ⟨j, zz, hj, rfl, own, hz, ht, hl⟩ := hrel
          have HO := hide own
          have HT := hide ht
          have HL := hide hl
          clear own ht hl HO0 HT0 HL0
          rcases (by omega : j = 0 ∨ j = 1 ∨ j = 2) with rfl | rfl | rfl
          · have hz : zz = z := hz
            rw [hz] at HT
            clear hj hz
            obtain ⟨q0, i0, q1, i1, lo0, hi0, lo1, hi1, hr, hx, hy, gb, b0, b1, z0, z1, dj⟩ := unhide HT
            try dsimp only at hr hx hy
            have ⟨A0, r0, C0, r1, e0⟩ := hx.pe.slices
            have ⟨A1, r2, C1, r3, e1⟩ := hy.pe.slices
            obtain ⟨rfl, rfl⟩ := peA_inj e0
            obtain ⟨rfl, rfl⟩ := peA_inj e1
            clear e0 e1
            have k0 := hr.c0
            have k1 := hr.c1
            have k2 := hr.c2
            have k3 := hr.c3
            have HV := hide hx.pe
            have HR := hide hr
            clear hr hx hy
            obtain ⟨v, ps, hrun, hv⟩ := ((unhide HO).alloc (.cells #[.slice A0 z.x.q.length r0, .int .i64 z.x.s, .int .i64 z.x.e, .slice C0 z.x.i.length r1] 53)).look_ok lawLeg Tryz.underlying120 (zero41 _) (frE_mk fr0) key10
            rw [(unhide HU).h1] at hrun
            rw [(unhide HU).a1] at hv
            obtain rfl := frE_inv hv
            simp only [Bool.not_true, Bool.cond_true] at hrun
            clear hv
            unfold fr0 at hrun
            go_wp2_with (go_at_call 96; refine (other88 0 _ (Or.inl rfl)).mono ?_; rintro e wo ⟨rfl, hwo⟩; have hwo := hwo.symm; subst hwo)
            have HT5 := hide (((unhide HT).below (bl_al (o := .cells #[.slice A0 z.x.q.length r0, .int .i64 z.x.s, .int .i64 z.x.e, .slice C0 z.x.i.length r1] 53) (Below.refl _ _))).below (bl_al (o := .cells #[.int .i64 0, .int .i64 0, .bool false, .string ⟨#[]⟩] 75) (Below.refl _ _)))
            have HO5 := hide (((unhide HO).alloc (.cells #[.slice A0 z.x.q.length r0, .int .i64 z.x.s, .int .i64 z.x.e, .slice C0 z.x.i.length r1] 53)).alloc (.cells #[.int .i64 0, .int .i64 0, .bool false, .string ⟨#[]⟩] 75))
            have HL5 := hide ((unhide HL).trans ((Lone.of_below (q := g) (bl_al (o := .cells #[.slice A0 z.x.q.length r0, .int .i64 z.x.s, .int .i64 z.x.e, .slice C0 z.x.i.length r1] 53) (Below.refl _ _))).trans (Lone.of_below (bl_al (o := .cells #[.int .i64 0, .int .i64 0, .bool false, .string ⟨#[]⟩] 75) (Below.refl _ _)))))
            refine ⟨⟨1, _, by omega, by go_num, unhide HO5, rfl, unhide HT5, unhide HL5⟩, ?_⟩
            simp [intOf]
          · have hz : zz = ⟨z.x, z.y⟩ := hz
            rw [hz] at HT
            clear hj hz
            obtain ⟨q0, i0, q1, i1, lo0, hi0, lo1, hi1, hr, hx, hy, gb, b0, b1, z0, z1, dj⟩ := unhide HT
            try dsimp only at hr hx hy
            have ⟨A0, r0, C0, r1, e0⟩ := hx.pe.slices
            have ⟨A1, r2, C1, r3, e1⟩ := hy.pe.slices
            obtain ⟨rfl, rfl⟩ := peA_inj e0
            obtain ⟨rfl, rfl⟩ := peA_inj e1
            clear e0 e1
            have k4 := hr.c4
            have k5 := hr.c5
            have k6 := hr.c6
            have k7 := hr.c7
            have HV := hide hy.pe
            have HR := hide hr
            clear hr hx hy
            obtain ⟨v, ps, hrun, hv⟩ := ((unhide HO).alloc (.cells #[.slice A1 z.y.q.length r2, .int .i64 z.y.s, .int .i64 z.y.e, .slice C1 z.y.i.length r3] 53)).look_ok lawLeg Tryz.underlying120 (zero41 _) (frE_mk fr0) key01
            rw [(unhide HU).h0] at hrun
            rw [(unhide HU).a0] at hv
            obtain rfl := frE_inv hv
            simp only [Bool.not_true, Bool.cond_true] at hrun
            clear hv
            unfold fr0 at hrun
            go_wp2_with (go_at_call 96; refine (other88 1 _ (Or.inr rfl)).mono ?_; rintro e wo ⟨rfl, hwo⟩; have hwo := hwo.symm; subst hwo)
            have HT5 := hide (((unhide HT).below (bl_al (o := .cells #[.slice A1 z.y.q.length r2, .int .i64 z.y.s, .int .i64 z.y.e, .slice C1 z.y.i.length r3] 53) (Below.refl _ _))).below (bl_al (o := .cells #[.int .i64 0, .int .i64 0, .bool false, .string ⟨#[]⟩] 75) (Below.refl _ _)))
            have HO5 := hide (((unhide HO).alloc (.cells #[.slice A1 z.y.q.length r2, .int .i64 z.y.s, .int .i64 z.y.e, .slice C1 z.y.i.length r3] 53)).alloc (.cells #[.int .i64 0, .int .i64 0, .bool false, .string ⟨#[]⟩] 75))
            have HL5 := hide ((unhide HL).trans ((Lone.of_below (q := g) (bl_al (o := .cells #[.slice A1 z.y.q.length r2, .int .i64 z.y.s, .int .i64 z.y.e, .slice C1 z.y.i.length r3] 53) (Below.refl _ _))).trans (Lone.of_below (bl_al (o := .cells #[.int .i64 0, .int .i64 0, .bool false, .string ⟨#[]⟩] 75) (Below.refl _ _)))))
            refine ⟨⟨2, _, by omega, by go_num, unhide HO5, rfl, unhide HT5, unhide HL5⟩, ?_⟩
            simp [intOf]
          · have hz : zz = ⟨z.x, z.y⟩ := hz
            rw [hz] at HT
            go_wp2
            refine bodyPost_end (results_none rfl _ _ _) rfl ?_
            rw [unhide HF]
            exact ⟨rfl, unhide HT, unhide HL⟩
      exfalso
      cases la <;> cases lb <;> simp_all
end Go.Proofs.YtbkcgkffafjbgaaGreatDoor
