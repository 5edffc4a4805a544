/- A frame that brings nothing that is awaited, by the specification; a frame taken. -/
import Derived.Test.YtbkcgkffafjbgaaGreatDoorGd
namespace Go.Proofs.YtbkcgkffafjbgaaGreatDoor
open Go.RowKit
set_option maxHeartbeats 4000000
set_option maxRecDepth 20000
theorem in57f (v : Value) (p : Pe) (f : Fr) (w : World) (hv : peV w v p) (hcq : capQ v p) (hf : peFew p) (hs : 0 ≤ p.s ∧ p.s ≤ 1048576) (he : 0 ≤ p.e ∧ p.e ≤ 1048576) (hW : awB p f = false) :
    Calls Tryz.prog 40 #[v, frV f] w fun e w' => ∃ r, e = .returned r ∧ peV w' r (inF p f) ∧ capQ r (inF p f) ∧ farP w v r ∧ Below w.heap.size w w' := by
  obtain ⟨q, i, rfl, hq, hi⟩ := hv
  obtain ⟨f1, f2⟩ := hf
  obtain ⟨xq, s, e, xi⟩ := p
  obtain ⟨fs, fa, fh, fb⟩ := f
  dsimp only at *
  obtain ⟨A, ca, rfl⟩ := hq.slice
  obtain ⟨A2, cb, rfl⟩ := hi.slice
  obtain ⟨s0, s1⟩ := hs
  obtain ⟨e0, e1⟩ := he
  show Calls Tryz.prog 40 #[peA (.slice A xq.length ca) s e (.slice A2 xi.length cb), frA fs fa fh fb] w _
  have B1 : Below w.heap.size w (((w.alloc (.cells #[.slice A xq.length ca, .int .i64 s, .int .i64 e, .slice A2 xi.length cb] 53)).alloc (.cells #[.int .i64 fs, .int .i64 fa, .bool fh, .string fb] 75)).alloc (.cells #[.slice none 0 0, .int .i64 0, .int .i64 0, .slice none 0 0] 53)) := bl_al (bl_al (bl_al (Below.refl _ _)))
  have n2 : (((w.alloc (.cells #[.slice A xq.length ca, .int .i64 s, .int .i64 e, .slice A2 xi.length cb] 53)).alloc (.cells #[.int .i64 fs, .int .i64 fa, .bool fh, .string fb] 75)).alloc (.cells #[.slice none 0 0, .int .i64 0, .int .i64 0, .slice none 0 0] 53)).heap[w.heap.size + 1 + 1]? = some (.cells #[.slice none 0 0, .int .i64 0, .int .i64 0, .slice none 0 0] 53 (0, 0)) := heap_at _ _ _ (by simp)
  have n1 : (((w.alloc (.cells #[.slice A xq.length ca, .int .i64 s, .int .i64 e, .slice A2 xi.length cb] 53)).alloc (.cells #[.int .i64 fs, .int .i64 fa, .bool fh, .string fb] 75)).alloc (.cells #[.slice none 0 0, .int .i64 0, .int .i64 0, .slice none 0 0] 53)).heap[w.heap.size + 1]? = some (.cells #[.int .i64 fs, .int .i64 fa, .bool fh, .string fb] 75 (0, 0)) := by
    rw [Below.heap_alloc _ _ _ (by simp)]
    exact heap_at _ _ _ (by simp)
  have n0 : (((w.alloc (.cells #[.slice A xq.length ca, .int .i64 s, .int .i64 e, .slice A2 xi.length cb] 53)).alloc (.cells #[.int .i64 fs, .int .i64 fa, .bool fh, .string fb] 75)).alloc (.cells #[.slice none 0 0, .int .i64 0, .int .i64 0, .slice none 0 0] 53)).heap[w.heap.size]? = some (.cells #[.slice A xq.length ca, .int .i64 s, .int .i64 e, .slice A2 xi.length cb] 53 (0, 0)) := by
    rw [Below.heap_alloc _ _ _ (by simp; omega), Below.heap_alloc _ _ _ (by simp)]
    exact heap_at _ _ _ rfl
  have EZ : Hid ((((w.alloc (.cells #[.slice A xq.length ca, .int .i64 s, .int .i64 e, .slice A2 xi.length cb] 53)).alloc (.cells #[.int .i64 fs, .int .i64 fa, .bool fh, .string fb] 75)).alloc (.cells #[.slice none 0 0, .int .i64 0, .int .i64 0, .slice none 0 0] 53)).heap.size = w.heap.size + 1 + 1 + 1) := hide (by simp)
  have M0 := hide n0
  have MF := hide n1
  have M2 := hide n2
  have BB := hide B1
  have VQ := hide (hq.below B1)
  have VI := hide (hi.below B1)
  have VQr : Hid (apB w.heap.size (w.heap.size + 1 + 1) (.slice A xq.length ca) xq) := hide (apB_old hq)
  have VIr : Hid (apB w.heap.size (w.heap.size + 1 + 1) (.slice A2 xi.length cb) xi) := hide (apB_old hi)
  have CQ := hide hcq
  have FQ := hide f1
  have q0 : (0 : Int) ≤ (xq.length : Int) := by omega
  have q1 : (xq.length : Int) ≤ 1048576 := by omega
  have i0 : (0 : Int) ≤ (xi.length : Int) := by omega
  have i1 : (xi.length : Int) ≤ 1048576 := by omega
  have FI := hide f2
  clear n0 n1 n2 B1 hq hi f1 f2 hcq
  have NI : Hid (newOr w.heap.size (.slice A2 xi.length cb) (.slice A2 xi.length cb)) := hide (.inl rfl)
  have HT := hide (takeF_f hW)
  have hW4 : fh = false ∨ (fh = true ∧ (fs == e) = false) ∨ (fh = true ∧ (fs == e) = true ∧ (100 : Int) ≤ (xi.length : Int)) ∨ (fh = true ∧ (fs == e) = true ∧ (xi.length : Int) < 100 ∧ 65535 ≤ e) := by
    unfold awB at hW
    dsimp only at hW
    cases fh with
    | false => exact .inl rfl
    | true =>
      by_cases h1 : fs = e
      · by_cases h2 : xi.length < 100
        · by_cases h3 : e < 65535
          · simp [h1, h2, h3] at hW
          · exact .inr (.inr (.inr ⟨rfl, by simpa using h1, by omega, by omega⟩))
        · exact .inr (.inr (.inl ⟨rfl, by simpa using h1, by omega⟩))
      · exact .inr (.inl ⟨rfl, by simpa using h1⟩)
  clear hW
  have CX : Hid (capQ (peA (.slice A xq.length ca) s e (.slice A2 xi.length cb)) ⟨xq, s, e, xi⟩) := hide (unhide CQ).other
  by_cases hA : fa = s + 1
  · subst hA
    cases xq with
    | nil =>
      have HR := hide (show inF ⟨[], s, e, xi⟩ ⟨fs, s + 1, fh, fb⟩ = ⟨[], s, e, xi⟩ by unfold inF; rw [unhide HT]; exact if_neg (by simp))
      have nz : (([] : List ByteArray).length : Int) = 0 := rfl
      simp only [List.length_nil] at *
      rcases hW4 with rfl | ⟨rfl, x1⟩ | ⟨rfl, x1, x2⟩ | ⟨rfl, x1, x2, x3⟩
      all_goals (
        go_enter Tryz.func40, Tryz.ntmps40
        go_wp2_with (first
          | (with_reducible change wpList _ _ _ ({ dst := _, op := Op.load 53 _, type := _, pos := _, after := _, guard := _ } :: _) _ _; refine wpList_load_row rfl 53 _ rfl w.heap.size rfl 53 #[.slice A 0 ca, .int .i64 s, .int .i64 e, .slice A2 xi.length cb] (0, 0) _ (unhide M0) Tryz.underlying53 rfl (by kernel_rfl) ?_)
          | (with_reducible change wpList _ _ _ ({ dst := none, op := Op.store 53 _ _, type := _, pos := _, after := _, guard := _ } :: _) _ _; refine wpList_store_row rfl 53 _ _ rfl (w.heap.size + 1 + 1) #[.slice A 0 ca, .int .i64 s, .int .i64 e, .slice A2 xi.length cb] rfl rfl 53 #[.slice none 0 0, .int .i64 0, .int .i64 0, .slice none 0 0] (unhide M2) (by kernel_rfl) rfl (by kernel_rfl) ?_))
        refine bodyPost_ret (v := peA (.slice A 0 ca) s e (.slice A2 xi.length cb)) ?_ rfl ?_
        · exact results_cell_row rfl _ _ (w.heap.size + 1 + 1) 53 _ (0, 0) _ rfl (get_setRow (unhide M2)) Tryz.underlying53 rfl (by kernel_rfl)
        · rw [unhide HR]
          exact ⟨_, rfl, ⟨_, _, rfl, (unhide VQr _ _ (by omega) (by omega) (unhide VQ)).1 _, (unhide VIr _ _ (by omega) (by omega) (unhide VI)).1 _⟩, unhide CX, ⟨_, _, _, _, _, _, _, _, rfl, rfl, .inl rfl, unhide NI⟩, below_setRow (unhide BB) (by omega)⟩)
    | cons t ts =>
      have HR := hide (show inF ⟨t :: ts, s, e, xi⟩ ⟨fs, s + 1, fh, fb⟩ = ⟨ts, s + 1, e, xi⟩ by unfold inF; rw [unhide HT]; exact if_pos ⟨rfl, by simp⟩)
      have p0 : (0 : Int) < ((t :: ts).length : Int) := by simp
      obtain ⟨bq, oq, rfl⟩ : ∃ b off, A = some ⟨b, off, none⟩ := by
        obtain ⟨A', c', e', h'⟩ := unhide VQ
        obtain ⟨b, off, hA', _, _⟩ := h' (by simp)
        exact ⟨b, off, (Value.slice.inj e').1.trans hA'⟩
      have hcap : (t :: ts).length ≤ ca := by
        obtain ⟨A', c', i', e', h'⟩ := unhide CQ
        have e3 : ca = c' := (Value.slice.inj (List.cons.inj (Array.mk.inj (Value.agg.inj e'))).1).2.2
        rw [e3]; exact h'
      obtain ⟨oq', ho, hrun⟩ := cut_one bq oq (t :: ts).length ca (by simp) hcap (by have := unhide FQ; simp at this ⊢; omega)
      have hl1 : (t :: ts).length - 1 = ts.length := by simp
      rw [hl1] at hrun
      have V1f : Hid (∀ W : World, strsV W (.slice (some ⟨bq, oq, none⟩) (t :: ts).length ca) (t :: ts) → strsV W (.slice (some ⟨bq, oq', none⟩) ts.length (ca - 1)) ts) := hide fun W hW => tail_strs ho hW
      have F1 : Hid (ts.length ≤ 2097152) := hide (by have := unhide FQ; simp at this; omega)
      have p1 : ((t :: ts).length : Int) ≤ 1048576 := by have := unhide FQ; omega
      clear hcap ho hl1
      generalize (t :: ts).length = n at *
      rcases hW4 with rfl | ⟨rfl, x1⟩ | ⟨rfl, x1, x2⟩ | ⟨rfl, x1, x2, x3⟩
      all_goals (
        go_enter Tryz.func40, Tryz.ntmps40
        go_wp2_with (first
          | (at_builtin; refine wpList_copy _ rfl _ _ rfl (w.heap.size + 1 + 1 + 1) (by simp) rfl (.slice (some ⟨bq, oq', none⟩) ts.length (ca - 1)) ts rfl (unhide V1f _ (unhide VQ)) (unhide F1) ?_
             intro g1 k1 wz cp
             have n0 := (cp.be.block _ (Array.getElem?_eq_some_iff.1 (unhide M0)).1).trans (unhide M0)
             have n2 := (cp.be.block _ (Array.getElem?_eq_some_iff.1 (unhide M2)).1).trans (unhide M2)
             have sM := (Array.getElem?_eq_some_iff.1 (unhide M2)).1
             have B9 := bl_st cp.be (unhide BB)
             have O9 := hide cp.own.strs
             have K9 := hide (show w.heap.size + 1 + 1 < g1 by have := cp.lo; omega)
             have C9 : Hid (ts.length ≤ k1) := hide (by obtain ⟨A0, c0, e0, h0⟩ := cp.own.cap; have e1 : k1 = c0 := (Value.slice.inj e0).2.2; rw [e1]; exact h0)
             have I9 := hide ((unhide VI).below cp.be)
             obtain ⟨_, c0, c1, c2, c3⟩ := pc_row n0
             have z0 : wz.frozen? ⟨w.heap.size, 0, none⟩ = false := row_free n0
             have z1 : wz.frozen? ⟨w.heap.size, 1, none⟩ = false := row_free n0
             have m0 := row_set (i := 1) (v := .int .i64 (s + 1)) (row_set (i := 0) (v := .slice (some ⟨g1, 0, none⟩) ts.length k1) n0)
             simp only [List.setIfInBounds_toArray, List.set_cons_zero, List.set_cons_succ] at m0
             have L9 := (lone_setCell w.heap.size 0 wz (.slice (some ⟨g1, 0, none⟩) ts.length k1)).trans (lone_setCell w.heap.size 1 _ (.int .i64 (s + 1)))
             have HL9 := hide L9
             have P0 := hide m0
             have P2 := hide ((L9.block _ (Array.getElem?_eq_some_iff.1 n2).1 (by omega)).trans n2)
             have BL := hide (L9.below B9 (Nat.le_refl _) B9.size)
             clear n0 n2 m0 B9 cp M0 MF M2 BB VQ VI V1f F1 sM L9)
          | (with_reducible change wpList _ _ _ ({ dst := none, op := Op.store 53 _ _, type := _, pos := _, after := _, guard := _ } :: _) _ _; refine wpList_store_row rfl 53 _ _ rfl (w.heap.size + 1 + 1) #[.slice (some ⟨g1, 0, none⟩) ts.length k1, .int .i64 (s + 1), .int .i64 e, .slice A2 xi.length cb] rfl rfl 53 #[.slice none 0 0, .int .i64 0, .int .i64 0, .slice none 0 0] (unhide P2) (by kernel_rfl) rfl (by kernel_rfl) ?_))
        have k9 := unhide K9
        refine bodyPost_ret (v := peA (.slice (some ⟨g1, 0, none⟩) ts.length k1) (s + 1) e (.slice A2 xi.length cb)) ?_ rfl ?_
        · exact results_cell_row rfl _ _ (w.heap.size + 1 + 1) 53 _ (0, 0) _ rfl (get_setRow (unhide P2)) Tryz.underlying53 rfl (by kernel_rfl)
        · rw [unhide HR]
          refine ⟨_, rfl, ⟨_, _, rfl, ?_, ?_⟩, ⟨_, _, _, rfl, unhide C9⟩, ⟨_, _, _, _, _, _, _, _, rfl, rfl, .inr (fun k hk => by have : k = g1 := (Option.some.inj hk).symm; omega), unhide NI⟩, below_setRow (unhide BL) (by omega)⟩
          · exact strs_row (strs_set (strs_set (unhide O9) (fun k hk => by have : k = g1 := (Option.some.inj hk).symm; omega)) (fun k hk => by have : k = g1 := (Option.some.inj hk).symm; omega)) (fun k hk => by have : k = g1 := (Option.some.inj hk).symm; omega)
          · exact (unhide VIr _ _ (by omega) (by omega) ((unhide VIr _ _ (by omega) (by omega) ((unhide VIr _ _ (by omega) (by omega) (unhide I9)).2 _ _)).2 _ _)).1 _)
  · have HR := hide (show inF ⟨xq, s, e, xi⟩ ⟨fs, fa, fh, fb⟩ = ⟨xq, s, e, xi⟩ by unfold inF; rw [unhide HT]; exact if_neg (fun h => hA h.1))
    have hA' : (fa == s + 1) = false := by simpa using hA
    rcases hW4 with rfl | ⟨rfl, x1⟩ | ⟨rfl, x1, x2⟩ | ⟨rfl, x1, x2, x3⟩
    all_goals (
      go_enter Tryz.func40, Tryz.ntmps40
      go_wp2_with (first
        | (with_reducible change wpList _ _ _ ({ dst := _, op := Op.load 53 _, type := _, pos := _, after := _, guard := _ } :: _) _ _; refine wpList_load_row rfl 53 _ rfl w.heap.size rfl 53 #[.slice A xq.length ca, .int .i64 s, .int .i64 e, .slice A2 xi.length cb] (0, 0) _ (unhide M0) Tryz.underlying53 rfl (by kernel_rfl) ?_)
        | (with_reducible change wpList _ _ _ ({ dst := none, op := Op.store 53 _ _, type := _, pos := _, after := _, guard := _ } :: _) _ _; refine wpList_store_row rfl 53 _ _ rfl (w.heap.size + 1 + 1) #[.slice A xq.length ca, .int .i64 s, .int .i64 e, .slice A2 xi.length cb] rfl rfl 53 #[.slice none 0 0, .int .i64 0, .int .i64 0, .slice none 0 0] (unhide M2) (by kernel_rfl) rfl (by kernel_rfl) ?_))
      refine bodyPost_ret (v := peA (.slice A xq.length ca) s e (.slice A2 xi.length cb)) ?_ rfl ?_
      · exact results_cell_row rfl _ _ (w.heap.size + 1 + 1) 53 _ (0, 0) _ rfl (get_setRow (unhide M2)) Tryz.underlying53 rfl (by kernel_rfl)
      · rw [unhide HR]
        exact ⟨_, rfl, ⟨_, _, rfl, (unhide VQr _ _ (by omega) (by omega) (unhide VQ)).1 _, (unhide VIr _ _ (by omega) (by omega) (unhide VI)).1 _⟩, unhide CX, ⟨_, _, _, _, _, _, _, _, rfl, rfl, .inl rfl, unhide NI⟩, below_setRow (unhide BB) (by omega)⟩)
end Go.Proofs.YtbkcgkffafjbgaaGreatDoor
