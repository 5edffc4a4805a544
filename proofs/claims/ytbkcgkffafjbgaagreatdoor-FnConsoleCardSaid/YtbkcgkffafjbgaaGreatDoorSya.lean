/- A peer copied by the specification; a text said, by the specification. -/
import Derived.Test.YtbkcgkffafjbgaaGreatDoorCpy
namespace Go.Proofs.YtbkcgkffafjbgaaGreatDoor
open Go.RowKit
set_option maxHeartbeats 4000000
set_option maxRecDepth 20000
/-- the same value, or one that lies from block lo on -/
def newOr (lo : Nat) (u v : Value) : Prop := u = v ∨ ∀ k, u.ownBlock = some k → lo ≤ k
/-- a peer's lists are those that came in, or new -/
def farP (w : World) (v r : Value) : Prop := ∃ q i s e q' i' s' e', v = peA q s e i ∧ r = peA q' s' e' i' ∧ newOr w.heap.size q' q ∧ newOr w.heap.size i' i
/-- a peer's queue has its room -/
def capQ (v : Value) (p : Pe) : Prop := ∃ A c i, v = peA (.slice A p.q.length c) p.s p.e i ∧ p.q.length ≤ c
theorem peO.cap {lo hi : Nat} {w : World} {v : Value} {p : Pe} (h : peO lo hi w v p) : capQ v p := by
  obtain ⟨q, i, rfl, h1, _, _⟩ := h
  obtain ⟨A, c, rfl, hc⟩ := h1.cap
  exact ⟨A, c, i, rfl, hc⟩
/-- a store into a block that came later -/
theorem strs_set {W : World} {b k : Nat} {u v : Value} {xs : List ByteArray} (h : strsV W v xs) (hb : ∀ g, v.ownBlock = some g → g ≠ b) : strsV (W.setCell ⟨b, k, none⟩ u) v xs := by
  obtain ⟨A, cap, rfl, hc⟩ := h
  refine ⟨A, cap, rfl, fun hn => ?_⟩
  obtain ⟨g, off, rfl, hl, hc⟩ := hc hn
  have hne : g ≠ b := hb g rfl
  refine ⟨g, off, rfl, by rw [size_set]; exact hl, fun j hj => ?_⟩
  rw [← hc j hj]
  unfold World.cell?
  rw [show (⟨g, off + j, none⟩ : Addr).block = g from rfl]
  simp only [World.setCell]
  rw [Array.getElem?_modify, if_neg (by omega)]
theorem strs_row {W : World} {b : Nat} {cs : Array Value} {v : Value} {xs : List ByteArray} (h : strsV W v xs) (hb : ∀ g, v.ownBlock = some g → g ≠ b) : strsV (W.setRow b cs) v xs := by
  obtain ⟨A, cap, rfl, hc⟩ := h
  refine ⟨A, cap, rfl, fun hn => ?_⟩
  obtain ⟨g, off, rfl, hl, hc⟩ := hc hn
  have hne : g ≠ b := hb g rfl
  refine ⟨g, off, rfl, by simpa [World.setRow] using hl, fun j hj => ?_⟩
  rw [← hc j hj]
  unfold World.cell?
  rw [show (⟨g, off + j, none⟩ : Addr).block = g from rfl, get_setRow_other hne]
theorem say60 (v : Value) (p : Pe) (t : ByteArray) (w : World) (hv : peV w v p) (hf : peFew p) (ht : t.size ≤ maxLen) :
    Calls Tryz.prog 38 #[v, .string t] w fun e w' => ∃ r, e = .returned (.tuple #[r, .int .i64 (sayF p t).2]) ∧ peV w' r (sayF p t).1 ∧ (capQ v p → capQ r (sayF p t).1) ∧ farP w v r ∧ Below w.heap.size w w' := by
  obtain ⟨q, i, rfl, hq, hi⟩ := hv
  obtain ⟨f1, f2⟩ := hf
  obtain ⟨xq, s, e, xi⟩ := p
  dsimp only at *
  have B1 : Below w.heap.size w ((w.alloc (.cells #[q, .int .i64 s, .int .i64 e, i] 53)).alloc (.cells #[.slice none 0 0, .int .i64 0, .int .i64 0, .slice none 0 0] 53)) := bl_al (bl_al (Below.refl _ _))
  have n1 : ((w.alloc (.cells #[q, .int .i64 s, .int .i64 e, i] 53)).alloc (.cells #[.slice none 0 0, .int .i64 0, .int .i64 0, .slice none 0 0] 53)).heap[w.heap.size + 1]? = some (.cells #[.slice none 0 0, .int .i64 0, .int .i64 0, .slice none 0 0] 53 (0, 0)) := heap_at _ _ _ (by simp)
  have n0 : ((w.alloc (.cells #[q, .int .i64 s, .int .i64 e, i] 53)).alloc (.cells #[.slice none 0 0, .int .i64 0, .int .i64 0, .slice none 0 0] 53)).heap[w.heap.size]? = some (.cells #[q, .int .i64 s, .int .i64 e, i] 53 (0, 0)) := by
    rw [Below.heap_alloc _ _ _ (by simp)]
    exact heap_at _ _ _ rfl
  have E1 : Hid (w.heap.size + 1 + 1 = ((w.alloc (.cells #[q, .int .i64 s, .int .i64 e, i] 53)).alloc (.cells #[.slice none 0 0, .int .i64 0, .int .i64 0, .slice none 0 0] 53)).heap.size) := hide (by simp)
  have HN0 := hide n0
  have HN1 := hide n1
  have HB := hide B1
  have V1 := hide (hq.below B1)
  have V2 := hide hi
  have F1 := hide (show xq.length ≤ 2097152 by omega)
  have F2 := hide (show xi.length ≤ 2097152 by omega)
  obtain ⟨A, ca, rfl⟩ := hq.slice
  obtain ⟨A2, cb, rfl⟩ := hi.slice
  have HQ := hide hq
  have q0 : (0 : Int) ≤ (xq.length : Int) := by omega
  have q1 : (xq.length : Int) ≤ 1048576 := by omega
  unfold maxLen at ht
  have t0 : (0 : Int) ≤ (t.size : Int) := by omega
  have t1 : (t.size : Int) ≤ 9223372036854775807 := by omega
  clear n0 n1 B1 hq hi f1 f2 ht
  by_cases h1 : 40 < t.size
  · have HR := hide (show sayF ⟨xq, s, e, xi⟩ t = (⟨xq, s, e, xi⟩, 4) from if_pos h1)
    have h2 : (40 : Int) < (t.size : Int) := by omega
    clear h1
    go_enter Tryz.func38, Tryz.ntmps38
    go_wp2_with (refine wpList_store_row rfl 53 _ _ rfl (w.heap.size + 1) #[.slice A xq.length ca, .int .i64 s, .int .i64 e, .slice A2 xi.length cb] rfl rfl 53 #[.slice none 0 0, .int .i64 0, .int .i64 0, .slice none 0 0] (unhide HN1) (by kernel_rfl) rfl (by kernel_rfl) ?_)
    refine bodyPost_ret (v := .tuple #[peA (.slice A xq.length ca) s e (.slice A2 xi.length cb), .int .i64 4]) ?_ rfl ⟨peA (.slice A xq.length ca) s e (.slice A2 xi.length cb), ?_, ?_, ?_, ⟨_, _, _, _, _, _, _, _, rfl, rfl, .inl rfl, .inl rfl⟩, below_setRow (unhide HB) (by omega)⟩
    · exact results_tmp_row rfl _ _ (w.heap.size + 1) 53 _ (0, 0) _ _ rfl rfl (get_setRow (unhide HN1)) Tryz.underlying53 rfl (by kernel_rfl)
    · rw [unhide HR]
    · rw [unhide HR]; exact ⟨_, _, rfl, (unhide HQ).below (below_setRow (unhide HB) (by omega)), (unhide V2).below (below_setRow (unhide HB) (by omega))⟩
    · rw [unhide HR]; exact fun h => h
  have h2 : (t.size : Int) ≤ 40 := by omega
  by_cases h3 : xq.length = 8
  · have HR := hide (show sayF ⟨xq, s, e, xi⟩ t = (⟨xq, s, e, xi⟩, 17) from (if_neg h1).trans (if_pos h3))
    have h4 : (xq.length : Int) = 8 := by omega
    have h5 : ((xq.length : Int) == 8) = true := by simp [h4]
    clear h1 h3
    go_enter Tryz.func38, Tryz.ntmps38
    go_wp2_with (refine wpList_store_row rfl 53 _ _ rfl (w.heap.size + 1) #[.slice A xq.length ca, .int .i64 s, .int .i64 e, .slice A2 xi.length cb] rfl rfl 53 #[.slice none 0 0, .int .i64 0, .int .i64 0, .slice none 0 0] (unhide HN1) (by kernel_rfl) rfl (by kernel_rfl) ?_)
    refine bodyPost_ret (v := .tuple #[peA (.slice A xq.length ca) s e (.slice A2 xi.length cb), .int .i64 17]) ?_ rfl ⟨peA (.slice A xq.length ca) s e (.slice A2 xi.length cb), ?_, ?_, ?_, ⟨_, _, _, _, _, _, _, _, rfl, rfl, .inl rfl, .inl rfl⟩, below_setRow (unhide HB) (by omega)⟩
    · exact results_tmp_row rfl _ _ (w.heap.size + 1) 53 _ (0, 0) _ _ rfl rfl (get_setRow (unhide HN1)) Tryz.underlying53 rfl (by kernel_rfl)
    · rw [unhide HR]
    · rw [unhide HR]; exact ⟨_, _, rfl, (unhide HQ).below (below_setRow (unhide HB) (by omega)), (unhide V2).below (below_setRow (unhide HB) (by omega))⟩
    · rw [unhide HR]; exact fun h => h
  have HR := hide (show sayF ⟨xq, s, e, xi⟩ t = (⟨xq ++ [t], s, e, xi⟩, 0) from (if_neg h1).trans (if_neg h3))
  have h4 : ¬ (xq.length : Int) = 8 := by omega
  have h5 : ((xq.length : Int) == 8) = false := by simp; omega
  clear h1 h3
  go_enter Tryz.func38, Tryz.ntmps38
  go_wp2_with (first
    | (at_builtin; refine wpList_copy ((w.alloc (.cells #[.slice A xq.length ca, .int .i64 s, .int .i64 e, .slice A2 xi.length cb] 53)).alloc (.cells #[.slice none 0 0, .int .i64 0, .int .i64 0, .slice none 0 0] 53)) rfl _ _ rfl (w.heap.size + 1 + 1) (unhide E1) rfl (.slice A xq.length ca) xq rfl (unhide V1) (unhide F1) ?_
       intro g1 k1 w3 cp1
       have CP := hide cp1
       clear cp1)
    | (at_builtin; refine wpList_push w3 rfl _ _ rfl ((w.alloc (.cells #[.slice A xq.length ca, .int .i64 s, .int .i64 e, .slice A2 xi.length cb] 53)).alloc (.cells #[.slice none 0 0, .int .i64 0, .int .i64 0, .slice none 0 0] 53)).heap.size xq.length g1 k1 xq rfl (unhide CP).row w3.heap.size rfl t rfl (unhide F1) (unhide CP).be.size ?_
       intro g2 k2 w5 pu
       have B5 := pu.be _ _ (bl_st (unhide CP).be (unhide HB)) (by have := unhide E1; omega) (bl_st (unhide CP).be (unhide HB)).size
       have Y1 := unhide E1
       have Y2 := (unhide CP).lo
       have Y3 := (unhide CP).be.size
       have n0 := ((pu.kept _ (by omega) (by omega)).trans ((unhide CP).be.block _ (by omega))).trans (unhide HN0)
       have n1 := ((pu.kept _ (by omega) (by omega)).trans ((unhide CP).be.block _ (by omega))).trans (unhide HN1)
       have O5 := hide (pu.own (by simp)).strs
       have CQ : Hid (xq.length + 1 ≤ k2) := hide (by obtain ⟨A0, c0, e0, h0⟩ := (pu.own (by simp)).cap; have e1 : k2 = c0 := by simpa using (Value.slice.inj e0).2.2
                                                      rw [e1]; simpa using h0)
       have Y4 := hide (show w.heap.size + 1 + 1 ≤ g2 by have := pu.lo; omega)
       obtain ⟨_, c0, c1, c2, c3⟩ := pc_row n0
       have z0 : w5.frozen? ⟨w.heap.size, 0, none⟩ = false := row_free n0
       have m0 := row_set (i := 0) (v := .slice (some ⟨g2, 0, none⟩) (xq.length + 1) k2) n0
       simp only [List.setIfInBounds_toArray, List.set_cons_zero] at m0
       have M0 := hide m0
       have M1 := hide (row_set_other (i := 0) (v := .slice (some ⟨g2, 0, none⟩) (xq.length + 1) k2) n1 (show w.heap.size ≠ w.heap.size + 1 by omega))
       have B6 := hide (bl_set (i := 0) (v := .slice (some ⟨g2, 0, none⟩) (xq.length + 1) k2) B5 (Nat.le_refl w.heap.size))
       clear n0 n1 m0 pu CP Y1 Y2 Y3 B5 HB HN0 HN1 E1 V1)
    | refine wpList_store_row rfl 53 _ _ rfl (w.heap.size + 1) #[.slice (some ⟨g2, 0, none⟩) (xq.length + 1) k2, .int .i64 s, .int .i64 e, .slice A2 xi.length cb] rfl rfl 53 #[.slice none 0 0, .int .i64 0, .int .i64 0, .slice none 0 0] (unhide M1) (by kernel_rfl) rfl (by kernel_rfl) ?_)
  refine bodyPost_ret (v := .tuple #[peA (.slice (some ⟨g2, 0, none⟩) (xq.length + 1) k2) s e (.slice A2 xi.length cb), .int .i64 0]) ?_ rfl ⟨peA (.slice (some ⟨g2, 0, none⟩) (xq.length + 1) k2) s e (.slice A2 xi.length cb), ?_, ?_, ?_, ⟨_, _, _, _, _, _, _, _, rfl, rfl, .inr (fun k hk => by have : k = g2 := (Option.some.inj hk).symm; have := unhide Y4; omega), .inl rfl⟩, below_setRow (unhide B6) (by omega)⟩
  · exact results_tmp_row rfl _ _ (w.heap.size + 1) 53 _ (0, 0) _ _ rfl rfl (get_setRow (unhide M1)) Tryz.underlying53 rfl (by kernel_rfl)
  · rw [unhide HR]
  · rw [unhide HR]
    have y4 := unhide Y4
    exact ⟨_, _, rfl, strs_row (strs_set (unhide O5) (fun k e => by have : k = g2 := (Option.some.inj e).symm; omega)) (fun k e => by have : k = g2 := (Option.some.inj e).symm; omega), (unhide V2).below (below_setRow (unhide B6) (by omega))⟩
  · rw [unhide HR]; exact fun _ => ⟨some ⟨g2, 0, none⟩, k2, .slice A2 xi.length cb, by rw [List.length_append]; rfl, by rw [List.length_append]; exact unhide CQ⟩
end Go.Proofs.YtbkcgkffafjbgaaGreatDoor
