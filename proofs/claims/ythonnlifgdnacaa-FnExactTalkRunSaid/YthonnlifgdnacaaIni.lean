/- PeerIn of the specification. -/
import Derived.Test.YthonnlifgdnacaaIng
namespace Go.Proofs.Ythonnlifgdnacaa
open Go.RowKit
set_option maxHeartbeats 4000000
set_option maxRecDepth 20000
def inR (p : Pe) (f : Fr) : Pe × Int := if peOK p = true ∧ frB f = true then (inF p f, 0) else (pe0, 1)
theorem in_few {p : Pe} (f : Fr) (h : peOK p = true) : peFew (inF p f) := by
  obtain ⟨h1, h2, _⟩ := ok_few h
  unfold inF
  have k : (takeF p f).q.length ≤ 8 ∧ (takeF p f).i.length ≤ 101 := by
    unfold takeF
    split
    · exact ⟨h1, by simp; omega⟩
    · exact ⟨h1, by omega⟩
  unfold ackF
  split
  · exact ⟨by simp; omega, by dsimp only; omega⟩
  · exact ⟨by omega, by omega⟩
theorem inR_few (p : Pe) (f : Fr) : peFew (inR p f).1 := by
  unfold inR
  split
  · next h => exact in_few f h.1
  · exact ⟨by decide, by decide⟩
theorem pin19 (v : Value) (p : Pe) (f : Fr) (w : World) (hv : peV w v p) (hcq : capQ v p) (hf : peFew p) (hb : f.b.size ≤ maxLen) :
    Calls Try.prog 19 #[v, frV f] w fun e w' => outO w (inR p f).1 (inR p f).2 e w' := by
  have K2 := hide (fun W (hok : peOK p = true) (h : peV W v p) => in57 v p f W h hcq hf (by have := ok_few hok; omega) (by have := ok_few hok; omega))
  have K3 := hide (fun u W (hok : peOK p = true) (h : peV W u (inF p f)) => own49 u (inF p f) W h (in_few f hok))
  obtain ⟨q, i, rfl, hq, hi⟩ := hv
  have HP := hide (show peV w (peA q p.s p.e i) p from ⟨q, i, rfl, hq, hi⟩)
  have HF := hide hf
  obtain ⟨xq, s, e, xi⟩ := p
  obtain ⟨fs, fa, fh, fb⟩ := f
  dsimp only at *
  obtain ⟨A, ca, rfl⟩ := hq.slice
  obtain ⟨A2, cb, rfl⟩ := hi.slice
  show Calls Try.prog 19 #[peA (.slice A xq.length ca) s e (.slice A2 xi.length cb), frA fs fa fh fb] w _
  have B1 : Below w.heap.size w (((w.alloc (.cells #[.slice A xq.length ca, .int .i64 s, .int .i64 e, .slice A2 xi.length cb] 33)).alloc (.cells #[.int .i64 fs, .int .i64 fa, .bool fh, .string fb] 41)).alloc (.cells #[.slice none 0 0, .int .i64 0, .int .i64 0, .slice none 0 0] 33)) := bl_al (bl_al (bl_al (Below.refl _ _)))
  have n2 : (((w.alloc (.cells #[.slice A xq.length ca, .int .i64 s, .int .i64 e, .slice A2 xi.length cb] 33)).alloc (.cells #[.int .i64 fs, .int .i64 fa, .bool fh, .string fb] 41)).alloc (.cells #[.slice none 0 0, .int .i64 0, .int .i64 0, .slice none 0 0] 33)).heap[w.heap.size + 1 + 1]? = some (.cells #[.slice none 0 0, .int .i64 0, .int .i64 0, .slice none 0 0] 33 (0, 0)) := heap_at _ _ _ (by simp)
  have n1 : (((w.alloc (.cells #[.slice A xq.length ca, .int .i64 s, .int .i64 e, .slice A2 xi.length cb] 33)).alloc (.cells #[.int .i64 fs, .int .i64 fa, .bool fh, .string fb] 41)).alloc (.cells #[.slice none 0 0, .int .i64 0, .int .i64 0, .slice none 0 0] 33)).heap[w.heap.size + 1]? = some (.cells #[.int .i64 fs, .int .i64 fa, .bool fh, .string fb] 41 (0, 0)) := by
    rw [Below.heap_alloc _ _ _ (by simp)]
    exact heap_at _ _ _ (by simp)
  have n0 : (((w.alloc (.cells #[.slice A xq.length ca, .int .i64 s, .int .i64 e, .slice A2 xi.length cb] 33)).alloc (.cells #[.int .i64 fs, .int .i64 fa, .bool fh, .string fb] 41)).alloc (.cells #[.slice none 0 0, .int .i64 0, .int .i64 0, .slice none 0 0] 33)).heap[w.heap.size]? = some (.cells #[.slice A xq.length ca, .int .i64 s, .int .i64 e, .slice A2 xi.length cb] 33 (0, 0)) := by
    rw [Below.heap_alloc _ _ _ (by simp; omega), Below.heap_alloc _ _ _ (by simp)]
    exact heap_at _ _ _ rfl
  have EZ : Hid ((((w.alloc (.cells #[.slice A xq.length ca, .int .i64 s, .int .i64 e, .slice A2 xi.length cb] 33)).alloc (.cells #[.int .i64 fs, .int .i64 fa, .bool fh, .string fb] 41)).alloc (.cells #[.slice none 0 0, .int .i64 0, .int .i64 0, .slice none 0 0] 33)).heap.size = w.heap.size + 1 + 1 + 1) := hide (by simp)
  have M0 := hide n0
  have MF := hide n1
  have M2 := hide n2
  have BB := hide B1
  clear n0 n1 n2 B1
  have K1 := hide (fun W (h : Below w.heap.size w W) => ok26 _ _ W ((unhide HP).below h) hf)
  have KI := hide (fun n W => in56 n 0 65535 W)
  unfold maxLen at hb
  have t0 : (0 : Int) ≤ (fb.size : Int) := by omega
  have t1 : (fb.size : Int) ≤ 9223372036854775807 := by omega
  clear hq hi hf hb hcq
  go_enter Try.func19, Try.ntmps19
  go_wp2_with fail
  generalize ((w.alloc (.cells #[.slice A xq.length ca, .int .i64 s, .int .i64 e, .slice A2 xi.length cb] 33)).alloc (.cells #[.int .i64 fs, .int .i64 fa, .bool fh, .string fb] 41)).alloc (.cells #[.slice none 0 0, .int .i64 0, .int .i64 0, .slice none 0 0] 33) = w1 at *
  have EZ : Hid (w.heap.size + 1 + 1 + 1 ≤ w1.heap.size) := hide (Nat.le_of_eq (unhide EZ).symm)
  refine (unhide K1 w1 (unhide BB)).mono ?_
  rintro e1 w2 ⟨rfl, b2⟩
  have M0 := hide ((b2.block _ (Array.getElem?_eq_some_iff.1 (unhide M0)).1).trans (unhide M0))
  have MF := hide ((b2.block _ (Array.getElem?_eq_some_iff.1 (unhide MF)).1).trans (unhide MF))
  have M2 := hide ((b2.block _ (Array.getElem?_eq_some_iff.1 (unhide M2)).1).trans (unhide M2))
  have BB := hide (bl_st b2 (unhide BB))
  have EZ : Hid (w.heap.size + 1 + 1 + 1 ≤ w2.heap.size) := hide (by have := b2.size; have := unhide EZ; omega)
  obtain ⟨_, c0, c1, c2, c3⟩ := pc_row (unhide M0)
  obtain ⟨_, d0, d1, d2, d3⟩ := fc_row (unhide MF)
  clear b2 K1
  by_cases hok : peOK ⟨xq, s, e, xi⟩ = true
  case neg =>
    have hok2 : peOK ⟨xq, s, e, xi⟩ = false := by simpa using hok
    rw [hok2]
    have HR := hide (show inR ⟨xq, s, e, xi⟩ ⟨fs, fa, fh, fb⟩ = (pe0, 1) from if_neg (fun h => hok h.1))
    go_wp2_with (with_reducible change wpList _ _ _ ({ dst := none, op := Op.store 33 _ _, type := _, pos := _, after := _, guard := _ } :: _) _ _; refine wpList_store_row rfl 33 _ _ rfl (w.heap.size + 1 + 1) #[.slice none 0 0, .int .i64 0, .int .i64 0, .slice none 0 0] rfl rfl 33 #[.slice none 0 0, .int .i64 0, .int .i64 0, .slice none 0 0] (unhide M2) (by kernel_rfl) rfl (by kernel_rfl) ?_)
    refine bodyPost_ret (v := .tuple #[noP, .int .i64 1]) ?_ rfl ?_
    · exact results_tmp_row rfl _ _ (w.heap.size + 1 + 1) 33 _ (0, 0) _ _ rfl rfl (get_setRow (unhide M2)) Try.underlying33 rfl (by kernel_rfl)
    · rw [unhide HR]
      exact ⟨_, rfl, own_noP _ _ _, below_setRow (unhide BB) (by omega)⟩
  have KO2 := hide (fun W h => unhide K2 W hok h)
  have KO3 := hide (fun u W h => unhide K3 u W hok h)
  have HOK := hide hok
  rw [hok]
  clear hok K2 K3
  go_wp2_with fail
  refine (unhide KI fs w2).mono ?_
  rintro e1 w2' ⟨rfl, hw⟩
  have hw2 := hw.symm
  subst hw2
  clear hw
  by_cases h1 : sqB fs = true
  case neg =>
    have h1' : sqB fs = false := by simpa using h1
    have h1x : (decide (0 ≤ fs) && decide (fs ≤ 65535)) = false := h1'
    rw [h1x]
    have HR := hide (show inR ⟨xq, s, e, xi⟩ ⟨fs, fa, fh, fb⟩ = (pe0, 1) from if_neg (fun h => by have h2 := h.2; simp [frB, h1'] at h2))
    go_wp2_with (with_reducible change wpList _ _ _ ({ dst := none, op := Op.store 33 _ _, type := _, pos := _, after := _, guard := _ } :: _) _ _; refine wpList_store_row rfl 33 _ _ rfl (w.heap.size + 1 + 1) #[.slice none 0 0, .int .i64 0, .int .i64 0, .slice none 0 0] rfl rfl 33 #[.slice none 0 0, .int .i64 0, .int .i64 0, .slice none 0 0] (unhide M2) (by kernel_rfl) rfl (by kernel_rfl) ?_)
    refine bodyPost_ret (v := .tuple #[noP, .int .i64 1]) ?_ rfl ?_
    · exact results_tmp_row rfl _ _ (w.heap.size + 1 + 1) 33 _ (0, 0) _ _ rfl rfl (get_setRow (unhide M2)) Try.underlying33 rfl (by kernel_rfl)
    · rw [unhide HR]
      exact ⟨_, rfl, own_noP _ _ _, below_setRow (unhide BB) (by omega)⟩
  have h1x : (decide (0 ≤ fs) && decide (fs ≤ 65535)) = true := h1
  rw [h1x]
  clear h1x
  go_wp2_with fail
  refine (unhide KI fa w2).mono ?_
  rintro e1 w2' ⟨rfl, hw⟩
  have hw2 := hw.symm
  subst hw2
  clear hw
  by_cases h2 : sqB fa = true
  case neg =>
    have h2' : sqB fa = false := by simpa using h2
    have h2x : (decide (0 ≤ fa) && decide (fa ≤ 65535)) = false := h2'
    rw [h2x]
    clear h1
    have HR := hide (show inR ⟨xq, s, e, xi⟩ ⟨fs, fa, fh, fb⟩ = (pe0, 1) from if_neg (fun h => by have h2 := h.2; simp [frB, h2'] at h2))
    go_wp2_with (with_reducible change wpList _ _ _ ({ dst := none, op := Op.store 33 _ _, type := _, pos := _, after := _, guard := _ } :: _) _ _; refine wpList_store_row rfl 33 _ _ rfl (w.heap.size + 1 + 1) #[.slice none 0 0, .int .i64 0, .int .i64 0, .slice none 0 0] rfl rfl 33 #[.slice none 0 0, .int .i64 0, .int .i64 0, .slice none 0 0] (unhide M2) (by kernel_rfl) rfl (by kernel_rfl) ?_)
    refine bodyPost_ret (v := .tuple #[noP, .int .i64 1]) ?_ rfl ?_
    · exact results_tmp_row rfl _ _ (w.heap.size + 1 + 1) 33 _ (0, 0) _ _ rfl rfl (get_setRow (unhide M2)) Try.underlying33 rfl (by kernel_rfl)
    · rw [unhide HR]
      exact ⟨_, rfl, own_noP _ _ _, below_setRow (unhide BB) (by omega)⟩
  have h2x : (decide (0 ≤ fa) && decide (fa ≤ 65535)) = true := h2
  rw [h2x]
  clear h2x
  by_cases h3 : 40 < fb.size
  · have h3' : (40 : Int) < (fb.size : Int) := by omega
    have h3x : is40 fb = false := decide_eq_false (by omega)
    have HX := hide h3x
    clear h1 h2 h3 h3x
    have HR := hide (show inR ⟨xq, s, e, xi⟩ ⟨fs, fa, fh, fb⟩ = (pe0, 1) from if_neg (fun h => by have h2 := h.2; simp [frB, unhide HX] at h2))
    go_wp2_with (with_reducible change wpList _ _ _ ({ dst := none, op := Op.store 33 _ _, type := _, pos := _, after := _, guard := _ } :: _) _ _; refine wpList_store_row rfl 33 _ _ rfl (w.heap.size + 1 + 1) #[.slice none 0 0, .int .i64 0, .int .i64 0, .slice none 0 0] rfl rfl 33 #[.slice none 0 0, .int .i64 0, .int .i64 0, .slice none 0 0] (unhide M2) (by kernel_rfl) rfl (by kernel_rfl) ?_)
    refine bodyPost_ret (v := .tuple #[noP, .int .i64 1]) ?_ rfl ?_
    · exact results_tmp_row rfl _ _ (w.heap.size + 1 + 1) 33 _ (0, 0) _ _ rfl rfl (get_setRow (unhide M2)) Try.underlying33 rfl (by kernel_rfl)
    · rw [unhide HR]
      exact ⟨_, rfl, own_noP _ _ _, below_setRow (unhide BB) (by omega)⟩
  have h3' : (fb.size : Int) ≤ 40 := by omega
  have h3x : is40 fb = true := decide_eq_true (by omega)
  by_cases h4 : fh = false ∧ fb.size ≠ 0
  · obtain ⟨rfl, h4⟩ := h4
    have h4' : fb.toList.isEmpty = false := by
      cases hc : fb.toList with
      | nil => exact absurd ((txt_nil fb).1 hc) h4
      | cons a l => rfl
    have HX : Hid (frB ⟨fs, fa, false, fb⟩ = false) := hide (by simp [frB, h4])
    clear h1 h2 h3 h3x h4
    have HR := hide (show inR ⟨xq, s, e, xi⟩ ⟨fs, fa, false, fb⟩ = (pe0, 1) from if_neg (fun h => by have h2 := h.2; rw [unhide HX] at h2; cases h2))
    go_wp2_with (with_reducible change wpList _ _ _ ({ dst := none, op := Op.store 33 _ _, type := _, pos := _, after := _, guard := _ } :: _) _ _; refine wpList_store_row rfl 33 _ _ rfl (w.heap.size + 1 + 1) #[.slice none 0 0, .int .i64 0, .int .i64 0, .slice none 0 0] rfl rfl 33 #[.slice none 0 0, .int .i64 0, .int .i64 0, .slice none 0 0] (unhide M2) (by kernel_rfl) rfl (by kernel_rfl) ?_)
    refine bodyPost_ret (v := .tuple #[noP, .int .i64 1]) ?_ rfl ?_
    · exact results_tmp_row rfl _ _ (w.heap.size + 1 + 1) 33 _ (0, 0) _ _ rfl rfl (get_setRow (unhide M2)) Try.underlying33 rfl (by kernel_rfl)
    · rw [unhide HR]
      exact ⟨_, rfl, own_noP _ _ _, below_setRow (unhide BB) (by omega)⟩
  have HX : Hid (frB ⟨fs, fa, fh, fb⟩ = true) := hide (by
    unfold frB
    dsimp only
    rw [h1, h2, h3x]
    cases fh with
    | true => rfl
    | false =>
      have hz : fb.size = 0 := Classical.byContradiction fun hz => h4 ⟨rfl, hz⟩
      simp [hz])
  have HR := hide (show inR ⟨xq, s, e, xi⟩ ⟨fs, fa, fh, fb⟩ = (inF ⟨xq, s, e, xi⟩ ⟨fs, fa, fh, fb⟩, 0) from if_pos ⟨unhide HOK, unhide HX⟩)
  have h5 : fh = true ∨ (fh = false ∧ fb.toList = []) := by
    cases fh with
    | true => exact .inl rfl
    | false =>
      have hz : fb.size = 0 := Classical.byContradiction fun hz => h4 ⟨rfl, hz⟩
      exact .inr ⟨rfl, (txt_nil fb).2 hz⟩
  clear h1 h2 h3 h3x h4 HX HOK KI
  rcases h5 with rfl | ⟨rfl, h5⟩
  all_goals (
    go_wp2_with fail
    refine (unhide KO2 w2 ((unhide HP).below (unhide BB))).mono ?_
    rintro e1 w3 ⟨r3, rfl, v3, _, _, b3⟩
    have M2 := hide ((b3.block _ (Array.getElem?_eq_some_iff.1 (unhide M2)).1).trans (unhide M2))
    have BB := hide (bl_st b3 (unhide BB))
    have EZ : Hid (w.heap.size + 1 + 1 + 1 ≤ w3.heap.size) := hide (by have := b3.size; have := unhide EZ; omega)
    have V3 := hide v3
    clear b3 v3 c0 c1 c2 c3 d0 d1 d2 d3 KO2
    go_wp2_with fail
    refine (unhide KO3 _ w3 (unhide V3)).mono ?_
    rintro e1 w5 ⟨r5, rfl, o5, b5⟩
    have M2 := hide ((b5.block _ (Array.getElem?_eq_some_iff.1 (unhide M2)).1).trans (unhide M2))
    have BB := hide (bl_st b5 (unhide BB))
    generalize inF ⟨xq, s, e, xi⟩ _ = y at *
    have O5 := hide (o5.wide (show w.heap.size + 1 + 1 + 1 ≤ _ by have := unhide EZ; omega) (Nat.le_refl _))
    obtain ⟨X1, X2, X3, X4, hre⟩ := o5.pe.slices
    subst hre
    clear b5 o5 KO3
    go_wp2_with (with_reducible change wpList _ _ _ ({ dst := none, op := Op.store 33 _ _, type := _, pos := _, after := _, guard := _ } :: _) _ _; refine wpList_store_row rfl 33 _ _ rfl (w.heap.size + 1 + 1) #[.slice X1 y.q.length X2, .int .i64 y.s, .int .i64 y.e, .slice X3 y.i.length X4] rfl rfl 33 #[.slice none 0 0, .int .i64 0, .int .i64 0, .slice none 0 0] (unhide M2) (by kernel_rfl) rfl (by kernel_rfl) ?_)
    refine bodyPost_ret (v := .tuple #[peA (.slice X1 y.q.length X2) y.s y.e (.slice X3 y.i.length X4), .int .i64 0]) ?_ rfl ?_
    · exact results_tmp_row rfl _ _ (w.heap.size + 1 + 1) 33 _ (0, 0) _ _ rfl rfl (get_setRow (unhide M2)) Try.underlying33 rfl (by kernel_rfl)
    · rw [unhide HR]
      exact ⟨_, rfl, ((unhide O5).lone (lone_setRow _ _ _) (by omega)).wide (by omega) (by rw [size_setRow]; exact Nat.le_refl _), below_setRow (unhide BB) (by omega)⟩)
end Go.Proofs.Ythonnlifgdnacaa
