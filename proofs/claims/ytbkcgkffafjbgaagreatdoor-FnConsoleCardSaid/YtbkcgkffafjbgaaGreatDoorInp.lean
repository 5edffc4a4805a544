/- PeerIn of the program. -/
import Derived.Test.YtbkcgkffafjbgaaGreatDoorGe
namespace Go.Proofs.YtbkcgkffafjbgaaGreatDoor
open Go.RowKit
set_option maxHeartbeats 4000000
set_option maxRecDepth 20000
theorem ownG.tail {lo hi : Nat} {w : World} {g off off' cap : Nat} {t : ByteArray} {ts : List ByteArray} (h : ownG lo hi w (.slice (some ⟨g, off, none⟩) (t :: ts).length cap) (t :: ts)) (ho : off' = off ∧ (t :: ts).length = 1 ∨ off' = off + 1) : ownG lo hi w (.slice (some ⟨g, off', none⟩) ts.length (cap - 1)) ts := by
  obtain ⟨e, _⟩ | ⟨g', o', c', cs, e, hg, hh, hc, hcp, hi⟩ := h
  · cases e
  · have e1 := (Value.slice.inj e)
    have e2 : (⟨g, off, none⟩ : Addr) = ⟨g', o', none⟩ := Option.some.inj e1.1
    have e3 : g = g' := congrArg Addr.block e2
    have e4 : off = o' := congrArg Addr.off e2
    have e5 : cap = c' := e1.2.2
    subst e3 e4 e5
    refine .inr ⟨g, off', _, cs, rfl, hg, hh, hc, by simp at hcp; omega, fun j hj => ?_⟩
    rcases ho with ⟨_, h⟩ | h
    · have : ts.length + 1 = 1 := h
      omega
    · have := hi (j + 1) (by simp; omega)
      rw [h, show off + 1 + j = off + (j + 1) by omega, this]
      simp
theorem peO_expect {lo hi : Nat} {W : World} {q i : Value} {s e : Int} {xq xi : List ByteArray} (h : peO lo hi W (peA q s e i) ⟨xq, s, e, xi⟩) (e' : Int) : peO lo hi W (peA q s e' i) ⟨xq, s, e', xi⟩ := by
  obtain ⟨q', i', e0, h1, h2, h3⟩ := h
  have x1 : q = q' := (List.cons.inj (Array.mk.inj (Value.agg.inj e0))).1
  have x2 : i = i' := (List.cons.inj (List.cons.inj (List.cons.inj (List.cons.inj (Array.mk.inj (Value.agg.inj e0))).2).2).2).1
  subst x1 x2
  exact ⟨q, i, rfl, h1, h2, h3⟩
theorem pin18 (v : Value) (p : Pe) (f : Fr) (w : World) (hv : peV w v p) (hf : peFew p) (hb : f.b.size ≤ maxLen) :
    Calls Tryz.prog 97 #[v, frV f] w fun e w' => outO w (inR p f).1 (inR p f).2 e w' := by
  have K2 := hide (fun W (hok : peOK p = true) (h : peV W v p) => own53 v p W h hf (fun x hx => by have := (ok_few hok).2.2.1 x hx; omega) (fun x hx => by have := (ok_few hok).2.2.2.1 x hx; omega))
  have KR := hide (fun W => right52 f W hb)
  have KA := hide (fun u W (h : peV W u p) => awaits54 u p f W h hf)
  obtain ⟨q, i, rfl, hq, hi⟩ := hv
  have HP := hide (show peV w (peA q p.s p.e i) p from ⟨q, i, rfl, hq, hi⟩)
  have HF := hide hf
  obtain ⟨xq, s, e, xi⟩ := p
  obtain ⟨fs, fa, fh, fb⟩ := f
  dsimp only at *
  obtain ⟨A, ca, rfl⟩ := hq.slice
  obtain ⟨A2, cb, rfl⟩ := hi.slice
  show Calls Tryz.prog 97 #[peA (.slice A xq.length ca) s e (.slice A2 xi.length cb), frA fs fa fh fb] w _
  have B1 : Below w.heap.size w (((w.alloc (.cells #[.slice A xq.length ca, .int .i64 s, .int .i64 e, .slice A2 xi.length cb] 53)).alloc (.cells #[.int .i64 fs, .int .i64 fa, .bool fh, .string fb] 75)).alloc (.cells #[.slice none 0 0, .int .i64 0, .int .i64 0, .slice none 0 0] 53)) := bl_al (bl_al (bl_al (Below.refl _ _)))
  have n2 : (((w.alloc (.cells #[.slice A xq.length ca, .int .i64 s, .int .i64 e, .slice A2 xi.length cb] 53)).alloc (.cells #[.int .i64 fs, .int .i64 fa, .bool fh, .string fb] 75)).alloc (.cells #[.slice none 0 0, .int .i64 0, .int .i64 0, .slice none 0 0] 53)).heap[w.heap.size + 1 + 1]? = some (.cells #[.slice none 0 0, .int .i64 0, .int .i64 0, .slice none 0 0] 53 (0, 0)) := heap_at _ _ _ (by simp)
  have n1 : (((w.alloc (.cells #[.slice A xq.length ca, .int .i64 s, .int .i64 e, .slice A2 xi.length cb] 53)).alloc (.cells #[.int .i64 fs, .int .i64 fa, .bool fh, .string fb] 75)).alloc (.cells #[.slice none 0 0, .int .i64 0, .int .i64 0, .slice none 0 0] 53)).heap[w.heap.size + 1]? = some (.cells #[.int .i64 fs, .int .i64 fa, .bool fh, .string fb] 75 (0, 0)) := by
    rw [Below.heap_alloc _ _ _ (by simp)]
    exact heap_at _ _ _ (by simp)
  have n0 : (((w.alloc (.cells #[.slice A xq.length ca, .int .i64 s, .int .i64 e, .slice A2 xi.length cb] 53)).alloc (.cells #[.int .i64 fs, .int .i64 fa, .bool fh, .string fb] 75)).alloc (.cells #[.slice none 0 0, .int .i64 0, .int .i64 0, .slice none 0 0] 53)).heap[w.heap.size]? = some (.cells #[.slice A xq.length ca, .int .i64 s, .int .i64 e, .slice A2 xi.length cb] 53 (0, 0)) := by
    rw [Below.heap_alloc _ _ _ (by simp; omega), Below.heap_alloc _ _ _ (by simp)]
    exact heap_at _ _ _ rfl
  have EZ : Hid ((((w.alloc (.cells #[.slice A xq.length ca, .int .i64 s, .int .i64 e, .slice A2 xi.length cb] 53)).alloc (.cells #[.int .i64 fs, .int .i64 fa, .bool fh, .string fb] 75)).alloc (.cells #[.slice none 0 0, .int .i64 0, .int .i64 0, .slice none 0 0] 53)).heap.size = w.heap.size + 1 + 1 + 1) := hide (by simp)
  have M0 := hide n0
  have MF := hide n1
  have M2 := hide n2
  have BB := hide B1
  clear n0 n1 n2 B1
  have K1 := hide (fun W (h : Below w.heap.size w W) => ok16 _ _ W ((unhide HP).below h) hf)
  clear hq hi hf hb
  go_enter Tryz.func97, Tryz.ntmps97
  go_wp2_with fail
  generalize ((w.alloc (.cells #[.slice A xq.length ca, .int .i64 s, .int .i64 e, .slice A2 xi.length cb] 53)).alloc (.cells #[.int .i64 fs, .int .i64 fa, .bool fh, .string fb] 75)).alloc (.cells #[.slice none 0 0, .int .i64 0, .int .i64 0, .slice none 0 0] 53) = w1 at *
  have EZ : Hid (w.heap.size + 1 + 1 + 1 ≤ w1.heap.size) := hide (Nat.le_of_eq (unhide EZ).symm)
  refine (unhide K1 w1 (unhide BB)).mono ?_
  rintro e1 w2 ⟨rfl, b2⟩
  have M0 := hide ((b2.block _ (Array.getElem?_eq_some_iff.1 (unhide M0)).1).trans (unhide M0))
  have MF := hide ((b2.block _ (Array.getElem?_eq_some_iff.1 (unhide MF)).1).trans (unhide MF))
  have M2 := hide ((b2.block _ (Array.getElem?_eq_some_iff.1 (unhide M2)).1).trans (unhide M2))
  have BB := hide (bl_st b2 (unhide BB))
  have EZ : Hid (w.heap.size + 1 + 1 + 1 ≤ w2.heap.size) := hide (by have := b2.size; have := unhide EZ; omega)
  obtain ⟨_, c0, c1, c2, c3⟩ := pc_row (unhide M0)
  obtain ⟨_, d0, d1, d2, d3⟩ := fc_row (unhide MF)
  clear b2 K1
  by_cases hok : peOK ⟨xq, s, e, xi⟩ = true
  case neg =>
    have hok2 : peOK ⟨xq, s, e, xi⟩ = false := by simpa using hok
    rw [hok2]
    have HR := hide (show inR ⟨xq, s, e, xi⟩ ⟨fs, fa, fh, fb⟩ = (pe0, 1) from if_neg (fun h => hok h.1))
    go_wp2_with (with_reducible change wpList _ _ _ ({ dst := none, op := Op.store 53 _ _, type := _, pos := _, after := _, guard := _ } :: _) _ _; refine wpList_store_row rfl 53 _ _ rfl (w.heap.size + 1 + 1) #[.slice none 0 0, .int .i64 0, .int .i64 0, .slice none 0 0] rfl rfl 53 #[.slice none 0 0, .int .i64 0, .int .i64 0, .slice none 0 0] (unhide M2) (by kernel_rfl) rfl (by kernel_rfl) ?_)
    refine bodyPost_ret (v := .tuple #[noP, .int .i64 1]) ?_ rfl ?_
    · exact results_tmp_row rfl _ _ (w.heap.size + 1 + 1) 53 _ (0, 0) _ _ rfl rfl (get_setRow (unhide M2)) Tryz.underlying53 rfl (by kernel_rfl)
    · rw [unhide HR]
      exact ⟨_, rfl, own_noP _ _ _, below_setRow (unhide BB) (by omega)⟩
  have KO2 := hide (fun W h => unhide K2 W hok h)
  have HOK := hide hok
  have LQ := hide (ok_few hok).1
  have LI := hide (ok_few hok).2.1
  have SB := hide (ok_few hok).2.2.2.2
  rw [hok]
  clear hok K2
  go_wp2_with fail
  refine (unhide KR w2).mono ?_
  rintro e1 w3 ⟨rfl, b3⟩
  have M0 := hide ((b3.block _ (Array.getElem?_eq_some_iff.1 (unhide M0)).1).trans (unhide M0))
  have MF := hide ((b3.block _ (Array.getElem?_eq_some_iff.1 (unhide MF)).1).trans (unhide MF))
  have M2 := hide ((b3.block _ (Array.getElem?_eq_some_iff.1 (unhide M2)).1).trans (unhide M2))
  have BB := hide (bl_st b3 (unhide BB))
  have EZ : Hid (w.heap.size + 1 + 1 + 1 ≤ w3.heap.size) := hide (by have := b3.size; have := unhide EZ; omega)
  clear b3 KR c0 c1 c2 c3 d0 d1 d2 d3
  obtain ⟨_, c0, c1, c2, c3⟩ := pc_row (unhide M0)
  obtain ⟨_, d0, d1, d2, d3⟩ := fc_row (unhide MF)
  by_cases hfr : frB ⟨fs, fa, fh, fb⟩ = true
  case neg =>
    have hfr2 : frB ⟨fs, fa, fh, fb⟩ = false := by simpa using hfr
    rw [hfr2]
    have HR := hide (show inR ⟨xq, s, e, xi⟩ ⟨fs, fa, fh, fb⟩ = (pe0, 1) from if_neg (fun h => hfr h.2))
    go_wp2_with (with_reducible change wpList _ _ _ ({ dst := none, op := Op.store 53 _ _, type := _, pos := _, after := _, guard := _ } :: _) _ _; refine wpList_store_row rfl 53 _ _ rfl (w.heap.size + 1 + 1) #[.slice none 0 0, .int .i64 0, .int .i64 0, .slice none 0 0] rfl rfl 53 #[.slice none 0 0, .int .i64 0, .int .i64 0, .slice none 0 0] (unhide M2) (by kernel_rfl) rfl (by kernel_rfl) ?_)
    refine bodyPost_ret (v := .tuple #[noP, .int .i64 1]) ?_ rfl ?_
    · exact results_tmp_row rfl _ _ (w.heap.size + 1 + 1) 53 _ (0, 0) _ _ rfl rfl (get_setRow (unhide M2)) Tryz.underlying53 rfl (by kernel_rfl)
    · rw [unhide HR]
      exact ⟨_, rfl, own_noP _ _ _, below_setRow (unhide BB) (by omega)⟩
  have HR0 := hide (show inR ⟨xq, s, e, xi⟩ ⟨fs, fa, fh, fb⟩ = (inF ⟨xq, s, e, xi⟩ ⟨fs, fa, fh, fb⟩, 0) from if_pos ⟨unhide HOK, hfr⟩)
  have F40 : Hid (fb.size ≤ 40) := hide (by
    unfold frB at hfr
    simp only [Bool.and_eq_true] at hfr
    exact of_decide_eq_true hfr.1.2)
  rw [hfr]
  clear hfr
  go_wp2_with fail
  refine (unhide KO2 w3 ((unhide HP).below (unhide BB))).mono ?_
  rintro e1 w4 ⟨r4, rfl, ⟨ga, gb, rfl, g1, g2, g3, ra, rb⟩, b4⟩
  dsimp only at ra rb
  have ez := unhide EZ
  have M0 := hide ((b4.block _ (Array.getElem?_eq_some_iff.1 (unhide M0)).1).trans (unhide M0))
  have MF := hide ((b4.block _ (Array.getElem?_eq_some_iff.1 (unhide MF)).1).trans (unhide MF))
  have M2 := hide ((b4.block _ (Array.getElem?_eq_some_iff.1 (unhide M2)).1).trans (unhide M2))
  have BB := hide (bl_st b4 (unhide BB))
  have EZ : Hid (w.heap.size + 1 + 1 + 1 ≤ w4.heap.size) := hide (by have := b4.size; have := unhide EZ; omega)
  have y3 := b4.size
  have LG0 : w.heap.size + 1 + 1 + 1 ≤ ga ∧ ga < gb ∧ gb < w4.heap.size := ⟨by have := g1; omega, g2, g3⟩
  have L5 := lone_setRow w.heap.size w4 #[.slice (some ⟨ga, 0, none⟩) xq.length xq.length, .int .i64 s, .int .i64 e, .slice (some ⟨gb, 0, none⟩) xi.length xi.length]
  have ORa := hide (show (w4.setRow w.heap.size #[.slice (some ⟨ga, 0, none⟩) xq.length xq.length, .int .i64 s, .int .i64 e, .slice (some ⟨gb, 0, none⟩) xi.length xi.length]).heap[ga]? = some (strO xq []) from (L5.block _ (by omega) (by omega)).trans ra)
  have ORb := hide (show (w4.setRow w.heap.size #[.slice (some ⟨ga, 0, none⟩) xq.length xq.length, .int .i64 s, .int .i64 e, .slice (some ⟨gb, 0, none⟩) xi.length xi.length]).heap[gb]? = some (strO xi []) from (L5.block _ (by omega) (by omega)).trans rb)
  have M2 := hide ((L5.block _ (Array.getElem?_eq_some_iff.1 (unhide M2)).1 (by omega)).trans (unhide M2))
  have MF := hide ((L5.block _ (Array.getElem?_eq_some_iff.1 (unhide MF)).1 (by omega)).trans (unhide MF))
  have N0 := M0
  have M0 : Hid ((w4.setRow w.heap.size #[.slice (some ⟨ga, 0, none⟩) xq.length xq.length, .int .i64 s, .int .i64 e, .slice (some ⟨gb, 0, none⟩) xi.length xi.length]).heap[w.heap.size]? = some (.cells #[.slice (some ⟨ga, 0, none⟩) xq.length xq.length, .int .i64 s, .int .i64 e, .slice (some ⟨gb, 0, none⟩) xi.length xi.length] 53 (0, 0))) := hide (get_setRow (unhide N0))
  have BB := hide (below_setRow (cs := #[.slice (some ⟨ga, 0, none⟩) xq.length xq.length, .int .i64 s, .int .i64 e, .slice (some ⟨gb, 0, none⟩) xi.length xi.length]) (unhide BB) (Nat.le_refl w.heap.size))
  have Z5 := hide (size_setRow w4 w.heap.size #[.slice (some ⟨ga, 0, none⟩) xq.length xq.length, .int .i64 s, .int .i64 e, .slice (some ⟨gb, 0, none⟩) xi.length xi.length])
  have LGx := hide LG0
  obtain ⟨_, x0, x1, x2, x3⟩ := pc_row (unhide M0)
  obtain ⟨_, y0, y1, y2, y3⟩ := fc_row (unhide MF)
  clear c0 c1 c2 c3 d0 d1 d2 d3 b4 ra rb g1 g2 g3 L5 KO2 ez LG0
  go_wp2_with (with_reducible change wpList _ _ _ ({ dst := none, op := Op.store 53 _ _, type := _, pos := _, after := _, guard := _ } :: _) _ _; refine wpList_store_row rfl 53 _ _ rfl w.heap.size #[.slice (some ⟨ga, 0, none⟩) xq.length xq.length, .int .i64 s, .int .i64 e, .slice (some ⟨gb, 0, none⟩) xi.length xi.length] rfl rfl 53 #[.slice A xq.length ca, .int .i64 s, .int .i64 e, .slice A2 xi.length cb] (unhide N0) (by kernel_rfl) rfl (by kernel_rfl) ?_; generalize w4.setRow w.heap.size #[.slice (some ⟨ga, 0, none⟩) xq.length xq.length, .int .i64 s, .int .i64 e, .slice (some ⟨gb, 0, none⟩) xi.length xi.length] = w5 at *)
  have LG : Hid (w.heap.size + 1 + 1 + 1 ≤ ga ∧ ga < gb ∧ gb < w5.heap.size) := hide (by have := unhide LGx; have := unhide Z5; omega)
  have OP : Hid (peO (w.heap.size + 1 + 1 + 1) w5.heap.size w5 (peA (.slice (some ⟨ga, 0, none⟩) xq.length xq.length) s e (.slice (some ⟨gb, 0, none⟩) xi.length xi.length)) ⟨xq, s, e, xi⟩) := by
    have lg := unhide LG
    refine hide ⟨_, _, rfl, ownG.of_ownS (.inr ⟨ga, _, [], rfl, show w.heap.size + 1 + 1 + 1 ≤ ga by omega, show ga < w5.heap.size by omega, unhide ORa, Nat.le_refl _⟩), ownG.of_ownS (.inr ⟨gb, _, [], rfl, show w.heap.size + 1 + 1 + 1 ≤ gb by omega, show gb < w5.heap.size by omega, unhide ORb, Nat.le_refl _⟩), ?_⟩
    intro k a1 a2
    have z1 : k = ga := (Option.some.inj a1).symm
    have z2 : k = gb := (Option.some.inj a2).symm
    omega
  refine (unhide KA _ w5 (unhide OP).pe).mono ?_
  rintro e1 w6 ⟨rfl, b6⟩
  have M0 := hide ((b6.block _ (Array.getElem?_eq_some_iff.1 (unhide M0)).1).trans (unhide M0))
  have MF := hide ((b6.block _ (Array.getElem?_eq_some_iff.1 (unhide MF)).1).trans (unhide MF))
  have M2 := hide ((b6.block _ (Array.getElem?_eq_some_iff.1 (unhide M2)).1).trans (unhide M2))
  have BB := hide (bl_st b6 (unhide BB))
  have OP := hide (((unhide OP).below b6).wide (Nat.le_refl _) b6.size)
  have LG : Hid (w.heap.size + 1 + 1 + 1 ≤ ga ∧ ga < gb ∧ gb < w6.heap.size) := hide (by have := unhide LG; have := b6.size; omega)
  have ORa := hide ((b6.block _ (Array.getElem?_eq_some_iff.1 (unhide ORa)).1).trans (unhide ORa))
  have ORb := hide ((b6.block _ (Array.getElem?_eq_some_iff.1 (unhide ORb)).1).trans (unhide ORb))
  clear b6 KA x0 x1 x2 x3 y0 y1 y2 y3 N0
  obtain ⟨sb0, sb1, sb2, sb3⟩ := unhide SB
  by_cases hW : awB ⟨xq, s, e, xi⟩ ⟨fs, fa, fh, fb⟩ = true
  · have HT := hide (takeF_t hW)
    have w1' : fh = true := by
      unfold awB at hW
      simp only [Bool.and_eq_true] at hW
      exact hW.1.1.1
    subst w1'
    dsimp only at HT
    rw [hW]
    clear hW OP
    have KC := hide (fun W => clone55 fb W (by have := unhide F40; omega))
    go_wp2
    refine wp_region_late (S := fun W' => W'.heap[w.heap.size]? = some (.cells #[.slice (some ⟨ga, 0, none⟩) xq.length xq.length, .int .i64 s, .int .i64 e, .slice (some ⟨gb, 0, none⟩) xi.length xi.length] 53 (0, 0)) ∧ W'.heap[w.heap.size + 1]? = some (.cells #[.int .i64 fs, .int .i64 fa, .bool true, .string fb] 75 (0, 0))) (late := [8]) (by kernel_rfl) ?_
    have hS0 : Below w6.heap.size w6 { w6 with drawn := w6.drawn + 1 } := below_drewN (Below.refl _ _) 1
    have r0 := unhide M0
    have rF := unhide MF
    refine wpAnyL_take (i := 0) (oi := { dst := some 21, op := Op.fieldAddr 53 (Operand.tmp 2) 3, type := 0, pos := "l15_talk.go:102", after := #[], guard := none }) (v := ?_) rfl (by kernel_rfl) (by kernel_rfl) (by kernel_rfl) (by kernel_rfl) (fun _ _ _ h => h) (Or.inl ⟨by rfl, ?_⟩) ⟨r0, rF⟩ ?_
    rotate_left
    · intro W hSw
      obtain ⟨_, c0, c1, c2, c3⟩ := pc_row hSw.1
      obtain ⟨_, d0, d1, d2, d3⟩ := fc_row hSw.2
      go_simp
      try with_reducible rfl
    simp only [Act.put, List.setIfInBounds_toArray, List.set_cons_zero, List.set_cons_succ]
    refine wpAnyL_take (i := 1) (oi := { dst := some 22, op := Op.load 23 (Operand.tmp 21), type := 23, pos := "l15_talk.go:102", after := #[{ on := 0, ground := Ground.data }], guard := none }) (v := ?_) rfl (by kernel_rfl) (by kernel_rfl) (by kernel_rfl) (by kernel_rfl) (fun _ _ _ h => h) (Or.inl ⟨by rfl, ?_⟩) ⟨r0, rF⟩ ?_
    rotate_left
    · intro W hSw
      obtain ⟨_, c0, c1, c2, c3⟩ := pc_row hSw.1
      obtain ⟨_, d0, d1, d2, d3⟩ := fc_row hSw.2
      go_simp
      try with_reducible rfl
    simp only [Act.put, List.setIfInBounds_toArray, List.set_cons_zero, List.set_cons_succ]
    refine wpAnyL_take (i := 2) (oi := { dst := some 23, op := Op.fieldAddr 75 (Operand.tmp 3) 3, type := 0, pos := "l15_talk.go:102", after := #[], guard := none }) (v := ?_) rfl (by kernel_rfl) (by kernel_rfl) (by kernel_rfl) (by kernel_rfl) (fun _ _ _ h => h) (Or.inl ⟨by rfl, ?_⟩) ⟨r0, rF⟩ ?_
    rotate_left
    · intro W hSw
      obtain ⟨_, c0, c1, c2, c3⟩ := pc_row hSw.1
      obtain ⟨_, d0, d1, d2, d3⟩ := fc_row hSw.2
      go_simp
      try with_reducible rfl
    simp only [Act.put, List.setIfInBounds_toArray, List.set_cons_zero, List.set_cons_succ]
    refine wpAnyL_take (i := 3) (oi := { dst := some 24, op := Op.load 9 (Operand.tmp 23), type := 9, pos := "l15_talk.go:102", after := #[{ on := 2, ground := Ground.data }], guard := none }) (v := ?_) rfl (by kernel_rfl) (by kernel_rfl) (by kernel_rfl) (by kernel_rfl) (fun _ _ _ h => h) (Or.inl ⟨by rfl, ?_⟩) ⟨r0, rF⟩ ?_
    rotate_left
    · intro W hSw
      obtain ⟨_, c0, c1, c2, c3⟩ := pc_row hSw.1
      obtain ⟨_, d0, d1, d2, d3⟩ := fc_row hSw.2
      go_simp
      try with_reducible rfl
    simp only [Act.put, List.setIfInBounds_toArray, List.set_cons_zero, List.set_cons_succ]
    refine wpAnyL_one (i := 4) (by kernel_rfl) ?_
    refine wpOp_step (o := { dst := some 25, op := Op.call { callee := Callee.value (Operand.func 64), args := #[Operand.tmp 24], argTypes := #[9] }, type := 9, pos := "l15_talk.go:102", after := #[{ on := 3, ground := Ground.data }], guard := none }) rfl fun K' hK => step_enterW (by rfl) 64 #[.string fb] (by go_simp) ((unhide KC _).mono ?_)
    rintro e w7 ⟨rfl, b7⟩
    have s7 := bl_st b7 hS0
    have SF7 : _ ∧ _ := ⟨(s7.block _ (Array.getElem?_eq_some_iff.1 r0).1).trans r0, (s7.block _ (Array.getElem?_eq_some_iff.1 rF).1).trans rF⟩
    clear b7
    refine ⟨_, rfl, hK _ _ ⟨(fun _ => SF7), ?_⟩⟩
    simp only [Act.put, List.setIfInBounds_toArray, List.set_cons_zero, List.set_cons_succ]
    refine wpAnyL_one (i := 5) (by kernel_rfl) ?_
    refine wpOp_step (o := { dst := some 26, op := Op.buildSlice 23 1 #[(0, Operand.tmp 25)], type := 23, pos := "l15_talk.go:102", after := #[{ on := 4, ground := Ground.data }], guard := none }) rfl fun K' hK => step_valueW (by rfl) (.slice (some ⟨w7.heap.size, 0, none⟩) 1 1) (w7.alloc (.cells #[.string fb] 9)) (by go_simp) ?_
    have bA := bl_al (o := .cells #[.string fb] 9) s7
    have SF5 := (show _ ∧ _ from ⟨(bA.block _ (Array.getElem?_eq_some_iff.1 r0).1).trans r0, (bA.block _ (Array.getElem?_eq_some_iff.1 rF).1).trans rF⟩)
    refine hK _ _ ⟨(fun _ => SF5), ?_⟩
    simp only [Act.put, List.setIfInBounds_toArray, List.set_cons_zero, List.set_cons_succ]
    have szA := s7.size
    have lg := unhide LG
    have hrow : w7.ownsRow w.heap.size 9 1 (.slice (some ⟨gb, 0, none⟩) xi.length xi.length) xi.length (xi.map Value.string) := by
      have h := unhide ORb
      refine ⟨by simp, .inr ⟨gb, _, _, rfl, by omega, (s7.block _ (Array.getElem?_eq_some_iff.1 h).1).trans h, Nat.le_refl _, by have := unhide LI; unfold maxLen; omega, by simp, ?_⟩⟩
      simp only [Nat.mul_one, List.append_nil]
      exact List.take_of_length_le (by simp)
    obtain ⟨g2, k2, w8, hrun, pu⟩ := run_push w7 23 w.heap.size xi.length gb xi.length xi hrow w7.heap.size rfl fb (by have := unhide LI; omega) (by omega)
    have LB : Below w.heap.size w w8 := pu.be _ _ (bl_st s7 (unhide BB)) (Nat.le_refl _) (bl_st s7 (unhide BB)).size
    have SF : _ ∧ _ := ⟨(pu.kept _ (by omega) (by omega)).trans ((s7.block _ (by omega)).trans (unhide M0)), (pu.kept _ (by omega) (by omega)).trans ((s7.block _ (by omega)).trans (unhide MF))⟩
    have N2 := (pu.kept _ (by omega) (by omega)).trans ((s7.block _ (by omega)).trans (unhide M2))
    have OA := (pu.kept ga (by omega) (by omega)).trans ((s7.block _ (by omega)).trans (unhide ORa))
    refine wpAnyL_one (i := 6) (by kernel_rfl) ?_
    refine wpOp_step (o := { dst := some 27, op := Op.call { callee := Callee.builtin Builtin.append, args := #[Operand.tmp 22, Operand.tmp 26], argTypes := #[23, 23] }, type := 23, pos := "l15_talk.go:102", after := #[{ on := 1, ground := Ground.data }, { on := 5, ground := Ground.data }, { on := 4, ground := Ground.chain }], guard := none }) rfl fun K' hK => step_appendW (by rfl) _ _ rfl _ _ _ _ rfl rfl hrun ?_
    refine hK _ _ ⟨(fun _ => SF), ?_⟩
    simp only [Act.put, List.setIfInBounds_toArray, List.set_cons_zero, List.set_cons_succ]
    have c3 : w8.cell? ⟨w.heap.size, 3, none⟩ = some (.slice (some ⟨gb, 0, none⟩) xi.length xi.length) := row_cell SF.1
    have z3 : w8.frozen? ⟨w.heap.size, 3, none⟩ = false := row_free SF.1
    refine wpAnyL_one (i := 7) (by kernel_rfl) ?_
    refine wpOp_step (o := { dst := some 28, op := Op.fieldAddr 53 (Operand.tmp 2) 3, type := 0, pos := "l15_talk.go:102", after := #[{ on := 0, ground := Ground.phase }, { on := 1, ground := Ground.phase }, { on := 2, ground := Ground.phase }, { on := 3, ground := Ground.phase }, { on := 4, ground := Ground.phase }, { on := 5, ground := Ground.phase }, { on := 6, ground := Ground.phase }], guard := none }) rfl fun K' hK => step_valueW (by rfl) (.pointer (some ⟨w.heap.size, 3, none⟩)) (w8) (by go_simp) ?_
    refine hK _ _ ⟨(fun _ => SF), ?_⟩
    simp only [Act.put, List.setIfInBounds_toArray, List.set_cons_zero, List.set_cons_succ]
    refine wpAnyL_one (i := 8) (by kernel_rfl) ?_
    refine wpOp_step (o := { dst := none, op := Op.store 23 (Operand.tmp 28) (Operand.tmp 27), type := 0, pos := "l15_talk.go:102", after := #[{ on := 7, ground := Ground.data }, { on := 6, ground := Ground.data }, { on := 6, ground := Ground.chain }, { on := 0, ground := Ground.phase }, { on := 1, ground := Ground.phase }, { on := 2, ground := Ground.phase }, { on := 3, ground := Ground.phase }, { on := 4, ground := Ground.phase }, { on := 5, ground := Ground.phase }, { on := 6, ground := Ground.phase }], guard := none }) rfl fun K' hK => step_skipW (by rfl) (w8.setCell ⟨w.heap.size, 3, none⟩ (.slice (some ⟨g2, 0, none⟩) (xi.length + 1) k2)) (by go_simp) ?_
    refine hK _ _ ⟨(fun h => by cases h), ?_⟩
    try simp only [Act.put]
    refine wpAnyL_done (by kernel_rfl) ?_ _
    have m0 := row_set (i := 3) (v := .slice (some ⟨g2, 0, none⟩) (xi.length + 1) k2) SF.1
    simp only [List.setIfInBounds_toArray, List.set_cons_zero, List.set_cons_succ] at m0
    have L9 := lone_setCell w.heap.size 3 w8 (.slice (some ⟨g2, 0, none⟩) (xi.length + 1) k2)
    have M0' := hide m0
    have MF' := hide ((L9.block _ (Array.getElem?_eq_some_iff.1 SF.2).1 (by omega)).trans SF.2)
    have M2' := hide ((L9.block _ (Array.getElem?_eq_some_iff.1 N2).1 (by omega)).trans N2)
    have BB' := hide (L9.below LB (Nat.le_refl _) LB.size)
    have OP : Hid (peO (w.heap.size + 1 + 1 + 1) (w8.setCell ⟨w.heap.size, 3, none⟩ (.slice (some ⟨g2, 0, none⟩) (xi.length + 1) k2)).heap.size (w8.setCell ⟨w.heap.size, 3, none⟩ (.slice (some ⟨g2, 0, none⟩) (xi.length + 1) k2)) (peA (.slice (some ⟨ga, 0, none⟩) xq.length xq.length) s e (.slice (some ⟨g2, 0, none⟩) (xi.length + 1) k2)) ⟨xq, s, e, xi ++ [fb]⟩) := by
      have hg2 : w.heap.size + 1 + 1 + 1 ≤ g2 := by have := pu.lo; omega
      have hi2 := pu.hi
      have hs := pu.size
      refine hide ⟨_, _, rfl, ?_, ?_, ?_⟩
      · refine ((ownG.of_ownS (.inr ⟨ga, _, [], rfl, show w.heap.size + 1 + 1 + 1 ≤ ga by omega, show ga < w8.heap.size by omega, OA, Nat.le_refl _⟩)).lone L9 (by omega)).wide (Nat.le_refl _) (by rw [size_set]; exact Nat.le_refl _)
      · have h := pu.own (by simp)
        exact ((ownG.lift h (show ∀ k, _ = some k → w.heap.size + 1 + 1 + 1 ≤ k from fun k e => by have : k = g2 := (Option.some.inj e).symm; omega)).lone L9 (by omega)).wide (Nat.le_refl _) (by rw [size_set]; exact Nat.le_refl _)
      · intro k a1 a2
        have x1 : k = ga := (Option.some.inj a1).symm
        have x2 : k = g2 := (Option.some.inj a2).symm
        have := pu.lo
        omega
    clear m0 SF SF7 SF5 N2 OA LB pu hrun hrow c3 z3 s7 bA hS0 r0 rF szA lg M0 MF M2 BB ORa ORb L9 KC
    have M0 := M0'
    have MF := MF'
    have M2 := M2'
    have BB := BB'
    clear M0' MF' M2' BB'
    generalize w8.setCell ⟨w.heap.size, 3, none⟩ (.slice (some ⟨g2, 0, none⟩) (xi.length + 1) k2) = wa at *
    have z2 : wa.frozen? ⟨w.heap.size, 2, none⟩ = false := row_free (unhide M0)
    obtain ⟨_, c0, c1, c2, c3⟩ := pc_row (unhide M0)
    obtain ⟨_, d0, d1, d2, d3⟩ := fc_row (unhide MF)
    by_cases hA : fa = s + 1
    · subst hA
      cases xq with
      | nil =>
        have HR := hide (show inR ⟨[], s, e, xi⟩ ⟨fs, s + 1, true, fb⟩ = (⟨[], s, (e + 1), xi ++ [fb]⟩, 0) by rw [unhide HR0]; unfold inF; rw [unhide HT]; exact congrArg (fun z => (z, (0 : Int))) (if_neg (by simp)))
        simp only [List.length_nil] at *
        go_wp2_with (first
          | (with_reducible change wpList _ _ _ _ _ (wa.setCell ⟨w.heap.size, 2, none⟩ (.int .i64 (e + 1)))
             have m0 := row_set (i := 2) (v := .int .i64 (e + 1)) (unhide M0)
             simp only [List.setIfInBounds_toArray, List.set_cons_zero, List.set_cons_succ] at m0
             have L9 := lone_setCell w.heap.size 2 wa (.int .i64 (e + 1))
             have MF' := hide ((L9.block _ (Array.getElem?_eq_some_iff.1 (unhide MF)).1 (by omega)).trans (unhide MF))
             have M2' := hide ((L9.block _ (Array.getElem?_eq_some_iff.1 (unhide M2)).1 (by omega)).trans (unhide M2))
             have BB' := hide (L9.below (unhide BB) (Nat.le_refl _) (unhide BB).size)
             have OP' := hide (((unhide OP).lone L9 (by omega)).wide (Nat.le_refl _) (show _ ≤ (wa.setCell ⟨w.heap.size, 2, none⟩ (.int .i64 (e + 1))).heap.size by rw [size_set]; exact Nat.le_refl _))
             have M0' := hide m0
             clear m0 L9 M0 MF M2 BB OP c0 c1 c2 c3 d0 d1 d2 d3 z2
             have M0 := M0'
             have MF := MF'
             have M2 := M2'
             have BB := BB'
             have OP := peO_expect (unhide OP') (e + 1)
             have OP := hide OP
             clear M0' MF' M2' BB' OP'
             generalize wa.setCell ⟨w.heap.size, 2, none⟩ (.int .i64 (e + 1)) = w9 at *
             obtain ⟨_, c0, c1, c2, c3⟩ := pc_row (unhide M0)
             obtain ⟨_, d0, d1, d2, d3⟩ := fc_row (unhide MF)
             skip)
          | (with_reducible change wpList _ _ _ ({ dst := _, op := Op.load 53 _, type := _, pos := _, after := _, guard := _ } :: _) _ _; refine wpList_load_row rfl 53 _ rfl w.heap.size rfl 53 #[.slice (some ⟨ga, 0, none⟩) 0 0, .int .i64 s, .int .i64 (e + 1), .slice (some ⟨g2, 0, none⟩) (xi.length + 1) k2] (0, 0) _ (unhide M0) Tryz.underlying53 rfl (by kernel_rfl) ?_)
          | (with_reducible change wpList _ _ _ ({ dst := none, op := Op.store 53 _ _, type := _, pos := _, after := _, guard := _ } :: _) _ _; refine wpList_store_row rfl 53 _ _ rfl (w.heap.size + 1 + 1) #[.slice (some ⟨ga, 0, none⟩) 0 0, .int .i64 s, .int .i64 (e + 1), .slice (some ⟨g2, 0, none⟩) (xi.length + 1) k2] rfl rfl 53 #[.slice none 0 0, .int .i64 0, .int .i64 0, .slice none 0 0] (unhide M2) (by kernel_rfl) rfl (by kernel_rfl) ?_))
        refine bodyPost_ret (v := .tuple #[peA (.slice (some ⟨ga, 0, none⟩) 0 0) s (e + 1) (.slice (some ⟨g2, 0, none⟩) (xi.length + 1) k2), .int .i64 0]) ?_ rfl ?_
        · exact results_tmp_row rfl _ _ (w.heap.size + 1 + 1) 53 _ (0, 0) _ _ rfl rfl (get_setRow (unhide M2)) Tryz.underlying53 rfl (by kernel_rfl)
        · rw [unhide HR]
          exact ⟨_, rfl, ((unhide OP).lone (lone_setRow _ _ _) (by omega)).wide (by omega) (by rw [size_setRow]; exact Nat.le_refl _), below_setRow (unhide BB) (by omega)⟩
      | cons t ts =>
        have HR := hide (show inR ⟨t :: ts, s, e, xi⟩ ⟨fs, s + 1, true, fb⟩ = (⟨ts, s + 1, (e + 1), xi ++ [fb]⟩, 0) by rw [unhide HR0]; unfold inF; rw [unhide HT]; exact congrArg (fun z => (z, (0 : Int))) (if_pos ⟨rfl, by simp⟩))
        have p0 : (0 : Int) < ((t :: ts).length : Int) := by simp
        have p1 : ((t :: ts).length : Int) ≤ 1048576 := by have := unhide LQ; omega
        obtain ⟨oq', ho, hrun⟩ := cut_one ga 0 (t :: ts).length (t :: ts).length (by simp) (Nat.le_refl _) (by omega)
        have hl1 : (t :: ts).length - 1 = ts.length := by simp
        have hrun' : ∀ X : World, (Instr.slice 23 (.slice (some ⟨ga, 0, none⟩) (t :: ts).length (t :: ts).length) (some (.int .i64 1)) none none).run Tryz.prog X = .ok (.slice (some ⟨ga, oq', none⟩) ts.length ((t :: ts).length - 1)) X := fun X => (hrun X).trans (by rw [hl1])
        have TLf : Hid (∀ {W : World} {lo hi : Nat}, ownG lo hi W (.slice (some ⟨ga, 0, none⟩) (t :: ts).length (t :: ts).length) (t :: ts) → ownG lo hi W (.slice (some ⟨ga, oq', none⟩) ts.length ((t :: ts).length - 1)) ts) := hide fun h => h.tail ho
        clear ho hrun hl1
        generalize (t :: ts).length = n at *
        have n2 : ¬ ((n : Int) = 0) := by omega
        go_wp2_with (first
          | (with_reducible change wpList _ _ _ _ _ (wa.setCell ⟨w.heap.size, 2, none⟩ (.int .i64 (e + 1)))
             have m0 := row_set (i := 2) (v := .int .i64 (e + 1)) (unhide M0)
             simp only [List.setIfInBounds_toArray, List.set_cons_zero, List.set_cons_succ] at m0
             have L9 := lone_setCell w.heap.size 2 wa (.int .i64 (e + 1))
             have MF' := hide ((L9.block _ (Array.getElem?_eq_some_iff.1 (unhide MF)).1 (by omega)).trans (unhide MF))
             have M2' := hide ((L9.block _ (Array.getElem?_eq_some_iff.1 (unhide M2)).1 (by omega)).trans (unhide M2))
             have BB' := hide (L9.below (unhide BB) (Nat.le_refl _) (unhide BB).size)
             have OP' := hide (((unhide OP).lone L9 (by omega)).wide (Nat.le_refl _) (show _ ≤ (wa.setCell ⟨w.heap.size, 2, none⟩ (.int .i64 (e + 1))).heap.size by rw [size_set]; exact Nat.le_refl _))
             have M0' := hide m0
             clear m0 L9 M0 MF M2 BB OP c0 c1 c2 c3 d0 d1 d2 d3 z2
             have M0 := M0'
             have MF := MF'
             have M2 := M2'
             have BB := BB'
             have OP := peO_expect (unhide OP') (e + 1)
             have OP := hide OP
             clear M0' MF' M2' BB' OP'
             generalize wa.setCell ⟨w.heap.size, 2, none⟩ (.int .i64 (e + 1)) = w9 at *
             obtain ⟨_, c0, c1, c2, c3⟩ := pc_row (unhide M0)
             obtain ⟨_, d0, d1, d2, d3⟩ := fc_row (unhide MF)
             have z0 : w9.frozen? ⟨w.heap.size, 0, none⟩ = false := row_free (unhide M0)
             have z1 : w9.frozen? ⟨w.heap.size, 1, none⟩ = false := row_free (unhide M0)
             have LS := (lone_setCell w.heap.size 0 w9 (.slice (some ⟨ga, oq', none⟩) ts.length (n - 1))).trans (lone_setCell w.heap.size 1 _ (.int .i64 (s + 1)))
             have ms := row_set (i := 1) (v := .int .i64 (s + 1)) (row_set (i := 0) (v := .slice (some ⟨ga, oq', none⟩) ts.length (n - 1)) (unhide M0))
             simp only [List.setIfInBounds_toArray, List.set_cons_zero, List.set_cons_succ] at ms
             have MS := hide ms
             have MS2 := hide ((LS.block _ (Array.getElem?_eq_some_iff.1 (unhide M2)).1 (by omega)).trans (unhide M2))
             have BS := hide (LS.below (unhide BB) (Nat.le_refl _) (unhide BB).size)
             have OPS : Hid (peO (w.heap.size + 1 + 1 + 1) ((w9.setCell ⟨w.heap.size, 0, none⟩ (.slice (some ⟨ga, oq', none⟩) ts.length (n - 1))).setCell ⟨w.heap.size, 1, none⟩ (.int .i64 (s + 1))).heap.size ((w9.setCell ⟨w.heap.size, 0, none⟩ (.slice (some ⟨ga, oq', none⟩) ts.length (n - 1))).setCell ⟨w.heap.size, 1, none⟩ (.int .i64 (s + 1))) (peA (.slice (some ⟨ga, oq', none⟩) ts.length (n - 1)) (s + 1) (e + 1) (.slice (some ⟨g2, 0, none⟩) (xi.length + 1) k2)) ⟨ts, s + 1, (e + 1), xi ++ [fb]⟩) := hide (by
               obtain ⟨q', i', e', o1, o2, o3⟩ := unhide OP
               have x1 : .slice (some ⟨ga, 0, none⟩) n n = q' := (List.cons.inj (Array.mk.inj (Value.agg.inj e'))).1
               have x2 : .slice (some ⟨g2, 0, none⟩) (xi.length + 1) k2 = i' := (List.cons.inj (List.cons.inj (List.cons.inj (List.cons.inj (Array.mk.inj (Value.agg.inj e'))).2).2).2).1
               subst x1 x2
               refine ⟨_, _, rfl, (((unhide TLf o1).lone LS (by omega)).wide (Nat.le_refl _) (by rw [size_set, size_set]; exact Nat.le_refl _)), ((o2.lone LS (by omega)).wide (Nat.le_refl _) (by rw [size_set, size_set]; exact Nat.le_refl _)), fun k k1 k2 => o3 k k1 k2⟩)
             clear LS ms
             skip)
          | (with_reducible change wpList _ _ _ ({ dst := _, op := Op.load 53 _, type := _, pos := _, after := _, guard := _ } :: _) _ _; refine wpList_load_row rfl 53 _ rfl w.heap.size rfl 53 #[.slice (some ⟨ga, oq', none⟩) ts.length (n - 1), .int .i64 (s + 1), .int .i64 (e + 1), .slice (some ⟨g2, 0, none⟩) (xi.length + 1) k2] (0, 0) _ (unhide MS) Tryz.underlying53 rfl (by kernel_rfl) ?_)
          | (with_reducible change wpList _ _ _ ({ dst := none, op := Op.store 53 _ _, type := _, pos := _, after := _, guard := _ } :: _) _ _; refine wpList_store_row rfl 53 _ _ rfl (w.heap.size + 1 + 1) #[.slice (some ⟨ga, oq', none⟩) ts.length (n - 1), .int .i64 (s + 1), .int .i64 (e + 1), .slice (some ⟨g2, 0, none⟩) (xi.length + 1) k2] rfl rfl 53 #[.slice none 0 0, .int .i64 0, .int .i64 0, .slice none 0 0] (unhide MS2) (by kernel_rfl) rfl (by kernel_rfl) ?_))
        refine bodyPost_ret (v := .tuple #[peA (.slice (some ⟨ga, oq', none⟩) ts.length (n - 1)) (s + 1) (e + 1) (.slice (some ⟨g2, 0, none⟩) (xi.length + 1) k2), .int .i64 0]) ?_ rfl ?_
        · exact results_tmp_row rfl _ _ (w.heap.size + 1 + 1) 53 _ (0, 0) _ _ rfl rfl (get_setRow (unhide MS2)) Tryz.underlying53 rfl (by kernel_rfl)
        · rw [unhide HR]
          exact ⟨_, rfl, ((unhide OPS).lone (lone_setRow _ _ _) (by omega)).wide (by omega) (by rw [size_setRow]; exact Nat.le_refl _), below_setRow (unhide BS) (by omega)⟩
    · have HR := hide (show inR ⟨xq, s, e, xi⟩ ⟨fs, fa, true, fb⟩ = (⟨xq, s, (e + 1), xi ++ [fb]⟩, 0) by rw [unhide HR0]; unfold inF; rw [unhide HT]; exact congrArg (fun z => (z, (0 : Int))) (if_neg (fun h => hA h.1)))
      have hA' : (fa == s + 1) = false := by simpa using hA
      go_wp2_with (first
        | (with_reducible change wpList _ _ _ _ _ (wa.setCell ⟨w.heap.size, 2, none⟩ (.int .i64 (e + 1)))
           have m0 := row_set (i := 2) (v := .int .i64 (e + 1)) (unhide M0)
           simp only [List.setIfInBounds_toArray, List.set_cons_zero, List.set_cons_succ] at m0
           have L9 := lone_setCell w.heap.size 2 wa (.int .i64 (e + 1))
           have MF' := hide ((L9.block _ (Array.getElem?_eq_some_iff.1 (unhide MF)).1 (by omega)).trans (unhide MF))
           have M2' := hide ((L9.block _ (Array.getElem?_eq_some_iff.1 (unhide M2)).1 (by omega)).trans (unhide M2))
           have BB' := hide (L9.below (unhide BB) (Nat.le_refl _) (unhide BB).size)
           have OP' := hide (((unhide OP).lone L9 (by omega)).wide (Nat.le_refl _) (show _ ≤ (wa.setCell ⟨w.heap.size, 2, none⟩ (.int .i64 (e + 1))).heap.size by rw [size_set]; exact Nat.le_refl _))
           have M0' := hide m0
           clear m0 L9 M0 MF M2 BB OP c0 c1 c2 c3 d0 d1 d2 d3 z2
           have M0 := M0'
           have MF := MF'
           have M2 := M2'
           have BB := BB'
           have OP := peO_expect (unhide OP') (e + 1)
           have OP := hide OP
           clear M0' MF' M2' BB' OP'
           generalize wa.setCell ⟨w.heap.size, 2, none⟩ (.int .i64 (e + 1)) = w9 at *
           obtain ⟨_, c0, c1, c2, c3⟩ := pc_row (unhide M0)
           obtain ⟨_, d0, d1, d2, d3⟩ := fc_row (unhide MF)
           skip)
        | (with_reducible change wpList _ _ _ ({ dst := _, op := Op.load 53 _, type := _, pos := _, after := _, guard := _ } :: _) _ _; refine wpList_load_row rfl 53 _ rfl w.heap.size rfl 53 #[.slice (some ⟨ga, 0, none⟩) xq.length xq.length, .int .i64 s, .int .i64 (e + 1), .slice (some ⟨g2, 0, none⟩) (xi.length + 1) k2] (0, 0) _ (unhide M0) Tryz.underlying53 rfl (by kernel_rfl) ?_)
        | (with_reducible change wpList _ _ _ ({ dst := none, op := Op.store 53 _ _, type := _, pos := _, after := _, guard := _ } :: _) _ _; refine wpList_store_row rfl 53 _ _ rfl (w.heap.size + 1 + 1) #[.slice (some ⟨ga, 0, none⟩) xq.length xq.length, .int .i64 s, .int .i64 (e + 1), .slice (some ⟨g2, 0, none⟩) (xi.length + 1) k2] rfl rfl 53 #[.slice none 0 0, .int .i64 0, .int .i64 0, .slice none 0 0] (unhide M2) (by kernel_rfl) rfl (by kernel_rfl) ?_))
      refine bodyPost_ret (v := .tuple #[peA (.slice (some ⟨ga, 0, none⟩) xq.length xq.length) s (e + 1) (.slice (some ⟨g2, 0, none⟩) (xi.length + 1) k2), .int .i64 0]) ?_ rfl ?_
      · exact results_tmp_row rfl _ _ (w.heap.size + 1 + 1) 53 _ (0, 0) _ _ rfl rfl (get_setRow (unhide M2)) Tryz.underlying53 rfl (by kernel_rfl)
      · rw [unhide HR]
        exact ⟨_, rfl, ((unhide OP).lone (lone_setRow _ _ _) (by omega)).wide (by omega) (by rw [size_setRow]; exact Nat.le_refl _), below_setRow (unhide BB) (by omega)⟩
  · have hW' : awB ⟨xq, s, e, xi⟩ ⟨fs, fa, fh, fb⟩ = false := by simpa using hW
    have HT := hide (takeF_f hW')
    rw [hW']
    clear hW hW' ORa ORb
    obtain ⟨_, c0, c1, c2, c3⟩ := pc_row (unhide M0)
    obtain ⟨_, d0, d1, d2, d3⟩ := fc_row (unhide MF)
    by_cases hA : fa = s + 1
    · subst hA
      cases xq with
      | nil =>
        have HR := hide (show inR ⟨[], s, e, xi⟩ ⟨fs, s + 1, fh, fb⟩ = (⟨[], s, e, xi⟩, 0) by rw [unhide HR0]; unfold inF; rw [unhide HT]; exact congrArg (fun z => (z, (0 : Int))) (if_neg (by simp)))
        simp only [List.length_nil] at *
        go_wp2_with (first
          | (with_reducible change wpList _ _ _ ({ dst := _, op := Op.load 53 _, type := _, pos := _, after := _, guard := _ } :: _) _ _; refine wpList_load_row rfl 53 _ rfl w.heap.size rfl 53 #[.slice (some ⟨ga, 0, none⟩) 0 0, .int .i64 s, .int .i64 e, .slice (some ⟨gb, 0, none⟩) xi.length xi.length] (0, 0) _ (unhide M0) Tryz.underlying53 rfl (by kernel_rfl) ?_)
          | (with_reducible change wpList _ _ _ ({ dst := none, op := Op.store 53 _ _, type := _, pos := _, after := _, guard := _ } :: _) _ _; refine wpList_store_row rfl 53 _ _ rfl (w.heap.size + 1 + 1) #[.slice (some ⟨ga, 0, none⟩) 0 0, .int .i64 s, .int .i64 e, .slice (some ⟨gb, 0, none⟩) xi.length xi.length] rfl rfl 53 #[.slice none 0 0, .int .i64 0, .int .i64 0, .slice none 0 0] (unhide M2) (by kernel_rfl) rfl (by kernel_rfl) ?_))
        refine bodyPost_ret (v := .tuple #[peA (.slice (some ⟨ga, 0, none⟩) 0 0) s e (.slice (some ⟨gb, 0, none⟩) xi.length xi.length), .int .i64 0]) ?_ rfl ?_
        · exact results_tmp_row rfl _ _ (w.heap.size + 1 + 1) 53 _ (0, 0) _ _ rfl rfl (get_setRow (unhide M2)) Tryz.underlying53 rfl (by kernel_rfl)
        · rw [unhide HR]
          exact ⟨_, rfl, ((unhide OP).lone (lone_setRow _ _ _) (by omega)).wide (by omega) (by rw [size_setRow]; exact Nat.le_refl _), below_setRow (unhide BB) (by omega)⟩
      | cons t ts =>
        have HR := hide (show inR ⟨t :: ts, s, e, xi⟩ ⟨fs, s + 1, fh, fb⟩ = (⟨ts, s + 1, e, xi⟩, 0) by rw [unhide HR0]; unfold inF; rw [unhide HT]; exact congrArg (fun z => (z, (0 : Int))) (if_pos ⟨rfl, by simp⟩))
        have p0 : (0 : Int) < ((t :: ts).length : Int) := by simp
        have p1 : ((t :: ts).length : Int) ≤ 1048576 := by have := unhide LQ; omega
        obtain ⟨oq', ho, hrun⟩ := cut_one ga 0 (t :: ts).length (t :: ts).length (by simp) (Nat.le_refl _) (by omega)
        have hl1 : (t :: ts).length - 1 = ts.length := by simp
        have hrun' : ∀ X : World, (Instr.slice 23 (.slice (some ⟨ga, 0, none⟩) (t :: ts).length (t :: ts).length) (some (.int .i64 1)) none none).run Tryz.prog X = .ok (.slice (some ⟨ga, oq', none⟩) ts.length ((t :: ts).length - 1)) X := fun X => (hrun X).trans (by rw [hl1])
        have TLf : Hid (∀ {W : World} {lo hi : Nat}, ownG lo hi W (.slice (some ⟨ga, 0, none⟩) (t :: ts).length (t :: ts).length) (t :: ts) → ownG lo hi W (.slice (some ⟨ga, oq', none⟩) ts.length ((t :: ts).length - 1)) ts) := hide fun h => h.tail ho
        clear ho hrun hl1
        generalize (t :: ts).length = n at *
        have n2 : ¬ ((n : Int) = 0) := by omega
        have z0 : w6.frozen? ⟨w.heap.size, 0, none⟩ = false := row_free (unhide M0)
        have z1 : w6.frozen? ⟨w.heap.size, 1, none⟩ = false := row_free (unhide M0)
        have LS := (lone_setCell w.heap.size 0 w6 (.slice (some ⟨ga, oq', none⟩) ts.length (n - 1))).trans (lone_setCell w.heap.size 1 _ (.int .i64 (s + 1)))
        have ms := row_set (i := 1) (v := .int .i64 (s + 1)) (row_set (i := 0) (v := .slice (some ⟨ga, oq', none⟩) ts.length (n - 1)) (unhide M0))
        simp only [List.setIfInBounds_toArray, List.set_cons_zero, List.set_cons_succ] at ms
        have MS := hide ms
        have MS2 := hide ((LS.block _ (Array.getElem?_eq_some_iff.1 (unhide M2)).1 (by omega)).trans (unhide M2))
        have BS := hide (LS.below (unhide BB) (Nat.le_refl _) (unhide BB).size)
        have OPS : Hid (peO (w.heap.size + 1 + 1 + 1) ((w6.setCell ⟨w.heap.size, 0, none⟩ (.slice (some ⟨ga, oq', none⟩) ts.length (n - 1))).setCell ⟨w.heap.size, 1, none⟩ (.int .i64 (s + 1))).heap.size ((w6.setCell ⟨w.heap.size, 0, none⟩ (.slice (some ⟨ga, oq', none⟩) ts.length (n - 1))).setCell ⟨w.heap.size, 1, none⟩ (.int .i64 (s + 1))) (peA (.slice (some ⟨ga, oq', none⟩) ts.length (n - 1)) (s + 1) e (.slice (some ⟨gb, 0, none⟩) xi.length xi.length)) ⟨ts, s + 1, e, xi⟩) := hide (by
          obtain ⟨q', i', e', o1, o2, o3⟩ := unhide OP
          have x1 : .slice (some ⟨ga, 0, none⟩) n n = q' := (List.cons.inj (Array.mk.inj (Value.agg.inj e'))).1
          have x2 : .slice (some ⟨gb, 0, none⟩) xi.length xi.length = i' := (List.cons.inj (List.cons.inj (List.cons.inj (List.cons.inj (Array.mk.inj (Value.agg.inj e'))).2).2).2).1
          subst x1 x2
          refine ⟨_, _, rfl, (((unhide TLf o1).lone LS (by omega)).wide (Nat.le_refl _) (by rw [size_set, size_set]; exact Nat.le_refl _)), ((o2.lone LS (by omega)).wide (Nat.le_refl _) (by rw [size_set, size_set]; exact Nat.le_refl _)), fun k k1 k2 => o3 k k1 k2⟩)
        clear LS ms
        go_wp2_with (first
          | (with_reducible change wpList _ _ _ ({ dst := _, op := Op.load 53 _, type := _, pos := _, after := _, guard := _ } :: _) _ _; refine wpList_load_row rfl 53 _ rfl w.heap.size rfl 53 #[.slice (some ⟨ga, oq', none⟩) ts.length (n - 1), .int .i64 (s + 1), .int .i64 e, .slice (some ⟨gb, 0, none⟩) xi.length xi.length] (0, 0) _ (unhide MS) Tryz.underlying53 rfl (by kernel_rfl) ?_)
          | (with_reducible change wpList _ _ _ ({ dst := none, op := Op.store 53 _ _, type := _, pos := _, after := _, guard := _ } :: _) _ _; refine wpList_store_row rfl 53 _ _ rfl (w.heap.size + 1 + 1) #[.slice (some ⟨ga, oq', none⟩) ts.length (n - 1), .int .i64 (s + 1), .int .i64 e, .slice (some ⟨gb, 0, none⟩) xi.length xi.length] rfl rfl 53 #[.slice none 0 0, .int .i64 0, .int .i64 0, .slice none 0 0] (unhide MS2) (by kernel_rfl) rfl (by kernel_rfl) ?_))
        refine bodyPost_ret (v := .tuple #[peA (.slice (some ⟨ga, oq', none⟩) ts.length (n - 1)) (s + 1) e (.slice (some ⟨gb, 0, none⟩) xi.length xi.length), .int .i64 0]) ?_ rfl ?_
        · exact results_tmp_row rfl _ _ (w.heap.size + 1 + 1) 53 _ (0, 0) _ _ rfl rfl (get_setRow (unhide MS2)) Tryz.underlying53 rfl (by kernel_rfl)
        · rw [unhide HR]
          exact ⟨_, rfl, ((unhide OPS).lone (lone_setRow _ _ _) (by omega)).wide (by omega) (by rw [size_setRow]; exact Nat.le_refl _), below_setRow (unhide BS) (by omega)⟩
    · have HR := hide (show inR ⟨xq, s, e, xi⟩ ⟨fs, fa, fh, fb⟩ = (⟨xq, s, e, xi⟩, 0) by rw [unhide HR0]; unfold inF; rw [unhide HT]; exact congrArg (fun z => (z, (0 : Int))) (if_neg (fun h => hA h.1)))
      have hA' : (fa == s + 1) = false := by simpa using hA
      go_wp2_with (first
        | (with_reducible change wpList _ _ _ ({ dst := _, op := Op.load 53 _, type := _, pos := _, after := _, guard := _ } :: _) _ _; refine wpList_load_row rfl 53 _ rfl w.heap.size rfl 53 #[.slice (some ⟨ga, 0, none⟩) xq.length xq.length, .int .i64 s, .int .i64 e, .slice (some ⟨gb, 0, none⟩) xi.length xi.length] (0, 0) _ (unhide M0) Tryz.underlying53 rfl (by kernel_rfl) ?_)
        | (with_reducible change wpList _ _ _ ({ dst := none, op := Op.store 53 _ _, type := _, pos := _, after := _, guard := _ } :: _) _ _; refine wpList_store_row rfl 53 _ _ rfl (w.heap.size + 1 + 1) #[.slice (some ⟨ga, 0, none⟩) xq.length xq.length, .int .i64 s, .int .i64 e, .slice (some ⟨gb, 0, none⟩) xi.length xi.length] rfl rfl 53 #[.slice none 0 0, .int .i64 0, .int .i64 0, .slice none 0 0] (unhide M2) (by kernel_rfl) rfl (by kernel_rfl) ?_))
      refine bodyPost_ret (v := .tuple #[peA (.slice (some ⟨ga, 0, none⟩) xq.length xq.length) s e (.slice (some ⟨gb, 0, none⟩) xi.length xi.length), .int .i64 0]) ?_ rfl ?_
      · exact results_tmp_row rfl _ _ (w.heap.size + 1 + 1) 53 _ (0, 0) _ _ rfl rfl (get_setRow (unhide M2)) Tryz.underlying53 rfl (by kernel_rfl)
      · rw [unhide HR]
        exact ⟨_, rfl, ((unhide OP).lone (lone_setRow _ _ _) (by omega)).wide (by omega) (by rw [size_setRow]; exact Nat.le_refl _), below_setRow (unhide BB) (by omega)⟩
end Go.Proofs.YtbkcgkffafjbgaaGreatDoor
