/- A text said: the specification's PeerSay, and the program's. -/
import Derived.Test.YtbkcgkffafjbgaaGreatDoorSya
namespace Go.Proofs.YtbkcgkffafjbgaaGreatDoor
open Go.RowKit
set_option maxHeartbeats 4000000
set_option maxRecDepth 20000
theorem long58 (b : Nat) (t : ByteArray) (w : World) (hc : w.cell? ⟨b, 0, none⟩ = some (.string t)) (ht : t.size ≤ maxLen) :
    Calls Tryz.prog 13 #[.slice (some ⟨b, 0, none⟩) 1 1] w fun e w' => e = .returned (.bool (decide (65536 < t.size))) ∧ w' = w := by
  unfold maxLen at ht
  have z0 : (0 : Int) ≤ (t.size : Int) := by omega
  have z1 : (t.size : Int) ≤ 9223372036854775807 := by omega
  by_cases h : 65536 < t.size
  · have q : (65536 : Int) < (t.size : Int) := by omega
    rw [decide_eq_true h]
    clear h ht
    go_enter Tryz.func13, Tryz.ntmps13
    go_wp2
    go_loopw [7] (fun i wr => i = .int .i64 0 ∧ wr = w) (fun i _ => 1 - (intOf i).toNat)
    case atStart => exact ⟨rfl, rfl⟩
    case round =>
      obtain ⟨rfl, hwr⟩ := hrel
      subst hwr
      go_wp2
      go_ret
      exact ⟨rfl, rfl⟩
  · have q : (t.size : Int) ≤ 65536 := by omega
    rw [decide_eq_false h]
    clear h ht
    go_enter Tryz.func13, Tryz.ntmps13
    go_wp2
    go_loopw [7] (fun i wr => ∃ j : Nat, j ≤ 1 ∧ i = .int .i64 j ∧ wr = w) (fun i _ => 1 - (intOf i).toNat)
    case atStart => exact ⟨0, by omega, rfl, rfl⟩
    case round =>
      obtain ⟨j, hj, rfl, hwr⟩ := hrel
      subst hwr
      obtain rfl | rfl : j = 0 ∨ j = 1 := by omega
      · go_wp2
        go_roundw
        case rel => exact ⟨1, by omega, rfl, by first | rfl | trivial⟩
        case measure => decide
      · go_wp2
        go_ret
        exact ⟨rfl, rfl⟩
def sayR (p : Pe) (t : ByteArray) : Pe × Int := if 65536 < t.size then (pe0, 2) else if peOK p = true then sayF p t else (pe0, 1)
theorem ok_few {p : Pe} (h : peOK p = true) : p.q.length ≤ 8 ∧ p.i.length ≤ 100 ∧ (∀ t ∈ p.q, t.size ≤ 40) ∧ (∀ t ∈ p.i, t.size ≤ 40) ∧ 0 ≤ p.s ∧ p.s ≤ 65535 ∧ 0 ≤ p.e ∧ p.e ≤ 65535 := by
  rw [ok_parts] at h
  simp only [Bool.and_eq_true, List.all_eq_true, sqB, decide_eq_true_eq] at h
  obtain ⟨⟨⟨⟨h1, h2⟩, h3, h4⟩, h5, h6⟩, h7, h8⟩ := h
  exact ⟨h1, h3, fun t ht => of_decide_eq_true (h2 t ht), fun t ht => of_decide_eq_true (h4 t ht), h5, h6, h7, h8⟩
theorem say_few {p : Pe} {t : ByteArray} (h : peOK p = true) : peFew (sayF p t).1 := by
  obtain ⟨h1, h2, _⟩ := ok_few h
  unfold sayF
  split
  · exact ⟨by dsimp only; omega, by dsimp only; omega⟩
  · split
    · exact ⟨by dsimp only; omega, by dsimp only; omega⟩
    · exact ⟨by simp; omega, by dsimp only; omega⟩
/-- an answer of a peer and a code: what it reads as -/
def outV (w : World) (y : Pe) (c : Int) (e : Ending) (w' : World) : Prop := ∃ r, e = .returned (.tuple #[r, .int .i64 c]) ∧ peV w' r y ∧ Below w.heap.size w w'
/-- the same, and it owns its memory -/
def outO (w : World) (y : Pe) (c : Int) (e : Ending) (w' : World) : Prop := ∃ r, e = .returned (.tuple #[r, .int .i64 c]) ∧ peO w.heap.size w'.heap.size w' r y ∧ Below w.heap.size w w'
theorem peV.row {W : World} {b : Nat} {cs : Array Value} {v : Value} {p : Pe} (hb : peO (b + 1) W.heap.size W v p) : peV (W.setRow b cs) v p := by
  obtain ⟨q, i, rfl, h1, h2, _⟩ := hb
  exact ⟨q, i, rfl, strs_row h1.strs (fun g e => by have := h1.lies g e; omega), strs_row h2.strs (fun g e => by have := h2.lies g e; omega)⟩
theorem ownG.lift {lo hi lo' : Nat} {w : World} {v : Value} {ts : List ByteArray} (h : ownG lo hi w v ts) (hl : ∀ k, v.ownBlock = some k → lo' ≤ k) : ownG lo' hi w v ts := by
  obtain h | ⟨g, off, cap, cs, rfl, hg, hh, hc, hcp, hi⟩ := h
  · exact .inl h
  · exact .inr ⟨g, off, cap, cs, rfl, hl g rfl, hh, hc, hcp, hi⟩
theorem strs_nil (W : World) : strsV W (.slice none 0 0) [] := ⟨none, 0, rfl, fun h => by simp at h⟩
theorem say21 (v : Value) (p : Pe) (t : ByteArray) (w : World) (hv : peV w v p) (hf : peFew p) (ht : t.size ≤ maxLen) :
    Calls Tryz.prog 94 #[v, .string t] w fun e w' => outO w (sayR p t).1 (sayR p t).2 e w' := by
  have K2 := hide (fun v W (hok : peOK p = true) (h : peV W v p) => own53 v p W h hf (fun x hx => by have := (ok_few hok).2.2.1 x hx; omega) (fun x hx => by have := (ok_few hok).2.2.2.1 x hx; omega))
  have KL := hide (fun b W (h : W.cell? ⟨b, 0, none⟩ = some (.string t)) => long58 b t W h ht)
  have KT := hide (fun W => no59 t W)
  obtain ⟨q, i, rfl, hq, hi⟩ := hv
  have HP := hide (show peV w (peA q p.s p.e i) p from ⟨q, i, rfl, hq, hi⟩)
  have HF := hide hf
  obtain ⟨xq, s, e, xi⟩ := p
  dsimp only at *
  have B1 : Below w.heap.size w ((w.alloc (.cells #[q, .int .i64 s, .int .i64 e, i] 53)).alloc (.cells #[.slice none 0 0, .int .i64 0, .int .i64 0, .slice none 0 0] 53)) := bl_al (bl_al (Below.refl _ _))
  have n1 : ((w.alloc (.cells #[q, .int .i64 s, .int .i64 e, i] 53)).alloc (.cells #[.slice none 0 0, .int .i64 0, .int .i64 0, .slice none 0 0] 53)).heap[w.heap.size + 1]? = some (.cells #[.slice none 0 0, .int .i64 0, .int .i64 0, .slice none 0 0] 53 (0, 0)) := heap_at _ _ _ (by simp)
  have n0 : ((w.alloc (.cells #[q, .int .i64 s, .int .i64 e, i] 53)).alloc (.cells #[.slice none 0 0, .int .i64 0, .int .i64 0, .slice none 0 0] 53)).heap[w.heap.size]? = some (.cells #[q, .int .i64 s, .int .i64 e, i] 53 (0, 0)) := by
    rw [Below.heap_alloc _ _ _ (by simp)]
    exact heap_at _ _ _ rfl
  have E1 : Hid (w.heap.size + 1 + 1 = ((w.alloc (.cells #[q, .int .i64 s, .int .i64 e, i] 53)).alloc (.cells #[.slice none 0 0, .int .i64 0, .int .i64 0, .slice none 0 0] 53)).heap.size) := hide (by simp)
  have HN0 := hide n0
  have HN1 := hide n1
  have HB := hide B1
  obtain ⟨A, ca, rfl⟩ := hq.slice
  obtain ⟨A2, cb, rfl⟩ := hi.slice
  unfold maxLen at ht
  have t0 : (0 : Int) ≤ (t.size : Int) := by omega
  have t1 : (t.size : Int) ≤ 9223372036854775807 := by omega
  have K1 := hide (fun W (h : Below w.heap.size w W) => ok16 _ _ W ((unhide HP).below h) hf)
  have cT : (((w.alloc (.cells #[.slice A xq.length ca, .int .i64 s, .int .i64 e, .slice A2 xi.length cb] 53)).alloc (.cells #[.slice none 0 0, .int .i64 0, .int .i64 0, .slice none 0 0] 53)).alloc (.cells #[.string t] 9)).cell? ⟨w.heap.size + 1 + 1, 0, none⟩ = some (.string t) := by
    rw [row_cell (heap_at (((w.alloc (.cells #[.slice A xq.length ca, .int .i64 s, .int .i64 e, .slice A2 xi.length cb] 53)).alloc (.cells #[.slice none 0 0, .int .i64 0, .int .i64 0, .slice none 0 0] 53))) (.cells #[.string t] 9 (0, 0)) (w.heap.size + 1 + 1) (by simp))]; rfl
  have CT := hide cT
  have BT : Below (((w.alloc (.cells #[.slice A xq.length ca, .int .i64 s, .int .i64 e, .slice A2 xi.length cb] 53)).alloc (.cells #[.slice none 0 0, .int .i64 0, .int .i64 0, .slice none 0 0] 53))).heap.size ((w.alloc (.cells #[.slice A xq.length ca, .int .i64 s, .int .i64 e, .slice A2 xi.length cb] 53)).alloc (.cells #[.slice none 0 0, .int .i64 0, .int .i64 0, .slice none 0 0] 53)) (((w.alloc (.cells #[.slice A xq.length ca, .int .i64 s, .int .i64 e, .slice A2 xi.length cb] 53)).alloc (.cells #[.slice none 0 0, .int .i64 0, .int .i64 0, .slice none 0 0] 53)).alloc (.cells #[.string t] 9)) := bl_al (Below.refl _ _)
  have HN0 := hide ((BT.block _ (Array.getElem?_eq_some_iff.1 (unhide HN0)).1).trans (unhide HN0))
  have HN1 := hide ((BT.block _ (Array.getElem?_eq_some_iff.1 (unhide HN1)).1).trans (unhide HN1))
  have HB := hide (bl_st BT (unhide HB))
  have E2 : Hid ((((w.alloc (.cells #[.slice A xq.length ca, .int .i64 s, .int .i64 e, .slice A2 xi.length cb] 53)).alloc (.cells #[.slice none 0 0, .int .i64 0, .int .i64 0, .slice none 0 0] 53)).alloc (.cells #[.string t] 9)).heap.size = w.heap.size + 1 + 1 + 1) := hide (by simp)
  clear n0 n1 B1 hq hi hf ht cT BT E1
  go_enter Tryz.func94, Tryz.ntmps94
  go_wp2_with fail
  generalize ((w.alloc (.cells #[.slice A xq.length ca, .int .i64 s, .int .i64 e, .slice A2 xi.length cb] 53)).alloc (.cells #[.slice none 0 0, .int .i64 0, .int .i64 0, .slice none 0 0] 53)).alloc (.cells #[.string t] 9) = w1 at *
  refine (unhide KL _ w1 (unhide CT)).mono ?_
  rintro e1 w1' ⟨rfl, hw⟩
  have hw2 := hw.symm
  subst hw2
  clear hw
  have N0 := unhide HN0
  obtain ⟨_, c0, c1, c2, c3⟩ := pc_row N0
  by_cases h1 : 65536 < t.size
  · have HR := hide (show sayR ⟨xq, s, e, xi⟩ t = (pe0, 2) from if_pos h1)
    rw [decide_eq_true h1]
    clear h1 K1 K2 KL KT N0
    go_wp2_with (refine wpList_store_row rfl 53 _ _ rfl (w.heap.size + 1) #[.slice none 0 0, .int .i64 0, .int .i64 0, .slice none 0 0] rfl rfl 53 #[.slice none 0 0, .int .i64 0, .int .i64 0, .slice none 0 0] (unhide HN1) (by kernel_rfl) rfl (by kernel_rfl) ?_)
    refine bodyPost_ret (v := .tuple #[noP, .int .i64 2]) ?_ rfl ?_
    · exact results_tmp_row rfl _ _ (w.heap.size + 1) 53 _ (0, 0) _ _ rfl rfl (get_setRow (unhide HN1)) Tryz.underlying53 rfl (by kernel_rfl)
    · rw [unhide HR]
      exact ⟨_, rfl, own_noP _ _ _, below_setRow (unhide HB) (by omega)⟩
  have HR0 := hide (show sayR ⟨xq, s, e, xi⟩ t = _ from if_neg h1)
  rw [decide_eq_false h1]
  have HT := hide (show t.size ≤ 65536 by omega)
  clear N0 h1
  go_wp2_with fail
  refine (unhide K1 w1 (unhide HB)).mono ?_
  rintro e1 w2 ⟨rfl, b2⟩
  have N0 := (b2.block _ (Array.getElem?_eq_some_iff.1 (unhide HN0)).1).trans (unhide HN0)
  have N1 := hide ((b2.block _ (Array.getElem?_eq_some_iff.1 (unhide HN1)).1).trans (unhide HN1))
  have B2 := hide (bl_st b2 (unhide HB))
  have L2 := hide (show w.heap.size + 1 + 1 ≤ w2.heap.size by have := b2.size; have := unhide E2; omega)
  have HN0 := hide N0
  clear c0 c1 c2 c3
  obtain ⟨_, c0, c1, c2, c3⟩ := pc_row N0
  clear b2 N0 HN1 HB K1 KL CT
  by_cases hok : peOK ⟨xq, s, e, xi⟩ = true
  · have HR1 := hide (show sayR ⟨xq, s, e, xi⟩ t = sayF ⟨xq, s, e, xi⟩ t by rw [unhide HR0, if_pos hok])
    have KO := hide (fun v W h => unhide K2 v W hok h)
    have LQ := hide (show xq.length ≤ 8 from (ok_few hok).1)
    rw [hok]
    clear hok K2 HR0
    go_wp2_with fail
    refine (unhide KO _ w2 ((unhide HP).below (unhide B2))).mono ?_
    rintro e1 w3 ⟨r3, rfl, ⟨ga, gb, rfl, g1, g2, g3, ra, rb⟩, b3⟩
    dsimp only at ra rb
    have N0 := hide ((b3.block _ (Array.getElem?_eq_some_iff.1 (unhide HN0)).1).trans (unhide HN0))
    have N1 := hide ((b3.block _ (Array.getElem?_eq_some_iff.1 (unhide N1)).1).trans (unhide N1))
    have B3 := hide (bl_st b3 (unhide B2))
    have l2 := unhide L2
    have LG : Hid (w.heap.size + 1 + 1 ≤ ga ∧ ga < gb ∧ gb < w3.heap.size) := hide ⟨by omega, g2, g3⟩
    have L5 := lone_setRow w.heap.size w3 #[.slice (some ⟨ga, 0, none⟩) xq.length xq.length, .int .i64 s, .int .i64 e, .slice (some ⟨gb, 0, none⟩) xi.length xi.length]
    have ORa := hide (show (w3.setRow w.heap.size #[.slice (some ⟨ga, 0, none⟩) xq.length xq.length, .int .i64 s, .int .i64 e, .slice (some ⟨gb, 0, none⟩) xi.length xi.length]).heap[ga]? = some (strO xq []) from (L5.block _ (by omega) (by omega)).trans ra)
    have ORb := hide (show (w3.setRow w.heap.size #[.slice (some ⟨ga, 0, none⟩) xq.length xq.length, .int .i64 s, .int .i64 e, .slice (some ⟨gb, 0, none⟩) xi.length xi.length]).heap[gb]? = some (strO xi []) from (L5.block _ (by omega) (by omega)).trans rb)
    have M1 := hide ((L5.block _ (Array.getElem?_eq_some_iff.1 (unhide N1)).1 (by omega)).trans (unhide N1))
    have M0 : Hid ((w3.setRow w.heap.size #[.slice (some ⟨ga, 0, none⟩) xq.length xq.length, .int .i64 s, .int .i64 e, .slice (some ⟨gb, 0, none⟩) xi.length xi.length]).heap[w.heap.size]? = some (.cells #[.slice (some ⟨ga, 0, none⟩) xq.length xq.length, .int .i64 s, .int .i64 e, .slice (some ⟨gb, 0, none⟩) xi.length xi.length] 53 (0, 0))) := hide (get_setRow (unhide N0))
    have B5 := hide (below_setRow (cs := #[.slice (some ⟨ga, 0, none⟩) xq.length xq.length, .int .i64 s, .int .i64 e, .slice (some ⟨gb, 0, none⟩) xi.length xi.length]) (unhide B3) (Nat.le_refl w.heap.size))
    have Z5 := hide (size_setRow w3 w.heap.size #[.slice (some ⟨ga, 0, none⟩) xq.length xq.length, .int .i64 s, .int .i64 e, .slice (some ⟨gb, 0, none⟩) xi.length xi.length])
    clear c0 c1 c2 c3 b3 ra rb l2 g1 g2 g3 L5 KO B2 B3 HN0
    go_wp2_with (first
      | (refine wpList_store_row rfl 53 _ _ rfl w.heap.size #[.slice (some ⟨ga, 0, none⟩) xq.length xq.length, .int .i64 s, .int .i64 e, .slice (some ⟨gb, 0, none⟩) xi.length xi.length] rfl rfl 53 #[.slice A xq.length ca, .int .i64 s, .int .i64 e, .slice A2 xi.length cb] (unhide N0) (by kernel_rfl) rfl (by kernel_rfl) ?_
         generalize w3.setRow w.heap.size #[.slice (some ⟨ga, 0, none⟩) xq.length xq.length, .int .i64 s, .int .i64 e, .slice (some ⟨gb, 0, none⟩) xi.length xi.length] = w5 at *)
      | fail)
    clear N0 N1
    have OW : Hid (peO (w.heap.size + 1 + 1) w5.heap.size w5 (peA (.slice (some ⟨ga, 0, none⟩) xq.length xq.length) s e (.slice (some ⟨gb, 0, none⟩) xi.length xi.length)) ⟨xq, s, e, xi⟩) := by
      have lg := unhide LG
      have z5 := unhide Z5
      refine hide ⟨_, _, rfl, ownG.of_ownS (.inr ⟨ga, _, [], rfl, show w.heap.size + 1 + 1 ≤ ga by omega, show ga < w5.heap.size by omega, unhide ORa, Nat.le_refl _⟩), ownG.of_ownS (.inr ⟨gb, _, [], rfl, show w.heap.size + 1 + 1 ≤ gb by omega, show gb < w5.heap.size by omega, unhide ORb, Nat.le_refl _⟩), ?_⟩
      intro k a1 a2
      have x1 : k = ga := (Option.some.inj a1).symm
      have x2 : k = gb := (Option.some.inj a2).symm
      omega
    refine (unhide KT w5).mono ?_
    rintro e1 w5' ⟨rfl, hw⟩
    have hw2 := hw.symm
    subst hw2
    clear hw KT
    by_cases h40 : 40 < t.size
    · have HR := hide (show sayR ⟨xq, s, e, xi⟩ t = (⟨xq, s, e, xi⟩, 4) from (unhide HR1).trans (if_pos h40))
      rw [show is40 t = false from decide_eq_false (by omega)]
      clear h40 HR1
      go_wp2_with (first
        | refine wpList_load_row rfl 53 _ rfl w.heap.size rfl 53 #[.slice (some ⟨ga, 0, none⟩) xq.length xq.length, .int .i64 s, .int .i64 e, .slice (some ⟨gb, 0, none⟩) xi.length xi.length] (0, 0) _ (unhide M0) Tryz.underlying53 rfl (by kernel_rfl) ?_
        | refine wpList_store_row rfl 53 _ _ rfl (w.heap.size + 1) #[.slice (some ⟨ga, 0, none⟩) xq.length xq.length, .int .i64 s, .int .i64 e, .slice (some ⟨gb, 0, none⟩) xi.length xi.length] rfl rfl 53 #[.slice none 0 0, .int .i64 0, .int .i64 0, .slice none 0 0] (unhide M1) (by kernel_rfl) rfl (by kernel_rfl) ?_)
      refine bodyPost_ret (v := .tuple #[peA (.slice (some ⟨ga, 0, none⟩) xq.length xq.length) s e (.slice (some ⟨gb, 0, none⟩) xi.length xi.length), .int .i64 4]) ?_ rfl ?_
      · exact results_tmp_row rfl _ _ (w.heap.size + 1) 53 _ (0, 0) _ _ rfl rfl (get_setRow (unhide M1)) Tryz.underlying53 rfl (by kernel_rfl)
      · rw [unhide HR]
        refine ⟨_, rfl, ((unhide OW).lone (lone_setRow _ _ _) (by omega)).wide (by omega) (by rw [size_setRow]; exact Nat.le_refl _), below_setRow (unhide B5) (by omega)⟩
    rw [show is40 t = true from decide_eq_true (by omega)]
    obtain ⟨_, c0, c1, c2, c3⟩ := pc_row (unhide M0)
    have q0 : (0 : Int) ≤ (xq.length : Int) := by omega
    have q1 : (xq.length : Int) ≤ 8 := by have := unhide LQ; omega
    by_cases h8 : xq.length = 8
    · have HR := hide (show sayR ⟨xq, s, e, xi⟩ t = (⟨xq, s, e, xi⟩, 17) from (unhide HR1).trans ((if_neg h40).trans (if_pos h8)))
      have h4 : (xq.length : Int) = 8 := by omega
      have h5 : ((xq.length : Int) == 8) = true := by simp [h4]
      clear h40 h8 HR1
      go_wp2_with (first
        | refine wpList_load_row rfl 53 _ rfl w.heap.size rfl 53 #[.slice (some ⟨ga, 0, none⟩) xq.length xq.length, .int .i64 s, .int .i64 e, .slice (some ⟨gb, 0, none⟩) xi.length xi.length] (0, 0) _ (unhide M0) Tryz.underlying53 rfl (by kernel_rfl) ?_
        | refine wpList_store_row rfl 53 _ _ rfl (w.heap.size + 1) #[.slice (some ⟨ga, 0, none⟩) xq.length xq.length, .int .i64 s, .int .i64 e, .slice (some ⟨gb, 0, none⟩) xi.length xi.length] rfl rfl 53 #[.slice none 0 0, .int .i64 0, .int .i64 0, .slice none 0 0] (unhide M1) (by kernel_rfl) rfl (by kernel_rfl) ?_)
      refine bodyPost_ret (v := .tuple #[peA (.slice (some ⟨ga, 0, none⟩) xq.length xq.length) s e (.slice (some ⟨gb, 0, none⟩) xi.length xi.length), .int .i64 17]) ?_ rfl ?_
      · exact results_tmp_row rfl _ _ (w.heap.size + 1) 53 _ (0, 0) _ _ rfl rfl (get_setRow (unhide M1)) Tryz.underlying53 rfl (by kernel_rfl)
      · rw [unhide HR]
        refine ⟨_, rfl, ((unhide OW).lone (lone_setRow _ _ _) (by omega)).wide (by omega) (by rw [size_setRow]; exact Nat.le_refl _), below_setRow (unhide B5) (by omega)⟩
    have HR := hide (show sayR ⟨xq, s, e, xi⟩ t = (⟨xq ++ [t], s, e, xi⟩, 0) from (unhide HR1).trans ((if_neg h40).trans (if_neg h8)))
    have h4 : ¬ (xq.length : Int) = 8 := by omega
    have h5 : ((xq.length : Int) == 8) = false := by simp; omega
    have KC := hide (fun W => clone55 t W (by omega))
    clear h40 h8 HR1 OW
    go_wp2
    refine wp_region_late (S := fun W' => W'.heap[w.heap.size]? = some (.cells #[.slice (some ⟨ga, 0, none⟩) xq.length xq.length, .int .i64 s, .int .i64 e, .slice (some ⟨gb, 0, none⟩) xi.length xi.length] 53 (0, 0))) (late := [7]) (by kernel_rfl) ?_
    have hS0 : Below w5.heap.size w5 { w5 with drawn := w5.drawn + 1 } := below_drewN (Below.refl _ _) 1
    have r0 := unhide M0
    refine wpAnyL_take (i := 0) (oi := { dst := some 24, op := Op.fieldAddr 53 (Operand.tmp 2) 0, type := 0, pos := "l15_talk.go:73", after := #[], guard := none }) (v := ?_) rfl (by kernel_rfl) (by kernel_rfl) (by kernel_rfl) (by kernel_rfl) (fun _ _ _ h => h) (Or.inl ⟨by rfl, ?_⟩) r0 ?_
    rotate_left
    · intro W hSw
      obtain ⟨_, c0, c1, c2, c3⟩ := pc_row hSw
      go_simp
      try with_reducible rfl
    simp only [Act.put, List.setIfInBounds_toArray, List.set_cons_zero, List.set_cons_succ]
    refine wpAnyL_take (i := 1) (oi := { dst := some 25, op := Op.load 23 (Operand.tmp 24), type := 23, pos := "l15_talk.go:73", after := #[{ on := 0, ground := Ground.data }], guard := none }) (v := ?_) rfl (by kernel_rfl) (by kernel_rfl) (by kernel_rfl) (by kernel_rfl) (fun _ _ _ h => h) (Or.inl ⟨by rfl, ?_⟩) r0 ?_
    rotate_left
    · intro W hSw
      obtain ⟨_, c0, c1, c2, c3⟩ := pc_row hSw
      go_simp
      try with_reducible rfl
    simp only [Act.put, List.setIfInBounds_toArray, List.set_cons_zero, List.set_cons_succ]
    refine wpAnyL_take (i := 2) (oi := { dst := some 26, op := Op.move (Operand.tmp 1), type := 9, pos := "l15_talk.go:73", after := #[], guard := none }) (v := ?_) rfl (by kernel_rfl) (by kernel_rfl) (by kernel_rfl) (by kernel_rfl) (fun _ _ _ h => h) (Or.inl ⟨by rfl, ?_⟩) r0 ?_
    rotate_left
    · intro W hSw
      obtain ⟨_, c0, c1, c2, c3⟩ := pc_row hSw
      go_simp
      try with_reducible rfl
    simp only [Act.put, List.setIfInBounds_toArray, List.set_cons_zero, List.set_cons_succ]
    refine wpAnyL_one (i := 3) (by kernel_rfl) ?_
    refine wpOp_step (o := { dst := some 27, op := Op.call { callee := Callee.value (Operand.func 64), args := #[Operand.tmp 26], argTypes := #[9] }, type := 9, pos := "l15_talk.go:73", after := #[{ on := 2, ground := Ground.data }], guard := none }) rfl fun K' hK => step_enterW (by rfl) 64 #[.string t] (by go_simp) ((unhide KC _).mono ?_)
    rintro e w6 ⟨rfl, b6⟩
    have s6 := bl_st b6 hS0
    have r6 := (s6.block _ (Array.getElem?_eq_some_iff.1 r0).1).trans r0
    clear b6
    refine ⟨_, rfl, hK _ _ ⟨(fun _ => r6), ?_⟩⟩
    simp only [Act.put, List.setIfInBounds_toArray, List.set_cons_zero, List.set_cons_succ]
    refine wpAnyL_one (i := 4) (by kernel_rfl) ?_
    refine wpOp_step (o := { dst := some 28, op := Op.buildSlice 23 1 #[(0, Operand.tmp 27)], type := 23, pos := "l15_talk.go:73", after := #[{ on := 3, ground := Ground.data }], guard := none }) rfl fun K' hK => step_valueW (by rfl) (.slice (some ⟨w6.heap.size, 0, none⟩) 1 1) (w6.alloc (.cells #[.string t] 9)) (by go_simp) ?_
    refine hK _ _ ⟨(fun _ => ((Below.refl _ _).alloc (Nat.le_refl _) _ |>.block _ (Array.getElem?_eq_some_iff.1 r6).1).trans r6), ?_⟩
    simp only [Act.put, List.setIfInBounds_toArray, List.set_cons_zero, List.set_cons_succ]
    have z5 := unhide Z5
    have szA := s6.size
    have lg := unhide LG
    have hrow : w6.ownsRow w.heap.size 9 1 (.slice (some ⟨ga, 0, none⟩) xq.length xq.length) xq.length (xq.map Value.string) := by
      have h := unhide ORa
      refine ⟨by simp, .inr ⟨ga, _, _, rfl, by omega, (s6.block _ (Array.getElem?_eq_some_iff.1 h).1).trans h, Nat.le_refl _, by have := unhide LQ; unfold maxLen; omega, by simp, ?_⟩⟩
      simp only [Nat.mul_one, List.append_nil]
      exact List.take_of_length_le (by simp)
    obtain ⟨g2, k2, w8, hrun, pu⟩ := run_push w6 23 w.heap.size xq.length ga xq.length xq hrow w6.heap.size rfl t (by have := unhide LQ; omega) (by omega)
    have LATE : Below w.heap.size w w8 := pu.be _ _ (bl_st s6 (unhide B5)) (Nat.le_refl _) (bl_st s6 (unhide B5)).size
    have N0 := (pu.kept _ (by omega) (by omega)).trans ((s6.block _ (by omega)).trans (unhide M0))
    have N1 := (pu.kept _ (by omega) (by omega)).trans ((s6.block _ (by omega)).trans (unhide M1))
    have OB := (pu.kept gb (by omega) (by omega)).trans ((s6.block _ (by omega)).trans (unhide ORb))
    refine wpAnyL_one (i := 5) (by kernel_rfl) ?_
    refine wpOp_step (o := { dst := some 29, op := Op.call { callee := Callee.builtin Builtin.append, args := #[Operand.tmp 25, Operand.tmp 28], argTypes := #[23, 23] }, type := 23, pos := "l15_talk.go:73", after := #[{ on := 1, ground := Ground.data }, { on := 4, ground := Ground.data }, { on := 3, ground := Ground.chain }], guard := none }) rfl fun K' hK => step_appendW (by rfl) _ _ rfl _ _ _ _ rfl rfl hrun ?_
    refine hK _ _ ⟨(fun _ => N0), ?_⟩
    simp only [Act.put, List.setIfInBounds_toArray, List.set_cons_zero, List.set_cons_succ]
    have c0 : w8.cell? ⟨w.heap.size, 0, none⟩ = some (.slice (some ⟨ga, 0, none⟩) xq.length xq.length) := row_cell N0
    have z0 : w8.frozen? ⟨w.heap.size, 0, none⟩ = false := row_free N0
    refine wpAnyL_one (i := 6) (by kernel_rfl) ?_
    refine wpOp_step (o := { dst := some 30, op := Op.fieldAddr 53 (Operand.tmp 2) 0, type := 0, pos := "l15_talk.go:73", after := #[{ on := 0, ground := Ground.phase }, { on := 1, ground := Ground.phase }, { on := 2, ground := Ground.phase }, { on := 3, ground := Ground.phase }, { on := 4, ground := Ground.phase }, { on := 5, ground := Ground.phase }], guard := none }) rfl fun K' hK => step_valueW (by rfl) (.pointer (some ⟨w.heap.size, 0, none⟩)) (w8) (by go_simp) ?_
    refine hK _ _ ⟨(fun _ => N0), ?_⟩
    simp only [Act.put, List.setIfInBounds_toArray, List.set_cons_zero, List.set_cons_succ]
    refine wpAnyL_one (i := 7) (by kernel_rfl) ?_
    refine wpOp_step (o := { dst := none, op := Op.store 23 (Operand.tmp 30) (Operand.tmp 29), type := 0, pos := "l15_talk.go:73", after := #[{ on := 6, ground := Ground.data }, { on := 5, ground := Ground.data }, { on := 5, ground := Ground.chain }, { on := 0, ground := Ground.phase }, { on := 1, ground := Ground.phase }, { on := 2, ground := Ground.phase }, { on := 3, ground := Ground.phase }, { on := 4, ground := Ground.phase }, { on := 5, ground := Ground.phase }], guard := none }) rfl fun K' hK => step_skipW (by rfl) (w8.setCell ⟨w.heap.size, 0, none⟩ (.slice (some ⟨g2, 0, none⟩) (xq.length + 1) k2)) (by go_simp) ?_
    refine hK _ _ ⟨(fun h => by cases h), ?_⟩
    try simp only [Act.put]
    refine wpAnyL_done (by kernel_rfl) ?_ _
    have m0 := row_set (i := 0) (v := .slice (some ⟨g2, 0, none⟩) (xq.length + 1) k2) N0
    simp only [List.setIfInBounds_toArray, List.set_cons_zero] at m0
    have M0' := hide m0
    have M1' := hide (row_set_other (i := 0) (v := .slice (some ⟨g2, 0, none⟩) (xq.length + 1) k2) N1 (show w.heap.size ≠ w.heap.size + 1 by omega))
    have B9 := hide (bl_set (i := 0) (v := .slice (some ⟨g2, 0, none⟩) (xq.length + 1) k2) LATE (Nat.le_refl w.heap.size))
    have O9 : Hid (peO (w.heap.size + 1 + 1) (w8.setCell ⟨w.heap.size, 0, none⟩ (.slice (some ⟨g2, 0, none⟩) (xq.length + 1) k2)).heap.size (w8.setCell ⟨w.heap.size, 0, none⟩ (.slice (some ⟨g2, 0, none⟩) (xq.length + 1) k2)) (peA (.slice (some ⟨g2, 0, none⟩) (xq.length + 1) k2) s e (.slice (some ⟨gb, 0, none⟩) xi.length xi.length)) ⟨xq ++ [t], s, e, xi⟩) := by
      have L9 := lone_setCell w.heap.size 0 w8 (.slice (some ⟨g2, 0, none⟩) (xq.length + 1) k2)
      have hg2 : w.heap.size + 1 + 1 ≤ g2 := by have := pu.lo; omega
      have hi2 := pu.hi
      have hs := pu.size
      refine hide ⟨_, _, rfl, ?_, ?_, ?_⟩
      · have h := pu.own (by simp)
        refine ((ownG.lift h (show ∀ k, _ = some k → w.heap.size + 1 + 1 ≤ k from fun k e => by have : k = g2 := (Option.some.inj e).symm; omega)).lone L9 (by omega)).wide (Nat.le_refl _) (by rw [size_set]; exact Nat.le_refl _)
      · refine ((ownG.of_ownS (.inr ⟨gb, _, [], rfl, show w.heap.size + 1 + 1 ≤ gb by omega, show gb < w8.heap.size by omega, OB, Nat.le_refl _⟩)).lone L9 (by omega)).wide (Nat.le_refl _) (by rw [size_set]; exact Nat.le_refl _)
      · intro k a1 a2
        have x1 : k = g2 := (Option.some.inj a1).symm
        have x2 : k = gb := (Option.some.inj a2).symm
        have := pu.lo
        omega
    clear m0 N0 N1 OB LATE pu hrun hrow c0 z0 s6 r6 r0 hS0 szA lg z5 M0 M1 B5 ORa ORb KC
    have M0 := M0'
    clear M0'
    generalize w8.setCell ⟨w.heap.size, 0, none⟩ (.slice (some ⟨g2, 0, none⟩) (xq.length + 1) k2) = w9 at *
    go_wp2_with (first
      | refine wpList_load_row rfl 53 _ rfl w.heap.size rfl 53 #[.slice (some ⟨g2, 0, none⟩) (xq.length + 1) k2, .int .i64 s, .int .i64 e, .slice (some ⟨gb, 0, none⟩) xi.length xi.length] (0, 0) _ (unhide M0) Tryz.underlying53 rfl (by kernel_rfl) ?_
      | refine wpList_store_row rfl 53 _ _ rfl (w.heap.size + 1) #[.slice (some ⟨g2, 0, none⟩) (xq.length + 1) k2, .int .i64 s, .int .i64 e, .slice (some ⟨gb, 0, none⟩) xi.length xi.length] rfl rfl 53 #[.slice none 0 0, .int .i64 0, .int .i64 0, .slice none 0 0] (unhide M1') (by kernel_rfl) rfl (by kernel_rfl) ?_)
    refine bodyPost_ret (v := .tuple #[peA (.slice (some ⟨g2, 0, none⟩) (xq.length + 1) k2) s e (.slice (some ⟨gb, 0, none⟩) xi.length xi.length), .int .i64 0]) ?_ rfl ?_
    · exact results_tmp_row rfl _ _ (w.heap.size + 1) 53 _ (0, 0) _ _ rfl rfl (get_setRow (unhide M1')) Tryz.underlying53 rfl (by kernel_rfl)
    · rw [unhide HR]
      refine ⟨_, rfl, ((unhide O9).lone (lone_setRow _ _ _) (by omega)).wide (by omega) (by rw [size_setRow]; exact Nat.le_refl _), below_setRow (unhide B9) (by omega)⟩
  · have hok2 : peOK ⟨xq, s, e, xi⟩ = false := by simpa using hok
    have HR := hide (show sayR ⟨xq, s, e, xi⟩ t = (pe0, 1) by rw [unhide HR0, if_neg hok])
    rw [hok2]
    clear hok hok2 K2 KT HR0 HN0
    go_wp2_with (refine wpList_store_row rfl 53 _ _ rfl (w.heap.size + 1) #[.slice none 0 0, .int .i64 0, .int .i64 0, .slice none 0 0] rfl rfl 53 #[.slice none 0 0, .int .i64 0, .int .i64 0, .slice none 0 0] (unhide N1) (by kernel_rfl) rfl (by kernel_rfl) ?_)
    refine bodyPost_ret (v := .tuple #[noP, .int .i64 1]) ?_ rfl ?_
    · exact results_tmp_row rfl _ _ (w.heap.size + 1) 53 _ (0, 0) _ _ rfl rfl (get_setRow (unhide N1)) Tryz.underlying53 rfl (by kernel_rfl)
    · rw [unhide HR]
      exact ⟨_, rfl, own_noP _ _ _, below_setRow (unhide B2) (by omega)⟩
end Go.Proofs.YtbkcgkffafjbgaaGreatDoor
