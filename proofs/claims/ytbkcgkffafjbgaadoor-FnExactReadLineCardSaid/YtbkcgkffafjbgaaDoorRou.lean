/- A round that is read off a line, and any act; the program's side. -/
import Derived.Test.YtbkcgkffafjbgaaDoorSay
namespace Go.Proofs.YtbkcgkffafjbgaaDoor
open Go.RowKit
set_option maxHeartbeats 4000000
set_option maxRecDepth 20000
theorem Lone.set {q b i : Nat} {w W : World} {v : Value} (h : Lone q w W) (hb : w.heap.size ≤ b) : Lone q w (W.setCell ⟨b, i, none⟩ v) :=
  ⟨h.os, h.tape, h.output, by rw [size_set]; exact h.size, fun k hk hq => by
    rw [← h.block k hk hq]; exact (lone_setCell b i W v).block k (Nat.lt_of_lt_of_le hk h.size) (by omega)⟩
theorem Pg.set {q b c i : Nat} {w W : World} {v : Value} (h : Pg q b w W) (hc : w.heap.size ≤ c) (hb : c ≠ b) : Pg q b w (W.setCell ⟨c, i, none⟩ v) :=
  ⟨h.lone.set hc, row_set_other h.row hb, h.ne, h.ge⟩
theorem U.setO {q c i : Nat} {W : World} {v : Value} {l : By} (h : U q l W) (hb : c ≠ q) : U q l (W.setCell ⟨c, i, none⟩ v) := row_set_other h hb
theorem round16 (q : Nat) (l : By) (w : World) (hu : U q l w) (hn : Nm w) (hq : 0 < q) (hl : l.length ≤ 65536) :
    Calls Tryd.prog 16 #[.pointer (some ⟨q, 0, none⟩)] w (endA (roundR l) q w) := by
  have HP := hide ((Pg.start hu.lt).alloc (.cells #[.int .i64 2, .int .i64 0, .string ⟨#[]⟩, .bool false, .bool false] 23))
  have HN := hide ((hn.step (.cells zA 23)).step (.cells #[.int .i64 2, .int .i64 0, .string ⟨#[]⟩, .bool false, .bool false] 23))
  have HU := hide ((hu.step (.cells zA 23)).step (.cells #[.int .i64 2, .int .i64 0, .string ⟨#[]⟩, .bool false, .bool false] 23))
  have CB : Hid (((w.alloc (.cells zA 23)).alloc (.cells #[.int .i64 2, .int .i64 0, .string ⟨#[]⟩, .bool false, .bool false] 23)).heap[w.heap.size + 1]? = some (.cells #[.int .i64 2, .int .i64 0, .string ⟨#[]⟩, .bool false, .bool false] 23 (0, 0))) := hide (heap_at _ _ _ (by simp))
  have HQ : Hid (w.heap.size + 1 ≠ q) := hide (by have := hu.lt; omega)
  have hl2 := Nat.le_trans (lf_len l) hl
  have hl3 := Nat.le_trans (lf_len (lf l)) hl2
  have K1 := hide (fun W h => word18 q l W h hl)
  have K2 := hide (fun W h1 h2 => lost23 q (lf l) W h1 h2 hq hl2)
  have K3 := hide (fun W h => end24 q (lf (lf l)) W h hl3)
  have hx := bs_toList (wd l)
  clear hu hn hl
  by_cases h0 : wd l = []
  · rw [show roundR l = some ⟨2, 0, [], false, false⟩ by unfold roundR; rw [if_pos h0]]
    have he : (bs (wd l)).toList.isEmpty = true := by rw [hx, h0]; rfl
    generalize bs (wd l) = t at *
    clear hx h0 K2 K3
    go_enter Tryd.func16, Tryd.ntmps16
    go_wp2_with (first | (go_at_call 18; refine (unhide K1 _ (unhide HU)).mono ?_; rintro e w1 ⟨rfl, hu1, hl1⟩; have HP1 := hide ((unhide HP).step hl1); have HU1 := hide hu1; have HN1 := hide ((unhide HN).lone hl1 hq); have C1 := hide (row_lone (unhide CB) hl1 (unhide HQ)); clear hu1 hl1 K1) | (with_reducible change wpList _ _ _ ({ dst := some 21, op := Op.load 23 _, type := _, pos := _, after := _, guard := _ } :: _) _ _; refine wpList_load_row rfl 23 _ rfl (w.heap.size + 1) rfl 23 _ _ _ (unhide C1) Tryd.underlying23 rfl (by kernel_rfl) ?_) | (with_reducible change wpList _ _ _ ({ dst := none, op := Op.store 23 (Operand.tmp 2) _, type := _, pos := _, after := _, guard := _ } :: _) _ _; refine wpList_store_row rfl 23 _ _ rfl w.heap.size #[.int .i64 2, .int .i64 0, .string ⟨#[]⟩, .bool false, .bool false] rfl rfl 23 zA (unhide HP1).row (by kernel_rfl) rfl (by kernel_rfl) ?_))
    refine bodyPost_ret (v := atV ⟨2, 0, [], false, false⟩) ?_ rfl ?_
    · exact results_cell_row rfl _ _ w.heap.size 23 _ (0, 0) _ rfl ((unhide HP1).got _) Tryd.underlying23 rfl (by kernel_rfl)
    exact ⟨rfl, (unhide HP1).done _⟩

  have he0 : (bs (wd l)).toList.isEmpty = false := by rw [hx]; generalize wd l = y at *; cases y; exact absurd rfl h0; rfl
  by_cases h1 : wd l = [108, 111, 115, 101]
  · have he1 : ((bs (wd l)).toList == [108, 111, 115, 101]) = true := by rw [hx, h1]; rfl
    have hR : roundR l = (lostF (wd (lf l))).bind fun p => if tr (lf (lf l)) = [] then some ⟨2, 0, [], p.1, p.2⟩ else none := by unfold roundR; rw [if_neg h0, if_pos h1]
    generalize bs (wd l) = t at *
    clear hx h0 h1
    cases hlo : lostF (wd (lf l)) with
    | none =>
      rw [show roundR l = none by rw [hR, hlo]; rfl]
      rw [hlo] at K2
      clear hR hlo
      go_enter Tryd.func16, Tryd.ntmps16
      go_wp2_with (first | (go_at_call 18; refine (unhide K1 _ (unhide HU)).mono ?_; rintro e w1 ⟨rfl, hu1, hl1⟩; have HP1 := hide ((unhide HP).step hl1); have HU1 := hide hu1; have HN1 := hide ((unhide HN).lone hl1 hq); have C1 := hide (row_lone (unhide CB) hl1 (unhide HQ)); clear hu1 hl1 K1) | (go_at_call 23; refine (unhide K2 _ (unhide HU1) (unhide HN1)).mono ?_; rintro e w2 ⟨rfl, hl2⟩))
      exact ⟨rfl, rfl, ((unhide HP1).step hl2).lone⟩
    | some p =>
      obtain ⟨p1, p2⟩ := p
      rw [hlo] at K2
      by_cases ht : tr (lf (lf l)) = []
      · rw [show roundR l = some ⟨2, 0, [], p1, p2⟩ by rw [hR, hlo]; simp only [Option.bind]; rw [if_pos ht]]
        rw [if_pos ht] at K3
        clear hR hlo ht
        go_enter Tryd.func16, Tryd.ntmps16
        go_wp2_with (first | (go_at_call 18; refine (unhide K1 _ (unhide HU)).mono ?_; rintro e w1 ⟨rfl, hu1, hl1⟩; have HP1 := hide ((unhide HP).step hl1); have HU1 := hide hu1; have HN1 := hide ((unhide HN).lone hl1 hq); have C1 := hide (row_lone (unhide CB) hl1 (unhide HQ)); clear hu1 hl1 K1) | (go_at_call 23; refine (unhide K2 _ (unhide HU1) (unhide HN1)).mono ?_; rintro e w2 ⟨rfl, hu2, hl2⟩; have C2 := row_lone (unhide C1) hl2 (unhide HQ); have D2 := row_set (i := 3) (v := .bool p1) C2; have D3 := row_set (i := 4) (v := .bool p2) D2; have c3 := row_cell (i := 3) C2; have f3 := row_free (i := 3) C2; have c4 := row_cell (i := 4) D2; have f4 := row_free (i := 4) D2; have HP2 := hide ((((unhide HP1).step hl2).set (c := w.heap.size + 1) (i := 3) (v := .bool p1) (by omega) (by omega)).set (c := w.heap.size + 1) (i := 4) (v := .bool p2) (by omega) (by omega)); have HU2 := hide ((hu2.setO (i := 3) (v := .bool p1) (unhide HQ)).setO (i := 4) (v := .bool p2) (unhide HQ)); have C3 := hide D3; clear D2 D3 C2 hl2 hu2 K2; simp at c3 c4) | (go_at_call 24; refine (unhide K3 _ (unhide HU2)).mono ?_; rintro e w3 ⟨rfl, _, hl3⟩; have HP3 := hide ((unhide HP2).step hl3); have C4 : Hid (w3.heap[w.heap.size + 1]? = some (.cells #[.int .i64 2, .int .i64 0, .string ⟨#[]⟩, .bool p1, .bool p2] 23 (0, 0))) := hide (row_lone (unhide C3) hl3 (unhide HQ)); clear hl3 K3 c3 c4 f3 f4) | (with_reducible change wpList _ _ _ ({ dst := some 21, op := Op.load 23 _, type := _, pos := _, after := _, guard := _ } :: _) _ _; refine wpList_load_row rfl 23 _ rfl (w.heap.size + 1) rfl 23 _ _ _ (unhide C4) Tryd.underlying23 rfl (by kernel_rfl) ?_) | (with_reducible change wpList _ _ _ ({ dst := none, op := Op.store 23 (Operand.tmp 2) _, type := _, pos := _, after := _, guard := _ } :: _) _ _; refine wpList_store_row rfl 23 _ _ rfl w.heap.size #[.int .i64 2, .int .i64 0, .string ⟨#[]⟩, .bool p1, .bool p2] rfl rfl 23 zA (unhide HP3).row (by kernel_rfl) rfl (by kernel_rfl) ?_))
        refine bodyPost_ret (v := atV ⟨2, 0, [], p1, p2⟩) ?_ rfl ?_
        · exact results_cell_row rfl _ _ w.heap.size 23 _ (0, 0) _ rfl ((unhide HP3).got _) Tryd.underlying23 rfl (by kernel_rfl)
        exact ⟨rfl, (unhide HP3).done _⟩

      · rw [show roundR l = none by rw [hR, hlo]; simp only [Option.bind]; rw [if_neg ht]]
        rw [if_neg ht] at K3
        clear hR hlo ht
        go_enter Tryd.func16, Tryd.ntmps16
        go_wp2_with (first | (go_at_call 18; refine (unhide K1 _ (unhide HU)).mono ?_; rintro e w1 ⟨rfl, hu1, hl1⟩; have HP1 := hide ((unhide HP).step hl1); have HU1 := hide hu1; have HN1 := hide ((unhide HN).lone hl1 hq); have C1 := hide (row_lone (unhide CB) hl1 (unhide HQ)); clear hu1 hl1 K1) | (go_at_call 23; refine (unhide K2 _ (unhide HU1) (unhide HN1)).mono ?_; rintro e w2 ⟨rfl, hu2, hl2⟩; have C2 := row_lone (unhide C1) hl2 (unhide HQ); have D2 := row_set (i := 3) (v := .bool p1) C2; have D3 := row_set (i := 4) (v := .bool p2) D2; have c3 := row_cell (i := 3) C2; have f3 := row_free (i := 3) C2; have c4 := row_cell (i := 4) D2; have f4 := row_free (i := 4) D2; have HP2 := hide ((((unhide HP1).step hl2).set (c := w.heap.size + 1) (i := 3) (v := .bool p1) (by omega) (by omega)).set (c := w.heap.size + 1) (i := 4) (v := .bool p2) (by omega) (by omega)); have HU2 := hide ((hu2.setO (i := 3) (v := .bool p1) (unhide HQ)).setO (i := 4) (v := .bool p2) (unhide HQ)); have C3 := hide D3; clear D2 D3 C2 hl2 hu2 K2; simp at c3 c4) | (go_at_call 24; refine (unhide K3 _ (unhide HU2)).mono ?_; rintro e w3 ⟨rfl, hl3⟩; have HP3 := hide ((unhide HP2).step hl3)))
        exact ⟨rfl, rfl, (unhide HP3).lone⟩
  · have he1 : ((bs (wd l)).toList == [108, 111, 115, 101]) = false := by rw [hx]; simpa using h1
    rw [show roundR l = none by unfold roundR; rw [if_neg h0, if_neg h1]]
    generalize bs (wd l) = t at *
    clear hx h0 h1 K2 K3
    go_enter Tryd.func16, Tryd.ntmps16
    go_wp2_with (go_at_call 18; refine (unhide K1 _ (unhide HU)).mono ?_; rintro e w1 ⟨rfl, hu1, hl1⟩; have HP1 := hide ((unhide HP).step hl1); have HU1 := hide hu1; have HN1 := hide ((unhide HN).lone hl1 hq); have C1 := hide (row_lone (unhide CB) hl1 (unhide HQ)); clear hu1 hl1 K1)
    exact ⟨rfl, rfl, (unhide HP1).lone⟩
end Go.Proofs.YtbkcgkffafjbgaaDoor
