/- A console, by the specification: its answer to a text. -/
import Derived.Test.YtbkcgkffafjbgaaGreatDoorSps
import Derived.Test.YtbkcgkffafjbgaaGreatDoorGp
import Derived.Test.YtbkcgkffafjbgaaGreatDoorGl
import Derived.Test.YtbkcgkffafjbgaaGreatDoorRdr
import Derived.Test.YtbkcgkffafjbgaaGreatDoorGo
import Derived.OrdersHeld
namespace Go.Proofs.YtbkcgkffafjbgaaGreatDoor
open Go.RowKit
set_option maxHeartbeats 4000000
set_option maxRecDepth 100000
set_option linter.unusedVariables false
theorem words_one (x : By) (h : wd x ≠ []) : (wds x).length = 1 ↔ wd (rs x) = [] := by
  rw [wds_eq, if_neg h]
  rw [wds_eq (rs x)]
  split <;> simp_all
theorem words_head (x : By) (h : wd x ≠ []) : ((wds x).map bs).getD 0 noS = bs (wd x) := by
  rw [wds_eq, if_neg h]
  rfl
theorem words_none (x : By) (h : wd x = []) : wds x = [] := by rw [wds_eq, if_pos h]
theorem head_int (y : By) (b : Bool) (hb : decide (y.head? = some 35) = b) : ∀ (h : 0 < (bs y).size), (((((bs y)[0]'h).toNat : Nat) : Int) == 35) = b := by
  intro h
  rw [← hb, bs_at]
  cases y with
  | nil => simp [bs_size] at h
  | cons a t =>
    rw [Bool.eq_iff_iff, beq_iff_eq, decide_eq_true_iff]
    simp only [List.getD_cons_zero, List.head?_cons]
    constructor
    · intro h; congr 1; apply UInt8.toNat.inj; simpa using (show a.toNat = 35 by omega)
    · intro h; injection h with h; subst h; rfl
theorem exec_app (ev : Operand → Value) (o : Oper) (x y : Operand) {vx v' : Value} {s : ByteArray} {w w' : World} (ho : o.op = .call { callee := .builtin .append, args := #[x, y], argTypes := #[22, 9] }) (hx : ev x = vx) (hy : ev y = .string s) (hr : (Builtin.append_ #[22, 9] o.type #[vx, .string s]).run Tryz.prog w = .ok v' w') :
    (execOp ev o).run Tryz.prog w = .ok (.value v') w' := by
  unfold execOp
  simp only [ho, resolve, invoke, builtin, Sem.run_bind, Sem.run_pure, Result.andThen_ok, List.map_toArray, List.map_cons, List.map_nil, hx, hy, hr]
theorem act_none {x : By} (h1 : wd x ≠ [115, 97, 121]) (h2 : wd x ≠ [114, 111, 117, 110, 100]) (h3 : wd x ≠ [104, 97, 110, 103]) : actR x = none := by
  unfold actR
  rw [if_neg h1, if_neg h2, if_neg h3]
theorem con10 (l : By) (w : World) (hl : l.length ≤ maxLen) :
    Calls Tryz.prog 10 #[.string (bs l)] w fun e w' => e = .returned (conV l) ∧ Below w.heap.size w w' := by
  have hs := bs_size l
  unfold maxLen at hl
  have q9 : ((bs l).size : Int) ≤ 9223372036854775807 := by omega
  by_cases h : 65536 < l.length
  · rw [show conV l = .tuple #[.string ⟨#[]⟩, .int .i64 2] by unfold conV; rw [if_pos h]]
    have q1 : (65536 : Int) < ((bs l).size : Int) := by omega
    clear h hs hl
    generalize bs l = lt at *
    go_enter Tryz.func10, Tryz.ntmps10
    go_wp2
    go_ret2
    exact ⟨rfl, Below.refl _ _⟩
  · have q1 : ((bs l).size : Int) ≤ 65536 := by omega
    have K20 := cut20 l w (by omega)
    rw [show conV l = if 100 < (linesL l).length then .tuple #[.string ⟨#[]⟩, .int .i64 6] else .tuple #[.string (bs (linesF (linesL l))), .int .i64 0] by unfold conV; rw [if_neg h]]
    have hn := cutF_ne l
    obtain ⟨n, hn1⟩ : ∃ n, (cutF l).length = n + 1 := ⟨(cutF l).length - 1, by have := List.length_pos_iff.2 hn; omega⟩
    have hlen := cut_len l
    have hlast : (cutF l)[n]? = (cutF l).getLast? := by rw [List.getLast?_eq_getElem?, hn1]; rfl
    obtain ⟨x, hx⟩ : ∃ x, (cutF l)[n]? = some x := ⟨_, List.getElem?_eq_getElem (by omega)⟩
    have hL : linesL l = if x = [] then (cutF l).dropLast else cutF l := by
      unfold linesL
      rw [← hlast, hx]
      simp
    have hLl : (linesL l).length = if x = [] then n else n + 1 := by
      rw [hL]
      split <;> simp [hn1]
    have hrow : Hid (∀ (W : World) (gl cap : Nat), W.ownsRow w.heap.size 9 1 (.slice (some ⟨gl, 0, none⟩) (cutF l).length cap) (cutF l).length (((cutF l).map bs).map Value.string) → ∃ cur : Array Value, n + 1 ≤ cap ∧ W.heap[gl]? = some (.cells cur 9 (0, 0)) ∧ (∀ (j : Nat) (x : By), (cutF l)[j]? = some x → cur[j]? = some (Value.string (bs x)))) := hide (fun W gl cap h => by
      rcases h.2 with ⟨e, _⟩ | ⟨g, cap', cur, e, _, hg, hnc, _, hcs, ht⟩
      · cases e
      · injection e with e1 _ e3
        injection e1 with e1
        injection e1 with e1 _ _
        subst e1 e3
        refine ⟨cur, by omega, hg, fun j x hx => ?_⟩
        have hj : j < (cutF l).length := (List.getElem?_eq_some_iff.1 hx).1
        have e : cur.toList[j]? = (((cutF l).map bs).map Value.string)[j]? := by rw [← ht, List.getElem?_take_of_lt (by omega)]
        rw [← Array.getElem?_toList, e, List.getElem?_map, List.getElem?_map, hx]
        rfl)
    have hpre : Hid (∀ j y, (linesL l)[j]? = some y → (cutF l)[j]? = some y) := hide (fun j y hy => by
      obtain ⟨k, hk, _⟩ := lines_pre l
      rw [hk, List.getElem?_take] at hy
      split at hy
      · exact hy
      · cases hy)
    have hmem : Hid (∀ x ∈ linesL l, x.length ≤ 65536) := hide (fun x hx => by
      obtain ⟨k, hk, _⟩ := lines_pre l
      rw [hk] at hx
      have := cut_mem (List.mem_of_mem_take hx)
      omega)
    have hmk := make41
    have hxl := bs_toList x
    rw [hn1] at K20
    rw [hn1] at hrow
    have n65 : n ≤ 65536 := by omega
    have q3 : (0 : Int) ≤ (n : Int) := by omega
    have hX := hide hx
    generalize hls : linesL l = ls at *
    generalize bs l = lt at *
    clear hn hn1 hlen hlast hL hs hl h hx
    have HCL : Hid (∀ cur : Array Value, (∀ (j : Nat) (x : By), (cutF l)[j]? = some x → cur[j]? = some (Value.string (bs x))) → cur[n]? = some (Value.string (bs x))) := hide (fun cur h => h n x (unhide hX))
    by_cases h0 : x = []
    · rw [if_pos h0] at hLl
      have he : (bs x).toList.isEmpty = true := by rw [hxl, h0]; rfl
      have HM : Hid (n = ls.length) := hide hLl.symm
      clear hxl h0
      generalize bs x = xt at *
      by_cases h9 : 100 < ls.length
      · rw [if_pos h9]
        have q9 : (100 : Int) < (n : Int) := by omega
        clear h9 hmem hpre hLl
        go_enter Tryz.func10, Tryz.ntmps10
        go_wp2_with fail
        refine K20.mono ?_
        rintro e w2 ⟨gl, cap, rfl, o2, b2⟩
        obtain ⟨cur, hcap, hr2, hc2⟩ := unhide hrow w2 gl cap o2
        have cl := (row_cell (i := n) hr2).trans (unhide HCL cur hc2)
        have qc : ((n : Int) ≤ (cap : Int)) := by omega
        have HB2 := hide b2
        clear o2 b2 hr2 hc2
        go_wp2_with fail
        go_ret2
        exact ⟨rfl, unhide HB2⟩
      · rw [if_neg h9]
        have q9 : (n : Int) ≤ 100 := by omega
        have H9 : Hid (ls.length ≤ 100) := hide (by omega)
        clear h9 hLl
        go_enter Tryz.func10, Tryz.ntmps10
        go_wp2_with fail
        refine K20.mono ?_
        rintro e w2 ⟨gl, cap, rfl, o2, b2⟩
        obtain ⟨cur, hcap, hr2, hc2⟩ := unhide hrow w2 gl cap o2
        have cl := (row_cell (i := n) hr2).trans (unhide HCL cur hc2)
        have qc : ((n : Int) ≤ (cap : Int)) := by omega
        have HB2 := hide b2
        have HR2 := hide hr2
        have HC2 := hide hc2
        clear o2 b2 hr2 hc2
        go_wp2_with fail
        have hcell : Hid (∀ W : World, W.heap[gl]? = some (.cells cur 9 (0, 0)) → ∀ j x, ls[j]? = some x → W.cell? ⟨gl, j, none⟩ = some (.string (bs x))) := hide (fun W hW j x hx => (row_cell hW).trans (unhide HC2 j x (unhide hpre j x hx)))
        have HST : Hid (∃ (j g1 c1 : Nat), j ≤ n ∧ (Value.int .i64 0) = .int .i64 j ∧ (Value.slice (some ⟨w2.heap.size + 1, 0, none⟩) 0 0) = .slice (some ⟨g1, 0, none⟩) (conF (ls.take j) ⟨pe0, pe0⟩ []).2.length c1 ∧ SC w.heap.size g1 c1 ((w2.alloc zP8).alloc (.cells #[] 5)) (.slice (some ⟨w2.heap.size, 0, none⟩) 2 2) (conF (ls.take j) ⟨pe0, pe0⟩ []).1 (conF (ls.take j) ⟨pe0, pe0⟩ []).2 ∧ Below w.heap.size w ((w2.alloc zP8).alloc (.cells #[] 5)) ∧ ((w2.alloc zP8).alloc (.cells #[] 5)).heap[gl]? = some (.cells cur 9 (0, 0))) := hide (by
          have bA : Below w2.heap.size w2 ((w2.alloc zP8).alloc (.cells #[] 5)) := bl_al (bl_al (Below.refl _ _))
          refine ⟨0, w2.heap.size + 1, 0, by omega, rfl, rfl, ⟨(tw0_row w2).below (bl_al (Below.refl _ _)), ?_, (offT_size (tw0_row w2) (by simp)).below (bl_al (Below.refl _ _))⟩, bl_st bA (unhide HB2), (bA.block _ (Array.getElem?_eq_some_iff.1 (unhide HR2)).1).trans (unhide HR2)⟩
          have := World.ownsRow_made (base := w.heap.size) (e := 5) (size := 1) (w2.alloc zP8) #[] 0 (by have := (unhide HB2).size; simp; omega) (Nat.zero_le _) rfl
          simpa [Lib.byteCells, conF] using this)
        clear HC2 hpre cl hcap qc
        generalize n = m at *
        have qm : (m : Int) ≤ 100 := by have := unhide H9; have := unhide HM; omega
        go_loopw [5, 6, 7] (fun lv ov i wr => ∃ (j g1 c1 : Nat), j ≤ m ∧ i = .int .i64 j ∧ ov = .slice (some ⟨g1, 0, none⟩) (conF (ls.take j) ⟨pe0, pe0⟩ []).2.length c1 ∧ SC w.heap.size g1 c1 wr lv (conF (ls.take j) ⟨pe0, pe0⟩ []).1 (conF (ls.take j) ⟨pe0, pe0⟩ []).2 ∧ Below w.heap.size w wr ∧ wr.heap[gl]? = some (.cells cur 9 (0, 0))) (fun _ _ i _ => m - (intOf i).toNat)
        case atStart => exact unhide HST
        case round =>
          obtain ⟨j, g1, c1, hj, rfl, rfl, hsc, hb, hr⟩ := hrel
          clear HST
          by_cases h8 : j = m
          · subst h8
            have e9 : (conF (ls.take j) ⟨pe0, pe0⟩ []).2 = linesF ls := by rw [unhide HM, List.take_length]; rfl
            have K := own_str (xs := (conF (ls.take j) ⟨pe0, pe0⟩ []).2.map fun u => (u.toNat : Int)) (by have := hsc.own; unfold Lib.byteCells at this; rw [List.map_map]; exact this) (by simp)
            rw [show strOfNums ((conF (ls.take j) ⟨pe0, pe0⟩ []).2.map fun u => (u.toNat : Int)) = bs (linesF ls) by rw [e9]; unfold strOfNums bs; congr 2; rw [List.map_map]; apply List.map_id''; intro u; simp] at K
            have HB9 := hide hb
            generalize (conF (ls.take j) ⟨pe0, pe0⟩ []).2.length = tl at *
            clear hsc hb hr hj hmem hcell e9
            go_wp2
            go_ret2
            exact ⟨rfl, unhide HB9⟩
          · have hlt : j < m := by omega
            have q1 : (j : Int) < (m : Int) := by omega
            obtain ⟨x, hx⟩ : ∃ x, ls[j]? = some x := ⟨_, List.getElem?_eq_getElem (by rw [← unhide HM]; exact hlt)⟩
            have cc := unhide hcell wr hr j x hx
            have hxl := unhide hmem x (List.mem_of_getElem? hx)
            have hok := conF_ok (ls.take j) (z := ⟨pe0, pe0⟩) [] ok2_zero
            have he := conF_at ls j x hx ⟨pe0, pe0⟩
            obtain ⟨z, t, hzt⟩ : ∃ z t, conF (ls.take j) ⟨pe0, pe0⟩ [] = (z, t) := ⟨_, _, rfl⟩
            rw [hzt] at he hok hsc ⊢
            dsimp only at he hok hsc ⊢
            obtain ⟨hok, htl⟩ := hok
            have HT : Hid (t.length ≤ 1000000) := hide (by have := unhide H9; simp only [List.length_nil, List.length_take] at htl; omega)
            have K15 := hide (words7 x wr hxl)
            have K16 := hide (fun v W hv hne => read8 x v W hv hne hxl)
            have HCJ : Hid (∀ W : World, W.heap[gl]? = some (.cells cur 9 (0, 0)) → W.cell? ⟨gl, j, none⟩ = some (.string (bs x))) := hide (fun W hW => unhide hcell W hW j x hx)
            have HSC := hide hsc
            have HB := hide hb
            have HR := hide hr
            have HE := hide he
            have HOK := hide hok
            have HJ := hide hlt
            clear hsc hb hr he hok hlt hj h8 hx hxl htl hzt hmem hcell HM
            by_cases w0 : wd x = []
            · have HE2 : Hid (conF (ls.take (j + 1)) ⟨pe0, pe0⟩ [] = (z, t)) := hide (by rw [unhide HE]; unfold lineF; rw [if_pos (Or.inl w0)]; simp)
              have en := words_none x w0
              rw [en] at K15
              generalize bs x = xt at *
              clear w0 en K16
              go_wp2_with fail
              refine (unhide K15).mono ?_
              rintro e w2 ⟨v8, rfl, s8, b2⟩
              obtain ⟨A8, c8, rfl, _⟩ := s8
              have HSC2 := hide ((unhide HSC).below b2)
              have HB2 := hide (bl_st b2 (unhide HB))
              have HR2 := hide ((b2.block _ (Array.getElem?_eq_some_iff.1 (unhide HR)).1).trans (unhide HR))
              clear b2
              simp only [List.map_nil, List.length_nil]
              go_wp2
              go_round
              case rel => exact ⟨j + 1, g1, c1, unhide HJ, by go_num, by rw [unhide HE2], by rw [unhide HE2]; exact unhide HSC2, unhide HB2, unhide HR2⟩
              case measure => have := unhide HJ; simp [intOf]; omega
            have W0 := hide w0
            have hnw : 0 < ((wds x).map bs).length := by rw [wds_eq, if_neg w0]; simp
            have hone := words_one x w0
            have hhd := words_head x w0
            have hsz : 0 < (bs (wd x)).size := by rw [bs_size]; exact List.length_pos_iff.2 w0
            have hwl := bs_toList (wd x)
            by_cases h35 : (wd x).head? = some 35
            · have HE2 : Hid (conF (ls.take (j + 1)) ⟨pe0, pe0⟩ [] = (z, t)) := hide (by rw [unhide HE]; unfold lineF; rw [if_pos (Or.inr h35)]; simp)
              have e35 := head_int (wd x) true (decide_eq_true h35)
              obtain ⟨nw, hnwe⟩ : ∃ nw, nw = ((wds x).map bs).length := ⟨_, rfl⟩
              have nw0 : ((((wds x).map bs).length : Int) == 0) = false := by rw [beq_eq_false_iff_ne]; omega
              have nwp : (0 : Int) < (((wds x).map bs).length : Int) := by omega
              clear hone hwl hnwe
              go_wp2_with fail
              refine (unhide K15).mono ?_
              rintro e w2 ⟨v8, rfl, s8, b2⟩
              have HV8 := hide s8
              obtain ⟨A8, c8, rfl, h8⟩ := s8
              obtain ⟨b8, o8, rfl, hl8, hc8⟩ := h8 hnw
              have wc := hc8 0 hnw
              rw [hhd, Nat.add_zero] at wc
              have HSC2 := hide ((unhide HSC).below b2)
              have HB2 := hide (bl_st b2 (unhide HB))
              have HR2 := hide ((b2.block _ (Array.getElem?_eq_some_iff.1 (unhide HR)).1).trans (unhide HR))
              have cc2 := unhide HCJ w2 (unhide HR2)
              generalize ((wds x).map bs).length = nw at *
              generalize bs (wd x) = wt at *
              clear b2 hl8 hc8 hhd h8
              go_wp2
              go_round
              case rel => exact ⟨j + 1, g1, c1, unhide HJ, by go_num, by rw [unhide HE2], by rw [unhide HE2]; exact unhide HSC2, unhide HB2, unhide HR2⟩
              case measure => have := unhide HJ; simp [intOf]; omega
            have e35 := head_int (wd x) false (decide_eq_false h35)
            have HN35 : Hid (¬ (wd x = [] ∨ (wd x).head? = some 35)) := hide (fun e => e.elim w0 h35)
            by_cases hq : wd x = queueB
            · have hqe : ((bs (wd x)).toList == [113, 117, 101, 117, 101]) = true := by rw [hwl, hq]; rfl
              by_cases h1 : wd (rs x) = []
              · have HE2 : Hid (conF (ls.take (j + 1)) ⟨pe0, pe0⟩ [] = (z, t ++ queB z)) := hide (by rw [unhide HE]; unfold lineF; rw [if_neg (unhide HN35), if_pos ⟨hq, h1⟩])
                have n1 : ((((wds x).map bs).length : Int) == 1) = true := by
                  have := hone.2 h1
                  simp [this]
                clear h1 hq h35 w0
                obtain ⟨nw, hnwe⟩ : ∃ nw, nw = ((wds x).map bs).length := ⟨_, rfl⟩
                have nw0 : ((((wds x).map bs).length : Int) == 0) = false := by rw [beq_eq_false_iff_ne]; omega
                have nwp : (0 : Int) < (((wds x).map bs).length : Int) := by omega
                clear hone hwl hnwe
                go_wp2_with fail
                refine (unhide K15).mono ?_
                rintro e w2 ⟨v8, rfl, s8, b2⟩
                have HV8 := hide s8
                obtain ⟨A8, c8, rfl, h8⟩ := s8
                obtain ⟨b8, o8, rfl, hl8, hc8⟩ := h8 hnw
                have wc := hc8 0 hnw
                rw [hhd, Nat.add_zero] at wc
                have HSC2 := hide ((unhide HSC).below b2)
                have HB2 := hide (bl_st b2 (unhide HB))
                have HR2 := hide ((b2.block _ (Array.getElem?_eq_some_iff.1 (unhide HR)).1).trans (unhide HR))
                have cc2 := unhide HCJ w2 (unhide HR2)
                generalize ((wds x).map bs).length = nw at *
                generalize bs (wd x) = wt at *
                clear b2 hl8 hc8 hhd h8
                have n8 := (unhide HOK).pb.1.q
                have n9 := (unhide HOK).pb.2.q
                have K0 := hide (fun W => digit21 z.x.q.length W (by omega))
                have K1 := hide (fun W => digit21 z.y.q.length W (by omega))
                have es : (bs (digB z.x.q.length) ++ ⟨#[32]⟩ ++ bs (digB z.y.q.length) ++ ⟨#[10]⟩ : ByteArray).data.toList = queB z := by simp [bs_list, queB]
                have HES := hide es
                have d0 : (bs (digB z.x.q.length)).size = 1 := by rw [bs_size]; rfl
                have d1 : (bs (digB z.y.q.length)).size = 1 := by rw [bs_size]; rfl
                obtain ⟨g, c, A0, r0, C0, r1, A1, r2, C1, r3, rest, elv, hc2, hrw, _, _⟩ := (unhide HSC2).tw.open
                subst elv
                have m0 : (z.x.q.length : Int) ≤ 9223372036854775807 := by omega
                have m1 : (z.y.q.length : Int) ≤ 9223372036854775807 := by omega
                have HRW := hide hrw
                generalize z.x.q.length = n0 at *
                generalize z.y.q.length = n1 at *
                generalize bs (digB n0) = x0 at *
                generalize bs (digB n1) = x1 at *
                clear hrw es n8 n9 hc2 K16
                go_wp2_with fail
                clear wc cc2
                refine wp_region_held (S := fun W => W.cell? ⟨g, 0, none⟩ = some (.slice A0 n0 r0) ∧ W.cell? ⟨g, 4, none⟩ = some (.slice A1 n1 r2)) (by kernel_rfl) ?_
                have hS0 : Below w2.heap.size w2 { w2 with drawn := w2.drawn + 1 } := below_drewN (Below.refl _ _) 1
                obtain ⟨w3, hw3⟩ : ∃ x, x = ({ w2 with drawn := w2.drawn + 1 } : World) := ⟨_, rfl⟩
                rw [← hw3] at hS0 ⊢
                clear hw3
                have R3 := (unhide HRW).below hS0
                have S3 : w3.cell? ⟨g, 0, none⟩ = some (.slice A0 n0 r0) ∧ w3.cell? ⟨g, 4, none⟩ = some (.slice A1 n1 r2) := ⟨R3.c0, R3.c4⟩
                refine wpAnyH_take (i := 0) (oi := { dst := some 65, op := Op.move (Operand.tmp 6), type := 22, pos := "l16_console.go:101", after := #[], guard := none }) (v := ?_) rfl (by kernel_rfl) (by kernel_rfl) (by kernel_rfl) (fun _ _ _ h => h) (Or.inl ⟨by rfl, ?_⟩) S3 ?_
                rotate_left
                · intro W hSw
                  obtain ⟨y0, y1⟩ := hSw
                  go_simp
                  try with_reducible rfl
                simp only [Act.put, List.setIfInBounds_toArray, List.set_cons_zero, List.set_cons_succ]
                refine wpAnyH_take (i := 1) (oi := { dst := some 66, op := Op.move (Operand.tmp 5), type := 41, pos := "l16_console.go:101", after := #[], guard := none }) (v := ?_) rfl (by kernel_rfl) (by kernel_rfl) (by kernel_rfl) (fun _ _ _ h => h) (Or.inl ⟨by rfl, ?_⟩) S3 ?_
                rotate_left
                · intro W hSw
                  obtain ⟨y0, y1⟩ := hSw
                  go_simp
                  try with_reducible rfl
                simp only [Act.put, List.setIfInBounds_toArray, List.set_cons_zero, List.set_cons_succ]
                refine wpAnyH_take (i := 2) (oi := { dst := some 67, op := Op.indexAddr 41 (Operand.tmp 66) (Operand.const (Value.int IntKind.i64 0)), type := 0, pos := "l16_console.go:101", after := #[{ on := 1, ground := Ground.data }], guard := none }) (v := ?_) rfl (by kernel_rfl) (by kernel_rfl) (by kernel_rfl) (fun _ _ _ h => h) (Or.inl ⟨by rfl, ?_⟩) S3 ?_
                rotate_left
                · intro W hSw
                  obtain ⟨y0, y1⟩ := hSw
                  go_simp
                  try with_reducible rfl
                simp only [Act.put, List.setIfInBounds_toArray, List.set_cons_zero, List.set_cons_succ]
                refine wpAnyH_take (i := 3) (oi := { dst := some 68, op := Op.fieldAddr 53 (Operand.tmp 67) 0, type := 0, pos := "l16_console.go:101", after := #[{ on := 2, ground := Ground.data }], guard := none }) (v := ?_) rfl (by kernel_rfl) (by kernel_rfl) (by kernel_rfl) (fun _ _ _ h => h) (Or.inl ⟨by rfl, ?_⟩) S3 ?_
                rotate_left
                · intro W hSw
                  obtain ⟨y0, y1⟩ := hSw
                  go_simp
                  try with_reducible rfl
                simp only [Act.put, List.setIfInBounds_toArray, List.set_cons_zero, List.set_cons_succ]
                refine wpAnyH_take (i := 4) (oi := { dst := some 69, op := Op.load 23 (Operand.tmp 68), type := 23, pos := "l16_console.go:101", after := #[{ on := 3, ground := Ground.data }], guard := none }) (v := ?_) rfl (by kernel_rfl) (by kernel_rfl) (by kernel_rfl) (fun _ _ _ h => h) (Or.inl ⟨by rfl, ?_⟩) S3 ?_
                rotate_left
                · intro W hSw
                  obtain ⟨y0, y1⟩ := hSw
                  go_simp
                  try with_reducible rfl
                simp only [Act.put, List.setIfInBounds_toArray, List.set_cons_zero, List.set_cons_succ]
                refine wpAnyH_take (i := 5) (oi := { dst := some 70, op := Op.call { callee := Callee.builtin Builtin.len, args := #[Operand.tmp 69], argTypes := #[23] }, type := 3, pos := "l16_console.go:101", after := #[{ on := 4, ground := Ground.data }], guard := none }) (v := ?_) rfl (by kernel_rfl) (by kernel_rfl) (by kernel_rfl) (fun _ _ _ h => h) (Or.inl ⟨by rfl, ?_⟩) S3 ?_
                rotate_left
                · intro W hSw
                  obtain ⟨y0, y1⟩ := hSw
                  go_simp
                  try with_reducible rfl
                simp only [Act.put, List.setIfInBounds_toArray, List.set_cons_zero, List.set_cons_succ]
                refine wpAnyH_take (i := 8) (oi := { dst := some 73, op := Op.move (Operand.tmp 5), type := 41, pos := "l16_console.go:101", after := #[], guard := none }) (v := ?_) rfl (by kernel_rfl) (by kernel_rfl) (by kernel_rfl) (fun _ _ _ h => h) (Or.inl ⟨by rfl, ?_⟩) S3 ?_
                rotate_left
                · intro W hSw
                  obtain ⟨y0, y1⟩ := hSw
                  go_simp
                  try with_reducible rfl
                simp only [Act.put, List.setIfInBounds_toArray, List.set_cons_zero, List.set_cons_succ]
                refine wpAnyH_take (i := 9) (oi := { dst := some 74, op := Op.indexAddr 41 (Operand.tmp 73) (Operand.const (Value.int IntKind.i64 1)), type := 0, pos := "l16_console.go:101", after := #[{ on := 8, ground := Ground.data }], guard := none }) (v := ?_) rfl (by kernel_rfl) (by kernel_rfl) (by kernel_rfl) (fun _ _ _ h => h) (Or.inl ⟨by rfl, ?_⟩) S3 ?_
                rotate_left
                · intro W hSw
                  obtain ⟨y0, y1⟩ := hSw
                  go_simp
                  try with_reducible rfl
                simp only [Act.put, List.setIfInBounds_toArray, List.set_cons_zero, List.set_cons_succ]
                refine wpAnyH_take (i := 10) (oi := { dst := some 75, op := Op.fieldAddr 53 (Operand.tmp 74) 0, type := 0, pos := "l16_console.go:101", after := #[{ on := 9, ground := Ground.data }], guard := none }) (v := ?_) rfl (by kernel_rfl) (by kernel_rfl) (by kernel_rfl) (fun _ _ _ h => h) (Or.inl ⟨by rfl, ?_⟩) S3 ?_
                rotate_left
                · intro W hSw
                  obtain ⟨y0, y1⟩ := hSw
                  go_simp
                  try with_reducible rfl
                simp only [Act.put, List.setIfInBounds_toArray, List.set_cons_zero, List.set_cons_succ]
                refine wpAnyH_take (i := 11) (oi := { dst := some 76, op := Op.load 23 (Operand.tmp 75), type := 23, pos := "l16_console.go:101", after := #[{ on := 10, ground := Ground.data }], guard := none }) (v := ?_) rfl (by kernel_rfl) (by kernel_rfl) (by kernel_rfl) (fun _ _ _ h => h) (Or.inl ⟨by rfl, ?_⟩) S3 ?_
                rotate_left
                · intro W hSw
                  obtain ⟨y0, y1⟩ := hSw
                  go_simp
                  try with_reducible rfl
                simp only [Act.put, List.setIfInBounds_toArray, List.set_cons_zero, List.set_cons_succ]
                refine wpAnyH_take (i := 12) (oi := { dst := some 77, op := Op.call { callee := Callee.builtin Builtin.len, args := #[Operand.tmp 76], argTypes := #[23] }, type := 3, pos := "l16_console.go:101", after := #[{ on := 11, ground := Ground.data }], guard := none }) (v := ?_) rfl (by kernel_rfl) (by kernel_rfl) (by kernel_rfl) (fun _ _ _ h => h) (Or.inl ⟨by rfl, ?_⟩) S3 ?_
                rotate_left
                · intro W hSw
                  obtain ⟨y0, y1⟩ := hSw
                  go_simp
                  try with_reducible rfl
                simp only [Act.put, List.setIfInBounds_toArray, List.set_cons_zero, List.set_cons_succ]
                refine wpAnyH_one (i := 6) (by kernel_rfl) ?_
                refine wpOp_step (o := { dst := some 71, op := Op.call { callee := Callee.value (Operand.func 21), args := #[Operand.tmp 70], argTypes := #[3] }, type := 9, pos := "l16_console.go:101", after := #[{ on := 5, ground := Ground.data }], guard := none }) rfl fun K' hK => step_enterW (by rfl) 21 #[.int .i64 n0] (by go_simp) ?_
                refine (unhide K0 w3).mono ?_
                rintro e w4 ⟨rfl, b4⟩
                have R4 := R3.below b4
                have S4 : w4.cell? ⟨g, 0, none⟩ = some (.slice A0 n0 r0) ∧ w4.cell? ⟨g, 4, none⟩ = some (.slice A1 n1 r2) := ⟨R4.c0, R4.c4⟩

                refine ⟨_, rfl, hK _ _ ⟨S4, ?_⟩⟩
                simp only [Act.put, List.setIfInBounds_toArray, List.set_cons_zero, List.set_cons_succ]
                refine wpAnyH_take (i := 7) (oi := { dst := some 72, op := Op.binOp BinOp.add 9 (Operand.tmp 71) (Operand.const (Value.string { data := #[32] })) 9, type := 9, pos := "l16_console.go:101", after := #[{ on := 6, ground := Ground.data }], guard := none }) (v := ?_) rfl (by kernel_rfl) (by kernel_rfl) (by kernel_rfl) (fun _ _ _ h => h) (Or.inl ⟨by rfl, ?_⟩) S4 ?_
                rotate_left
                · intro W hSw
                  go_simp
                  first | with_reducible rfl | rw [if_neg (by omega)]
                simp only [Act.put, List.setIfInBounds_toArray, List.set_cons_zero, List.set_cons_succ]
                refine wpAnyH_one (i := 13) (by kernel_rfl) ?_
                refine wpOp_step (o := { dst := some 78, op := Op.call { callee := Callee.value (Operand.func 21), args := #[Operand.tmp 77], argTypes := #[3] }, type := 9, pos := "l16_console.go:101", after := #[{ on := 12, ground := Ground.data }, { on := 6, ground := Ground.chain }], guard := none }) rfl fun K' hK => step_enterW (by rfl) 21 #[.int .i64 n1] (by go_simp) ?_
                refine (unhide K1 w4).mono ?_
                rintro e w5 ⟨rfl, b5⟩
                have R5 := R4.below b5
                have S5 : w5.cell? ⟨g, 0, none⟩ = some (.slice A0 n0 r0) ∧ w5.cell? ⟨g, 4, none⟩ = some (.slice A1 n1 r2) := ⟨R5.c0, R5.c4⟩

                refine ⟨_, rfl, hK _ _ ⟨S5, ?_⟩⟩
                simp only [Act.put, List.setIfInBounds_toArray, List.set_cons_zero, List.set_cons_succ]
                refine wpAnyH_take (i := 14) (oi := { dst := some 79, op := Op.binOp BinOp.add 9 (Operand.tmp 72) (Operand.tmp 78) 9, type := 9, pos := "l16_console.go:101", after := #[{ on := 7, ground := Ground.data }, { on := 13, ground := Ground.data }], guard := none }) (v := ?_) rfl (by kernel_rfl) (by kernel_rfl) (by kernel_rfl) (fun _ _ _ h => h) (Or.inl ⟨by rfl, ?_⟩) S5 ?_
                rotate_left
                · intro W hSw
                  go_simp
                  first | with_reducible rfl | rw [if_neg (by omega)]
                simp only [Act.put, List.setIfInBounds_toArray, List.set_cons_zero, List.set_cons_succ]
                refine wpAnyH_take (i := 15) (oi := { dst := some 80, op := Op.binOp BinOp.add 9 (Operand.tmp 79) (Operand.const (Value.string { data := #[10] })) 9, type := 9, pos := "l16_console.go:101", after := #[{ on := 14, ground := Ground.data }], guard := none }) (v := ?_) rfl (by kernel_rfl) (by kernel_rfl) (by kernel_rfl) (fun _ _ _ h => h) (Or.inl ⟨by rfl, ?_⟩) S5 ?_
                rotate_left
                · intro W hSw
                  go_simp
                  first | with_reducible rfl | rw [if_neg (by omega)]
                simp only [Act.put, List.setIfInBounds_toArray, List.set_cons_zero, List.set_cons_succ]
                have hsx : ((x0 ++ ⟨#[32]⟩ ++ x1 ++ ⟨#[10]⟩) : ByteArray).size = 4 := by rw [ByteArray.size_append, ByteArray.size_append, ByteArray.size_append, d0, d1]; rfl
                have bb : Below w2.heap.size w2 w5 := bl_st b5 (bl_st b4 hS0)
                have SC5 := (unhide HSC2).below bb
                have HB5a := bl_st bb (unhide HB2)
                have HR5a := (bb.block _ (Array.getElem?_eq_some_iff.1 (unhide HR2)).1).trans (unhide HR2)
                obtain ⟨g2, c2, w6, hrun, o6, gr6, hg6⟩ := run_appS w5 w.heap.size g1 t.length c1 (Lib.byteCells t) SC5.own (x0 ++ ⟨#[32]⟩ ++ x1 ++ ⟨#[10]⟩) (by have := unhide HT; rw [hsx]; omega) (by have := HB5a.size; omega) 22
                have HSC5 := hide (SC5.app o6 gr6 hg6)
                have HB5 := hide (SC5.app_below gr6 HB5a (Nat.le_refl _) HB5a.size)
                have HR5 := hide (SC5.app_row gr6 HR5a (by decide))
                have R6 : row8 w6 g _ _ _ _ _ _ _ _ _ := SC5.app_row gr6 R5 (by decide)
                have S6 : w6.cell? ⟨g, 0, none⟩ = some (.slice A0 n0 r0) ∧ w6.cell? ⟨g, 4, none⟩ = some (.slice A1 n1 r2) := ⟨R6.c0, R6.c4⟩
                refine wpAnyH_one (i := 16) (by kernel_rfl) ?_
                refine wpOp_step (o := { dst := some 81, op := Op.call { callee := Callee.builtin Builtin.append, args := #[Operand.tmp 65, Operand.tmp 80], argTypes := #[22, 9] }, type := 22, pos := "l16_console.go:101", after := #[{ on := 0, ground := Ground.data }, { on := 15, ground := Ground.data }, { on := 13, ground := Ground.chain }], guard := none }) rfl fun K' hK => step_valueW (by rfl) (.slice (some ⟨g2, 0, none⟩) (t.length + ((x0 ++ ⟨#[32]⟩ ++ x1 ++ ⟨#[10]⟩) : ByteArray).size) c2) (w6) (by exact exec_app _ _ _ _ rfl rfl rfl hrun) ?_
                refine hK _ _ ⟨S6, ?_⟩
                simp only [Act.put, List.setIfInBounds_toArray, List.set_cons_zero, List.set_cons_succ]
                refine wpAnyH_take (i := 17) (oi := { dst := some 6, op := Op.assign (Operand.tmp 81), type := 22, pos := "l16_console.go:101", after := #[{ on := 16, ground := Ground.data }, { on := 16, ground := Ground.chain }, { on := 0, ground := Ground.phase }, { on := 1, ground := Ground.phase }, { on := 2, ground := Ground.phase }, { on := 3, ground := Ground.phase }, { on := 4, ground := Ground.phase }, { on := 5, ground := Ground.phase }, { on := 6, ground := Ground.phase }, { on := 7, ground := Ground.phase }, { on := 8, ground := Ground.phase }, { on := 9, ground := Ground.phase }, { on := 10, ground := Ground.phase }, { on := 11, ground := Ground.phase }, { on := 12, ground := Ground.phase }, { on := 13, ground := Ground.phase }, { on := 14, ground := Ground.phase }, { on := 15, ground := Ground.phase }, { on := 16, ground := Ground.phase }], guard := none }) (v := ?_) rfl (by kernel_rfl) (by kernel_rfl) (by kernel_rfl) (fun _ _ _ h => h) (Or.inl ⟨by rfl, ?_⟩) S6 ?_
                rotate_left
                · intro W hSw
                  go_simp
                  try with_reducible rfl
                simp only [Act.put, List.setIfInBounds_toArray, List.set_cons_zero, List.set_cons_succ]
                refine wpAnyH_done (by kernel_rfl) ?_ _
                have HSX := hide hsx
                clear S3 S4 S5 S6 R3 R4 R5 R6 hrun o6 gr6 hg6 SC5 HB5a HR5a bb b4 b5 hS0 hsx d0 d1
                go_wp2
                go_round
                case rel => exact ⟨j + 1, g2, c2, unhide HJ, by go_num, by rw [unhide HE2, ← unhide HES, List.length_append]; first | rfl | (rw [show (x0 ++ ⟨#[32]⟩ ++ x1 ++ ⟨#[10]⟩ : ByteArray).data.toList.length = 4 from unhide HSX]), by rw [unhide HE2, ← unhide HES]; exact unhide HSC5, unhide HB5, unhide HR5⟩
                case measure => have := unhide HJ; simp [intOf]; omega
              · have hnone : actR x = none := act_none (by rw [hq]; decide) (by rw [hq]; decide) (by rw [hq]; decide)
                have HE2 : Hid (conF (ls.take (j + 1)) ⟨pe0, pe0⟩ [] = (z, t ++ (⟨#[101, 114, 114, 111, 114, 32, 102, 111, 114, 109, 10]⟩ : ByteArray).data.toList)) := hide (by rw [unhide HE]; unfold lineF; rw [if_neg (unhide HN35), if_neg (fun e => h1 e.2)]; unfold doC; rw [hnone]; rfl)
                have n1 : ((((wds x).map bs).length : Int) == 1) = false := by
                  have : ¬ (wds x).length = 1 := fun e => h1 (hone.1 e)
                  simp; omega
                rw [hnone] at K16
                clear h1 hq h35 hnone w0
                obtain ⟨nw, hnwe⟩ : ∃ nw, nw = ((wds x).map bs).length := ⟨_, rfl⟩
                have nw0 : ((((wds x).map bs).length : Int) == 0) = false := by rw [beq_eq_false_iff_ne]; omega
                have nwp : (0 : Int) < (((wds x).map bs).length : Int) := by omega
                clear hone hwl hnwe
                go_wp2_with fail
                refine (unhide K15).mono ?_
                rintro e w2 ⟨v8, rfl, s8, b2⟩
                have HV8 := hide s8
                obtain ⟨A8, c8, rfl, h8⟩ := s8
                obtain ⟨b8, o8, rfl, hl8, hc8⟩ := h8 hnw
                have wc := hc8 0 hnw
                rw [hhd, Nat.add_zero] at wc
                have HSC2 := hide ((unhide HSC).below b2)
                have HB2 := hide (bl_st b2 (unhide HB))
                have HR2 := hide ((b2.block _ (Array.getElem?_eq_some_iff.1 (unhide HR)).1).trans (unhide HR))
                have cc2 := unhide HCJ w2 (unhide HR2)
                generalize ((wds x).map bs).length = nw at *
                generalize bs (wd x) = wt at *
                clear b2 hl8 hc8 hhd h8
                go_wp2_with fail
                refine (unhide K16 _ _ (unhide HV8) (unhide W0)).mono ?_
                rintro e w3 ⟨b3, cs, rfl, hcs, hi, h1⟩
                have B4 : Below w3.heap.size w3 ((w3.alloc (.cells zA 27)).setRow w3.heap.size cs) := below_setRow (bl_al (Below.refl _ _)) (Nat.le_refl _)
                have HSC4 := hide (((unhide HSC2).below b3).below B4)
                have HB4 := hide (bl_st B4 (bl_st b3 (unhide HB2)))
                have HR4 := hide ((B4.block _ (Array.getElem?_eq_some_iff.1 ((b3.block _ (Array.getElem?_eq_some_iff.1 (unhide HR2)).1).trans (unhide HR2))).1).trans ((b3.block _ (Array.getElem?_eq_some_iff.1 (unhide HR2)).1).trans (unhide HR2)))
                have H5 := hide (heap_alloc_new w3 (.cells zA 27))
                have HCS := hide hcs
                have HI := hide hi
                have H1 := hide h1
                clear b3 B4 hcs hi h1 wc cc2
                go_wp2_with (first | (with_reducible change wpList _ _ _ ({ dst := none, op := Op.store 27 (Operand.tmp 9) _, type := _, pos := _, after := _, guard := _ } :: _) _ _; refine wpList_store_row rfl 27 _ _ rfl w3.heap.size cs rfl rfl 27 zA (unhide H5) (unhide HI) (unhide HCS) (unhide H1) ?_; generalize (w3.alloc (.cells zA 27)).setRow w3.heap.size cs = w4 at *) | (at_builtin; refine wpList_app _ rfl _ _ rfl w.heap.size g1 t.length c1 (Lib.byteCells t) rfl (unhide HSC4).own ⟨#[101, 114, 114, 111, 114, 32, 102, 111, 114, 109, 10]⟩ rfl (by have := unhide HT; show t.length + 11 ≤ _; omega) (by have := (unhide HB4).size; omega) ?_; intro g2 c2 w5 o5 gr5 hg5; have HSC5 := hide ((unhide HSC4).app o5 gr5 hg5); have HB5 := hide ((unhide HSC4).app_below gr5 (unhide HB4) (Nat.le_refl _) (unhide HB4).size); have HR5 := hide ((unhide HSC4).app_row gr5 (unhide HR4) (by decide)); clear o5 gr5 hg5))
                go_round
                case rel => exact ⟨j + 1, g2, c2, unhide HJ, by go_num, by rw [unhide HE2]; simp, by rw [unhide HE2]; exact unhide HSC5, unhide HB5, unhide HR5⟩
                case measure => have := unhide HJ; simp [intOf]; omega
            · have hqe : ((bs (wd x)).toList == [113, 117, 101, 117, 101]) = false := by rw [hwl]; simpa [queueB] using hq
              cases hact : actR x with
              | none =>
                have HE2 : Hid (conF (ls.take (j + 1)) ⟨pe0, pe0⟩ [] = (z, t ++ (⟨#[101, 114, 114, 111, 114, 32, 102, 111, 114, 109, 10]⟩ : ByteArray).data.toList)) := hide (by rw [unhide HE]; unfold lineF; rw [if_neg (unhide HN35), if_neg (fun e => hq e.1)]; unfold doC; rw [hact]; rfl)
                rw [hact] at K16
                clear hq h35 hact w0
                obtain ⟨nw, hnwe⟩ : ∃ nw, nw = ((wds x).map bs).length := ⟨_, rfl⟩
                have nw0 : ((((wds x).map bs).length : Int) == 0) = false := by rw [beq_eq_false_iff_ne]; omega
                have nwp : (0 : Int) < (((wds x).map bs).length : Int) := by omega
                clear hone hwl hnwe
                go_wp2_with fail
                refine (unhide K15).mono ?_
                rintro e w2 ⟨v8, rfl, s8, b2⟩
                have HV8 := hide s8
                obtain ⟨A8, c8, rfl, h8⟩ := s8
                obtain ⟨b8, o8, rfl, hl8, hc8⟩ := h8 hnw
                have wc := hc8 0 hnw
                rw [hhd, Nat.add_zero] at wc
                have HSC2 := hide ((unhide HSC).below b2)
                have HB2 := hide (bl_st b2 (unhide HB))
                have HR2 := hide ((b2.block _ (Array.getElem?_eq_some_iff.1 (unhide HR)).1).trans (unhide HR))
                have cc2 := unhide HCJ w2 (unhide HR2)
                generalize ((wds x).map bs).length = nw at *
                generalize bs (wd x) = wt at *
                clear b2 hl8 hc8 hhd h8
                go_wp2_with fail
                refine (unhide K16 _ _ (unhide HV8) (unhide W0)).mono ?_
                rintro e w3 ⟨b3, cs, rfl, hcs, hi, h1⟩
                have B4 : Below w3.heap.size w3 ((w3.alloc (.cells zA 27)).setRow w3.heap.size cs) := below_setRow (bl_al (Below.refl _ _)) (Nat.le_refl _)
                have HSC4 := hide (((unhide HSC2).below b3).below B4)
                have HB4 := hide (bl_st B4 (bl_st b3 (unhide HB2)))
                have HR4 := hide ((B4.block _ (Array.getElem?_eq_some_iff.1 ((b3.block _ (Array.getElem?_eq_some_iff.1 (unhide HR2)).1).trans (unhide HR2))).1).trans ((b3.block _ (Array.getElem?_eq_some_iff.1 (unhide HR2)).1).trans (unhide HR2)))
                have H5 := hide (heap_alloc_new w3 (.cells zA 27))
                have HCS := hide hcs
                have HI := hide hi
                have H1 := hide h1
                clear b3 B4 hcs hi h1 wc cc2
                go_wp2_with (first | (with_reducible change wpList _ _ _ ({ dst := none, op := Op.store 27 (Operand.tmp 9) _, type := _, pos := _, after := _, guard := _ } :: _) _ _; refine wpList_store_row rfl 27 _ _ rfl w3.heap.size cs rfl rfl 27 zA (unhide H5) (unhide HI) (unhide HCS) (unhide H1) ?_; generalize (w3.alloc (.cells zA 27)).setRow w3.heap.size cs = w4 at *) | (at_builtin; refine wpList_app _ rfl _ _ rfl w.heap.size g1 t.length c1 (Lib.byteCells t) rfl (unhide HSC4).own ⟨#[101, 114, 114, 111, 114, 32, 102, 111, 114, 109, 10]⟩ rfl (by have := unhide HT; show t.length + 11 ≤ _; omega) (by have := (unhide HB4).size; omega) ?_; intro g2 c2 w5 o5 gr5 hg5; have HSC5 := hide ((unhide HSC4).app o5 gr5 hg5); have HB5 := hide ((unhide HSC4).app_below gr5 (unhide HB4) (Nat.le_refl _) (unhide HB4).size); have HR5 := hide ((unhide HSC4).app_row gr5 (unhide HR4) (by decide)); clear o5 gr5 hg5))
                go_round
                case rel => exact ⟨j + 1, g2, c2, unhide HJ, by go_num, by rw [unhide HE2]; simp, by rw [unhide HE2]; exact unhide HSC5, unhide HB5, unhide HR5⟩
                case measure => have := unhide HJ; simp [intOf]; omega
              | some a =>
                have HEF : Hid (conF (ls.take (j + 1)) ⟨pe0, pe0⟩ [] = if (stepF z (taOf a)).2 = 0 then ((stepF z (taOf a)).1, t ++ (toldF z (stepF z (taOf a)).1 ++ (codeB 0 ++ [10]))) else (z, t ++ (errB ++ [32] ++ codeB (stepF z (taOf a)).2 ++ [10]))) := hide (by
                  rw [unhide HE]; unfold lineF; rw [if_neg (unhide HN35), if_neg (fun e => hq e.1)]; unfold doC; rw [hact]
                  dsimp only
                  by_cases h0 : (stepF z (taOf a)).2 = 0
                  · rw [if_pos h0, if_pos h0]; unfold doneB; rw [if_pos rfl]
                  · rw [if_neg h0, if_neg h0]; unfold doneB; rw [if_neg h0]; simp)
                have hat := act_len hact
                rw [hact] at K16
                clear hq h35 hact w0
                obtain ⟨nw, hnwe⟩ : ∃ nw, nw = ((wds x).map bs).length := ⟨_, rfl⟩
                have nw0 : ((((wds x).map bs).length : Int) == 0) = false := by rw [beq_eq_false_iff_ne]; omega
                have nwp : (0 : Int) < (((wds x).map bs).length : Int) := by omega
                clear hone hwl hnwe
                go_wp2_with fail
                refine (unhide K15).mono ?_
                rintro e w2 ⟨v8, rfl, s8, b2⟩
                have HV8 := hide s8
                obtain ⟨A8, c8, rfl, h8⟩ := s8
                obtain ⟨b8, o8, rfl, hl8, hc8⟩ := h8 hnw
                have wc := hc8 0 hnw
                rw [hhd, Nat.add_zero] at wc
                have HSC2 := hide ((unhide HSC).below b2)
                have HB2 := hide (bl_st b2 (unhide HB))
                have HR2 := hide ((b2.block _ (Array.getElem?_eq_some_iff.1 (unhide HR)).1).trans (unhide HR))
                have cc2 := unhide HCJ w2 (unhide HR2)
                generalize ((wds x).map bs).length = nw at *
                generalize bs (wd x) = wt at *
                clear b2 hl8 hc8 hhd h8
                obtain ⟨zx, zy⟩ := (unhide HOK).pb
                have K22 := hide (fun lw W (tv : twV W lw z) => step48 lw z (taOf a) W tv ⟨by have := zx.q; omega, by have := zx.i; omega⟩ ⟨by have := zy.q; omega, by have := zy.i; omega⟩ (by show (bs a.t).size ≤ maxLen; rw [bs_size]; unfold maxLen; omega) ⟨zx.s.1, by have := zx.s.2; omega⟩ ⟨zx.e.1, by have := zx.e.2; omega⟩ ⟨zy.s.1, by have := zy.s.2; omega⟩ ⟨zy.e.1, by have := zy.e.2; omega⟩)
                have HPZ := hide ((unhide HOK).step (taOf a)).pb
                have HTL := hide (toldF_len (z := z) ((unhide HOK).step (taOf a)))
                have HSL := hide (step_len z (taOf a))
                have HCD := hide (step_code z (taOf a))
                unfold outD atV atA at K16
                unfold taOf at K22 HPZ HSL HCD HEF HTL
                obtain ⟨k, wh, tx, la, lb⟩ := a
                dsimp only at K16 K22 HPZ HSL HCD HEF HTL
                generalize bs tx = tt at *
                generalize stepF z ⟨k, wh, tt, la, lb⟩ = st at *
                obtain ⟨z', cd⟩ := st
                dsimp only at K22 HPZ HSL HCD HEF HTL
                clear zx zy hat
                go_wp2_with fail
                refine (unhide K16 _ _ (unhide HV8) (unhide W0)).mono ?_
                rintro e w3 ⟨b3, rfl⟩
                have B4 : Below w3.heap.size w3 (w3.alloc (.cells #[.int .i64 k, .int .i64 wh, .string tt, .bool la, .bool lb] 27)) := bl_al (Below.refl _ _)
                have HSC4 := hide (((unhide HSC2).below b3).below B4)
                have HB4 := hide (bl_st B4 (bl_st b3 (unhide HB2)))
                have HR4 := hide ((B4.block _ (Array.getElem?_eq_some_iff.1 ((b3.block _ (Array.getElem?_eq_some_iff.1 (unhide HR2)).1).trans (unhide HR2))).1).trans ((b3.block _ (Array.getElem?_eq_some_iff.1 (unhide HR2)).1).trans (unhide HR2)))
                have y0 := row_cell (i := 0) (heap_alloc_new w3 (.cells #[.int .i64 k, .int .i64 wh, .string tt, .bool la, .bool lb] 27))
                clear b3 B4 wc cc2 y0
                go_wp2_with fail
                refine (unhide K22 _ _ (unhide HSC4).tw).mono ?_
                rintro e w5 ⟨r, rfl, t5, o5, b5⟩
                have HT4 := hide ((unhide HSC4).tw.below b5)
                have HSL5 := hide ((unhide HSC4).below b5)
                have HSR5 := hide (SC.mk t5 (own_kept (unhide HSC4).own b5) (o5 g1 (unhide HSC4).row.2.1 (unhide HSC4).off))
                have HB5' := hide (bl_st b5 (unhide HB4))
                have HR5' := hide ((b5.block _ (Array.getElem?_eq_some_iff.1 (unhide HR4)).1).trans (unhide HR4))
                clear t5 o5 b5
                by_cases h0 : cd = 0
                · subst h0
                  have K24 := hide (told24 _ r z z' w5 (unhide HT4) (unhide HSR5).tw (unhide HSL).1 (unhide HSL).2 (unhide HPZ).1 (unhide HPZ).2)
                  have etb := bs_list (toldF z z')
                  have HTB : Hid ((bs (toldF z z')).size ≤ 9800) := hide (by rw [bs_size]; exact unhide HTL)
                  have HE2 : Hid (conF (ls.take (j + 1)) ⟨pe0, pe0⟩ [] = (z', t ++ (bs (toldF z z')).data.toList ++ (⟨#[111, 107, 10]⟩ : ByteArray).data.toList)) := hide (by rw [unhide HEF, if_pos rfl, etb, List.append_assoc]; rfl)
                  generalize bs (toldF z z') = tb at *
                  clear etb HEF HTL
                  go_wp2_with fail
                  refine (unhide K24).mono ?_
                  rintro e w6 ⟨rfl, b6⟩
                  have HSC6 := hide ((unhide HSR5).below b6)
                  have HB6 := hide (bl_st b6 (unhide HB5'))
                  have HR6 := hide ((b6.block _ (Array.getElem?_eq_some_iff.1 (unhide HR5')).1).trans (unhide HR5'))
                  clear b6
                  go_wp2_with (first
                    | (at_builtin; refine wpList_app _ rfl _ _ rfl w.heap.size g1 t.length c1 (Lib.byteCells t) rfl (unhide HSC6).own tb rfl (by have := unhide HT; have := unhide HTB; omega) (by have := (unhide HB6).size; omega) ?_; intro g7 c7 w7 o7 gr7 hg7; have HO7 := hide o7; have HSC7 := hide ((unhide HSC6).app o7 gr7 hg7); have HB7 := hide ((unhide HSC6).app_below gr7 (unhide HB6) (Nat.le_refl _) (unhide HB6).size); have HR7 := hide ((unhide HSC6).app_row gr7 (unhide HR6) (by decide)); clear o7 gr7 hg7)
                    | (at_builtin; refine wpList_app _ rfl _ _ rfl w.heap.size g7 (t.length + tb.size) c7 (Lib.byteCells t ++ Lib.strCells tb) rfl (unhide HO7) ⟨#[111, 107, 10]⟩ rfl (by have := unhide HT; have := unhide HTB; show t.length + tb.size + 3 ≤ _; omega) (by have := (unhide HB7).size; omega) ?_; intro g2 c2 w8 o8 gr8 hg8; have HSC5 := hide ((unhide HSC7).app (s := ⟨#[111, 107, 10]⟩) (by rw [List.length_append, Array.length_toList, ← byte_strs]; exact o8) gr8 hg8); have HB5 := hide ((unhide HSC7).app_below gr8 (unhide HB7) (Nat.le_refl _) (unhide HB7).size); have HR5 := hide ((unhide HSC7).app_row gr8 (unhide HR7) (by decide)); clear o8 gr8 hg8))
                  go_round
                  case rel => exact ⟨j + 1, g2, c2, unhide HJ, by go_num, by rw [unhide HE2, List.length_append, List.length_append, Array.length_toList]; rfl, by rw [unhide HE2]; exact unhide HSC5, unhide HB5, unhide HR5⟩
                  case measure => have := unhide HJ; simp [intOf]; omega
                · have hc1 := (unhide HCD).1
                  have hc2 := (unhide HCD).2
                  obtain ⟨ck, rfl⟩ : ∃ ck : Nat, cd = ck := ⟨cd.toNat, by omega⟩
                  have K23 := hide (fun W => word23 ck W (by omega))
                  have hcb := codeB_len ck
                  have HCB : Hid ((bs (codeB ck)).size ≤ 10) := hide (by rw [bs_size]; exact hcb)
                  have HE2 : Hid (conF (ls.take (j + 1)) ⟨pe0, pe0⟩ [] = (z, t ++ (⟨#[101, 114, 114, 111, 114, 32]⟩ ++ bs (codeB ck) ++ ⟨#[10]⟩ : ByteArray).data.toList)) := hide (by rw [unhide HEF, if_neg h0]; simp [bs_list, errB])
                  have h1 : ((ck : Int) == 0) = false := by rw [beq_eq_false_iff_ne]; exact h0
                  have hz10 : (bs (codeB ck)).size ≤ 10 := unhide HCB
                  generalize bs (codeB ck) = wx at *
                  clear hc1 hc2 hcb HEF HTL h0
                  go_wp2_with fail
                  refine (unhide K23 _).mono ?_
                  rintro e w6 ⟨rfl, b6⟩
                  have HSC6 := hide ((unhide HSL5).below b6)
                  have HB6 := hide (bl_st b6 (unhide HB5'))
                  have HR6 := hide ((b6.block _ (Array.getElem?_eq_some_iff.1 (unhide HR5')).1).trans (unhide HR5'))
                  clear b6
                  have hsx : (⟨#[101, 114, 114, 111, 114, 32]⟩ ++ wx ++ ⟨#[10]⟩ : ByteArray).size = 7 + wx.size := by rw [ByteArray.size_append, ByteArray.size_append]; show 6 + wx.size + 1 = _; omega
                  go_wp2_with (first | fail | (at_builtin; refine wpList_app _ rfl _ _ rfl w.heap.size g1 t.length c1 (Lib.byteCells t) rfl (unhide HSC6).own (⟨#[101, 114, 114, 111, 114, 32]⟩ ++ wx ++ ⟨#[10]⟩) rfl (by have := unhide HT; rw [hsx]; omega) (by have := (unhide HB6).size; omega) ?_; intro g2 c2 w8 o5 gr5 hg5; have HSC5 := hide ((unhide HSC6).app o5 gr5 hg5); have HB5 := hide ((unhide HSC6).app_below gr5 (unhide HB6) (Nat.le_refl _) (unhide HB6).size); have HR5 := hide ((unhide HSC6).app_row gr5 (unhide HR6) (by decide)); clear o5 gr5 hg5))
                  go_round
                  case rel => exact ⟨j + 1, g2, c2, unhide HJ, by go_num, by rw [unhide HE2, List.length_append, ← hsx]; rfl, by rw [unhide HE2]; exact unhide HSC5, unhide HB5, unhide HR5⟩
                  case measure => have := unhide HJ; simp [intOf]; omega
    · rw [if_neg h0] at hLl
      have he : (bs x).toList.isEmpty = false := by rw [hxl]; cases x; exact absurd rfl h0; rfl
      have HM : Hid (n + 1 = ls.length) := hide hLl.symm
      clear hxl h0
      generalize bs x = xt at *
      by_cases h9 : 100 < ls.length
      · rw [if_pos h9]
        have q9 : (100 : Int) < (n : Int) + 1 := by omega
        clear h9 hmem hpre hLl
        go_enter Tryz.func10, Tryz.ntmps10
        go_wp2_with fail
        refine K20.mono ?_
        rintro e w2 ⟨gl, cap, rfl, o2, b2⟩
        obtain ⟨cur, hcap, hr2, hc2⟩ := unhide hrow w2 gl cap o2
        have cl := (row_cell (i := n) hr2).trans (unhide HCL cur hc2)
        have qc : ((n : Int) ≤ (cap : Int)) := by omega
        have HB2 := hide b2
        clear o2 b2 hr2 hc2
        go_wp2_with fail
        go_ret2
        exact ⟨rfl, unhide HB2⟩
      · rw [if_neg h9]
        have q9 : (n : Int) + 1 ≤ 100 := by omega
        have H9 : Hid (ls.length ≤ 100) := hide (by omega)
        clear h9 hLl
        go_enter Tryz.func10, Tryz.ntmps10
        go_wp2_with fail
        refine K20.mono ?_
        rintro e w2 ⟨gl, cap, rfl, o2, b2⟩
        obtain ⟨cur, hcap, hr2, hc2⟩ := unhide hrow w2 gl cap o2
        have cl := (row_cell (i := n) hr2).trans (unhide HCL cur hc2)
        have qc : ((n : Int) ≤ (cap : Int)) := by omega
        have HB2 := hide b2
        have HR2 := hide hr2
        have HC2 := hide hc2
        clear o2 b2 hr2 hc2
        go_wp2_with fail
        have hcell : Hid (∀ W : World, W.heap[gl]? = some (.cells cur 9 (0, 0)) → ∀ j x, ls[j]? = some x → W.cell? ⟨gl, j, none⟩ = some (.string (bs x))) := hide (fun W hW j x hx => (row_cell hW).trans (unhide HC2 j x (unhide hpre j x hx)))
        have HST : Hid (∃ (j g1 c1 : Nat), j ≤ n + 1 ∧ (Value.int .i64 0) = .int .i64 j ∧ (Value.slice (some ⟨w2.heap.size + 1, 0, none⟩) 0 0) = .slice (some ⟨g1, 0, none⟩) (conF (ls.take j) ⟨pe0, pe0⟩ []).2.length c1 ∧ SC w.heap.size g1 c1 ((w2.alloc zP8).alloc (.cells #[] 5)) (.slice (some ⟨w2.heap.size, 0, none⟩) 2 2) (conF (ls.take j) ⟨pe0, pe0⟩ []).1 (conF (ls.take j) ⟨pe0, pe0⟩ []).2 ∧ Below w.heap.size w ((w2.alloc zP8).alloc (.cells #[] 5)) ∧ ((w2.alloc zP8).alloc (.cells #[] 5)).heap[gl]? = some (.cells cur 9 (0, 0))) := hide (by
          have bA : Below w2.heap.size w2 ((w2.alloc zP8).alloc (.cells #[] 5)) := bl_al (bl_al (Below.refl _ _))
          refine ⟨0, w2.heap.size + 1, 0, by omega, rfl, rfl, ⟨(tw0_row w2).below (bl_al (Below.refl _ _)), ?_, (offT_size (tw0_row w2) (by simp)).below (bl_al (Below.refl _ _))⟩, bl_st bA (unhide HB2), (bA.block _ (Array.getElem?_eq_some_iff.1 (unhide HR2)).1).trans (unhide HR2)⟩
          have := World.ownsRow_made (base := w.heap.size) (e := 5) (size := 1) (w2.alloc zP8) #[] 0 (by have := (unhide HB2).size; simp; omega) (Nat.zero_le _) rfl
          simpa [Lib.byteCells, conF] using this)
        clear HC2 hpre cl hcap qc
        generalize n + 1 = m at *
        have qm : (m : Int) ≤ 100 := by have := unhide H9; have := unhide HM; omega
        go_loopw [5, 6, 7] (fun lv ov i wr => ∃ (j g1 c1 : Nat), j ≤ m ∧ i = .int .i64 j ∧ ov = .slice (some ⟨g1, 0, none⟩) (conF (ls.take j) ⟨pe0, pe0⟩ []).2.length c1 ∧ SC w.heap.size g1 c1 wr lv (conF (ls.take j) ⟨pe0, pe0⟩ []).1 (conF (ls.take j) ⟨pe0, pe0⟩ []).2 ∧ Below w.heap.size w wr ∧ wr.heap[gl]? = some (.cells cur 9 (0, 0))) (fun _ _ i _ => m - (intOf i).toNat)
        case atStart => exact unhide HST
        case round =>
          obtain ⟨j, g1, c1, hj, rfl, rfl, hsc, hb, hr⟩ := hrel
          clear HST
          by_cases h8 : j = m
          · subst h8
            have e9 : (conF (ls.take j) ⟨pe0, pe0⟩ []).2 = linesF ls := by rw [unhide HM, List.take_length]; rfl
            have K := own_str (xs := (conF (ls.take j) ⟨pe0, pe0⟩ []).2.map fun u => (u.toNat : Int)) (by have := hsc.own; unfold Lib.byteCells at this; rw [List.map_map]; exact this) (by simp)
            rw [show strOfNums ((conF (ls.take j) ⟨pe0, pe0⟩ []).2.map fun u => (u.toNat : Int)) = bs (linesF ls) by rw [e9]; unfold strOfNums bs; congr 2; rw [List.map_map]; apply List.map_id''; intro u; simp] at K
            have HB9 := hide hb
            generalize (conF (ls.take j) ⟨pe0, pe0⟩ []).2.length = tl at *
            clear hsc hb hr hj hmem hcell e9
            go_wp2
            go_ret2
            exact ⟨rfl, unhide HB9⟩
          · have hlt : j < m := by omega
            have q1 : (j : Int) < (m : Int) := by omega
            obtain ⟨x, hx⟩ : ∃ x, ls[j]? = some x := ⟨_, List.getElem?_eq_getElem (by rw [← unhide HM]; exact hlt)⟩
            have cc := unhide hcell wr hr j x hx
            have hxl := unhide hmem x (List.mem_of_getElem? hx)
            have hok := conF_ok (ls.take j) (z := ⟨pe0, pe0⟩) [] ok2_zero
            have he := conF_at ls j x hx ⟨pe0, pe0⟩
            obtain ⟨z, t, hzt⟩ : ∃ z t, conF (ls.take j) ⟨pe0, pe0⟩ [] = (z, t) := ⟨_, _, rfl⟩
            rw [hzt] at he hok hsc ⊢
            dsimp only at he hok hsc ⊢
            obtain ⟨hok, htl⟩ := hok
            have HT : Hid (t.length ≤ 1000000) := hide (by have := unhide H9; simp only [List.length_nil, List.length_take] at htl; omega)
            have K15 := hide (words7 x wr hxl)
            have K16 := hide (fun v W hv hne => read8 x v W hv hne hxl)
            have HCJ : Hid (∀ W : World, W.heap[gl]? = some (.cells cur 9 (0, 0)) → W.cell? ⟨gl, j, none⟩ = some (.string (bs x))) := hide (fun W hW => unhide hcell W hW j x hx)
            have HSC := hide hsc
            have HB := hide hb
            have HR := hide hr
            have HE := hide he
            have HOK := hide hok
            have HJ := hide hlt
            clear hsc hb hr he hok hlt hj h8 hx hxl htl hzt hmem hcell HM
            by_cases w0 : wd x = []
            · have HE2 : Hid (conF (ls.take (j + 1)) ⟨pe0, pe0⟩ [] = (z, t)) := hide (by rw [unhide HE]; unfold lineF; rw [if_pos (Or.inl w0)]; simp)
              have en := words_none x w0
              rw [en] at K15
              generalize bs x = xt at *
              clear w0 en K16
              go_wp2_with fail
              refine (unhide K15).mono ?_
              rintro e w2 ⟨v8, rfl, s8, b2⟩
              obtain ⟨A8, c8, rfl, _⟩ := s8
              have HSC2 := hide ((unhide HSC).below b2)
              have HB2 := hide (bl_st b2 (unhide HB))
              have HR2 := hide ((b2.block _ (Array.getElem?_eq_some_iff.1 (unhide HR)).1).trans (unhide HR))
              clear b2
              simp only [List.map_nil, List.length_nil]
              go_wp2
              go_round
              case rel => exact ⟨j + 1, g1, c1, unhide HJ, by go_num, by rw [unhide HE2], by rw [unhide HE2]; exact unhide HSC2, unhide HB2, unhide HR2⟩
              case measure => have := unhide HJ; simp [intOf]; omega
            have W0 := hide w0
            have hnw : 0 < ((wds x).map bs).length := by rw [wds_eq, if_neg w0]; simp
            have hone := words_one x w0
            have hhd := words_head x w0
            have hsz : 0 < (bs (wd x)).size := by rw [bs_size]; exact List.length_pos_iff.2 w0
            have hwl := bs_toList (wd x)
            by_cases h35 : (wd x).head? = some 35
            · have HE2 : Hid (conF (ls.take (j + 1)) ⟨pe0, pe0⟩ [] = (z, t)) := hide (by rw [unhide HE]; unfold lineF; rw [if_pos (Or.inr h35)]; simp)
              have e35 := head_int (wd x) true (decide_eq_true h35)
              obtain ⟨nw, hnwe⟩ : ∃ nw, nw = ((wds x).map bs).length := ⟨_, rfl⟩
              have nw0 : ((((wds x).map bs).length : Int) == 0) = false := by rw [beq_eq_false_iff_ne]; omega
              have nwp : (0 : Int) < (((wds x).map bs).length : Int) := by omega
              clear hone hwl hnwe
              go_wp2_with fail
              refine (unhide K15).mono ?_
              rintro e w2 ⟨v8, rfl, s8, b2⟩
              have HV8 := hide s8
              obtain ⟨A8, c8, rfl, h8⟩ := s8
              obtain ⟨b8, o8, rfl, hl8, hc8⟩ := h8 hnw
              have wc := hc8 0 hnw
              rw [hhd, Nat.add_zero] at wc
              have HSC2 := hide ((unhide HSC).below b2)
              have HB2 := hide (bl_st b2 (unhide HB))
              have HR2 := hide ((b2.block _ (Array.getElem?_eq_some_iff.1 (unhide HR)).1).trans (unhide HR))
              have cc2 := unhide HCJ w2 (unhide HR2)
              generalize ((wds x).map bs).length = nw at *
              generalize bs (wd x) = wt at *
              clear b2 hl8 hc8 hhd h8
              go_wp2
              go_round
              case rel => exact ⟨j + 1, g1, c1, unhide HJ, by go_num, by rw [unhide HE2], by rw [unhide HE2]; exact unhide HSC2, unhide HB2, unhide HR2⟩
              case measure => have := unhide HJ; simp [intOf]; omega
            have e35 := head_int (wd x) false (decide_eq_false h35)
            have HN35 : Hid (¬ (wd x = [] ∨ (wd x).head? = some 35)) := hide (fun e => e.elim w0 h35)
            by_cases hq : wd x = queueB
            · have hqe : ((bs (wd x)).toList == [113, 117, 101, 117, 101]) = true := by rw [hwl, hq]; rfl
              by_cases h1 : wd (rs x) = []
              · have HE2 : Hid (conF (ls.take (j + 1)) ⟨pe0, pe0⟩ [] = (z, t ++ queB z)) := hide (by rw [unhide HE]; unfold lineF; rw [if_neg (unhide HN35), if_pos ⟨hq, h1⟩])
                have n1 : ((((wds x).map bs).length : Int) == 1) = true := by
                  have := hone.2 h1
                  simp [this]
                clear h1 hq h35 w0
                obtain ⟨nw, hnwe⟩ : ∃ nw, nw = ((wds x).map bs).length := ⟨_, rfl⟩
                have nw0 : ((((wds x).map bs).length : Int) == 0) = false := by rw [beq_eq_false_iff_ne]; omega
                have nwp : (0 : Int) < (((wds x).map bs).length : Int) := by omega
                clear hone hwl hnwe
                go_wp2_with fail
                refine (unhide K15).mono ?_
                rintro e w2 ⟨v8, rfl, s8, b2⟩
                have HV8 := hide s8
                obtain ⟨A8, c8, rfl, h8⟩ := s8
                obtain ⟨b8, o8, rfl, hl8, hc8⟩ := h8 hnw
                have wc := hc8 0 hnw
                rw [hhd, Nat.add_zero] at wc
                have HSC2 := hide ((unhide HSC).below b2)
                have HB2 := hide (bl_st b2 (unhide HB))
                have HR2 := hide ((b2.block _ (Array.getElem?_eq_some_iff.1 (unhide HR)).1).trans (unhide HR))
                have cc2 := unhide HCJ w2 (unhide HR2)
                generalize ((wds x).map bs).length = nw at *
                generalize bs (wd x) = wt at *
                clear b2 hl8 hc8 hhd h8
                have n8 := (unhide HOK).pb.1.q
                have n9 := (unhide HOK).pb.2.q
                have K0 := hide (fun W => digit21 z.x.q.length W (by omega))
                have K1 := hide (fun W => digit21 z.y.q.length W (by omega))
                have es : (bs (digB z.x.q.length) ++ ⟨#[32]⟩ ++ bs (digB z.y.q.length) ++ ⟨#[10]⟩ : ByteArray).data.toList = queB z := by simp [bs_list, queB]
                have HES := hide es
                have d0 : (bs (digB z.x.q.length)).size = 1 := by rw [bs_size]; rfl
                have d1 : (bs (digB z.y.q.length)).size = 1 := by rw [bs_size]; rfl
                obtain ⟨g, c, A0, r0, C0, r1, A1, r2, C1, r3, rest, elv, hc2, hrw, _, _⟩ := (unhide HSC2).tw.open
                subst elv
                have m0 : (z.x.q.length : Int) ≤ 9223372036854775807 := by omega
                have m1 : (z.y.q.length : Int) ≤ 9223372036854775807 := by omega
                have HRW := hide hrw
                generalize z.x.q.length = n0 at *
                generalize z.y.q.length = n1 at *
                generalize bs (digB n0) = x0 at *
                generalize bs (digB n1) = x1 at *
                clear hrw es n8 n9 hc2 K16
                go_wp2_with fail
                clear wc cc2
                refine wp_region_held (S := fun W => W.cell? ⟨g, 0, none⟩ = some (.slice A0 n0 r0) ∧ W.cell? ⟨g, 4, none⟩ = some (.slice A1 n1 r2)) (by kernel_rfl) ?_
                have hS0 : Below w2.heap.size w2 { w2 with drawn := w2.drawn + 1 } := below_drewN (Below.refl _ _) 1
                obtain ⟨w3, hw3⟩ : ∃ x, x = ({ w2 with drawn := w2.drawn + 1 } : World) := ⟨_, rfl⟩
                rw [← hw3] at hS0 ⊢
                clear hw3
                have R3 := (unhide HRW).below hS0
                have S3 : w3.cell? ⟨g, 0, none⟩ = some (.slice A0 n0 r0) ∧ w3.cell? ⟨g, 4, none⟩ = some (.slice A1 n1 r2) := ⟨R3.c0, R3.c4⟩
                refine wpAnyH_take (i := 0) (oi := { dst := some 65, op := Op.move (Operand.tmp 6), type := 22, pos := "l16_console.go:101", after := #[], guard := none }) (v := ?_) rfl (by kernel_rfl) (by kernel_rfl) (by kernel_rfl) (fun _ _ _ h => h) (Or.inl ⟨by rfl, ?_⟩) S3 ?_
                rotate_left
                · intro W hSw
                  obtain ⟨y0, y1⟩ := hSw
                  go_simp
                  try with_reducible rfl
                simp only [Act.put, List.setIfInBounds_toArray, List.set_cons_zero, List.set_cons_succ]
                refine wpAnyH_take (i := 1) (oi := { dst := some 66, op := Op.move (Operand.tmp 5), type := 41, pos := "l16_console.go:101", after := #[], guard := none }) (v := ?_) rfl (by kernel_rfl) (by kernel_rfl) (by kernel_rfl) (fun _ _ _ h => h) (Or.inl ⟨by rfl, ?_⟩) S3 ?_
                rotate_left
                · intro W hSw
                  obtain ⟨y0, y1⟩ := hSw
                  go_simp
                  try with_reducible rfl
                simp only [Act.put, List.setIfInBounds_toArray, List.set_cons_zero, List.set_cons_succ]
                refine wpAnyH_take (i := 2) (oi := { dst := some 67, op := Op.indexAddr 41 (Operand.tmp 66) (Operand.const (Value.int IntKind.i64 0)), type := 0, pos := "l16_console.go:101", after := #[{ on := 1, ground := Ground.data }], guard := none }) (v := ?_) rfl (by kernel_rfl) (by kernel_rfl) (by kernel_rfl) (fun _ _ _ h => h) (Or.inl ⟨by rfl, ?_⟩) S3 ?_
                rotate_left
                · intro W hSw
                  obtain ⟨y0, y1⟩ := hSw
                  go_simp
                  try with_reducible rfl
                simp only [Act.put, List.setIfInBounds_toArray, List.set_cons_zero, List.set_cons_succ]
                refine wpAnyH_take (i := 3) (oi := { dst := some 68, op := Op.fieldAddr 53 (Operand.tmp 67) 0, type := 0, pos := "l16_console.go:101", after := #[{ on := 2, ground := Ground.data }], guard := none }) (v := ?_) rfl (by kernel_rfl) (by kernel_rfl) (by kernel_rfl) (fun _ _ _ h => h) (Or.inl ⟨by rfl, ?_⟩) S3 ?_
                rotate_left
                · intro W hSw
                  obtain ⟨y0, y1⟩ := hSw
                  go_simp
                  try with_reducible rfl
                simp only [Act.put, List.setIfInBounds_toArray, List.set_cons_zero, List.set_cons_succ]
                refine wpAnyH_take (i := 4) (oi := { dst := some 69, op := Op.load 23 (Operand.tmp 68), type := 23, pos := "l16_console.go:101", after := #[{ on := 3, ground := Ground.data }], guard := none }) (v := ?_) rfl (by kernel_rfl) (by kernel_rfl) (by kernel_rfl) (fun _ _ _ h => h) (Or.inl ⟨by rfl, ?_⟩) S3 ?_
                rotate_left
                · intro W hSw
                  obtain ⟨y0, y1⟩ := hSw
                  go_simp
                  try with_reducible rfl
                simp only [Act.put, List.setIfInBounds_toArray, List.set_cons_zero, List.set_cons_succ]
                refine wpAnyH_take (i := 5) (oi := { dst := some 70, op := Op.call { callee := Callee.builtin Builtin.len, args := #[Operand.tmp 69], argTypes := #[23] }, type := 3, pos := "l16_console.go:101", after := #[{ on := 4, ground := Ground.data }], guard := none }) (v := ?_) rfl (by kernel_rfl) (by kernel_rfl) (by kernel_rfl) (fun _ _ _ h => h) (Or.inl ⟨by rfl, ?_⟩) S3 ?_
                rotate_left
                · intro W hSw
                  obtain ⟨y0, y1⟩ := hSw
                  go_simp
                  try with_reducible rfl
                simp only [Act.put, List.setIfInBounds_toArray, List.set_cons_zero, List.set_cons_succ]
                refine wpAnyH_take (i := 8) (oi := { dst := some 73, op := Op.move (Operand.tmp 5), type := 41, pos := "l16_console.go:101", after := #[], guard := none }) (v := ?_) rfl (by kernel_rfl) (by kernel_rfl) (by kernel_rfl) (fun _ _ _ h => h) (Or.inl ⟨by rfl, ?_⟩) S3 ?_
                rotate_left
                · intro W hSw
                  obtain ⟨y0, y1⟩ := hSw
                  go_simp
                  try with_reducible rfl
                simp only [Act.put, List.setIfInBounds_toArray, List.set_cons_zero, List.set_cons_succ]
                refine wpAnyH_take (i := 9) (oi := { dst := some 74, op := Op.indexAddr 41 (Operand.tmp 73) (Operand.const (Value.int IntKind.i64 1)), type := 0, pos := "l16_console.go:101", after := #[{ on := 8, ground := Ground.data }], guard := none }) (v := ?_) rfl (by kernel_rfl) (by kernel_rfl) (by kernel_rfl) (fun _ _ _ h => h) (Or.inl ⟨by rfl, ?_⟩) S3 ?_
                rotate_left
                · intro W hSw
                  obtain ⟨y0, y1⟩ := hSw
                  go_simp
                  try with_reducible rfl
                simp only [Act.put, List.setIfInBounds_toArray, List.set_cons_zero, List.set_cons_succ]
                refine wpAnyH_take (i := 10) (oi := { dst := some 75, op := Op.fieldAddr 53 (Operand.tmp 74) 0, type := 0, pos := "l16_console.go:101", after := #[{ on := 9, ground := Ground.data }], guard := none }) (v := ?_) rfl (by kernel_rfl) (by kernel_rfl) (by kernel_rfl) (fun _ _ _ h => h) (Or.inl ⟨by rfl, ?_⟩) S3 ?_
                rotate_left
                · intro W hSw
                  obtain ⟨y0, y1⟩ := hSw
                  go_simp
                  try with_reducible rfl
                simp only [Act.put, List.setIfInBounds_toArray, List.set_cons_zero, List.set_cons_succ]
                refine wpAnyH_take (i := 11) (oi := { dst := some 76, op := Op.load 23 (Operand.tmp 75), type := 23, pos := "l16_console.go:101", after := #[{ on := 10, ground := Ground.data }], guard := none }) (v := ?_) rfl (by kernel_rfl) (by kernel_rfl) (by kernel_rfl) (fun _ _ _ h => h) (Or.inl ⟨by rfl, ?_⟩) S3 ?_
                rotate_left
                · intro W hSw
                  obtain ⟨y0, y1⟩ := hSw
                  go_simp
                  try with_reducible rfl
                simp only [Act.put, List.setIfInBounds_toArray, List.set_cons_zero, List.set_cons_succ]
                refine wpAnyH_take (i := 12) (oi := { dst := some 77, op := Op.call { callee := Callee.builtin Builtin.len, args := #[Operand.tmp 76], argTypes := #[23] }, type := 3, pos := "l16_console.go:101", after := #[{ on := 11, ground := Ground.data }], guard := none }) (v := ?_) rfl (by kernel_rfl) (by kernel_rfl) (by kernel_rfl) (fun _ _ _ h => h) (Or.inl ⟨by rfl, ?_⟩) S3 ?_
                rotate_left
                · intro W hSw
                  obtain ⟨y0, y1⟩ := hSw
                  go_simp
                  try with_reducible rfl
                simp only [Act.put, List.setIfInBounds_toArray, List.set_cons_zero, List.set_cons_succ]
                refine wpAnyH_one (i := 6) (by kernel_rfl) ?_
                refine wpOp_step (o := { dst := some 71, op := Op.call { callee := Callee.value (Operand.func 21), args := #[Operand.tmp 70], argTypes := #[3] }, type := 9, pos := "l16_console.go:101", after := #[{ on := 5, ground := Ground.data }], guard := none }) rfl fun K' hK => step_enterW (by rfl) 21 #[.int .i64 n0] (by go_simp) ?_
                refine (unhide K0 w3).mono ?_
                rintro e w4 ⟨rfl, b4⟩
                have R4 := R3.below b4
                have S4 : w4.cell? ⟨g, 0, none⟩ = some (.slice A0 n0 r0) ∧ w4.cell? ⟨g, 4, none⟩ = some (.slice A1 n1 r2) := ⟨R4.c0, R4.c4⟩

                refine ⟨_, rfl, hK _ _ ⟨S4, ?_⟩⟩
                simp only [Act.put, List.setIfInBounds_toArray, List.set_cons_zero, List.set_cons_succ]
                refine wpAnyH_take (i := 7) (oi := { dst := some 72, op := Op.binOp BinOp.add 9 (Operand.tmp 71) (Operand.const (Value.string { data := #[32] })) 9, type := 9, pos := "l16_console.go:101", after := #[{ on := 6, ground := Ground.data }], guard := none }) (v := ?_) rfl (by kernel_rfl) (by kernel_rfl) (by kernel_rfl) (fun _ _ _ h => h) (Or.inl ⟨by rfl, ?_⟩) S4 ?_
                rotate_left
                · intro W hSw
                  go_simp
                  first | with_reducible rfl | rw [if_neg (by omega)]
                simp only [Act.put, List.setIfInBounds_toArray, List.set_cons_zero, List.set_cons_succ]
                refine wpAnyH_one (i := 13) (by kernel_rfl) ?_
                refine wpOp_step (o := { dst := some 78, op := Op.call { callee := Callee.value (Operand.func 21), args := #[Operand.tmp 77], argTypes := #[3] }, type := 9, pos := "l16_console.go:101", after := #[{ on := 12, ground := Ground.data }, { on := 6, ground := Ground.chain }], guard := none }) rfl fun K' hK => step_enterW (by rfl) 21 #[.int .i64 n1] (by go_simp) ?_
                refine (unhide K1 w4).mono ?_
                rintro e w5 ⟨rfl, b5⟩
                have R5 := R4.below b5
                have S5 : w5.cell? ⟨g, 0, none⟩ = some (.slice A0 n0 r0) ∧ w5.cell? ⟨g, 4, none⟩ = some (.slice A1 n1 r2) := ⟨R5.c0, R5.c4⟩

                refine ⟨_, rfl, hK _ _ ⟨S5, ?_⟩⟩
                simp only [Act.put, List.setIfInBounds_toArray, List.set_cons_zero, List.set_cons_succ]
                refine wpAnyH_take (i := 14) (oi := { dst := some 79, op := Op.binOp BinOp.add 9 (Operand.tmp 72) (Operand.tmp 78) 9, type := 9, pos := "l16_console.go:101", after := #[{ on := 7, ground := Ground.data }, { on := 13, ground := Ground.data }], guard := none }) (v := ?_) rfl (by kernel_rfl) (by kernel_rfl) (by kernel_rfl) (fun _ _ _ h => h) (Or.inl ⟨by rfl, ?_⟩) S5 ?_
                rotate_left
                · intro W hSw
                  go_simp
                  first | with_reducible rfl | rw [if_neg (by omega)]
                simp only [Act.put, List.setIfInBounds_toArray, List.set_cons_zero, List.set_cons_succ]
                refine wpAnyH_take (i := 15) (oi := { dst := some 80, op := Op.binOp BinOp.add 9 (Operand.tmp 79) (Operand.const (Value.string { data := #[10] })) 9, type := 9, pos := "l16_console.go:101", after := #[{ on := 14, ground := Ground.data }], guard := none }) (v := ?_) rfl (by kernel_rfl) (by kernel_rfl) (by kernel_rfl) (fun _ _ _ h => h) (Or.inl ⟨by rfl, ?_⟩) S5 ?_
                rotate_left
                · intro W hSw
                  go_simp
                  first | with_reducible rfl | rw [if_neg (by omega)]
                simp only [Act.put, List.setIfInBounds_toArray, List.set_cons_zero, List.set_cons_succ]
                have hsx : ((x0 ++ ⟨#[32]⟩ ++ x1 ++ ⟨#[10]⟩) : ByteArray).size = 4 := by rw [ByteArray.size_append, ByteArray.size_append, ByteArray.size_append, d0, d1]; rfl
                have bb : Below w2.heap.size w2 w5 := bl_st b5 (bl_st b4 hS0)
                have SC5 := (unhide HSC2).below bb
                have HB5a := bl_st bb (unhide HB2)
                have HR5a := (bb.block _ (Array.getElem?_eq_some_iff.1 (unhide HR2)).1).trans (unhide HR2)
                obtain ⟨g2, c2, w6, hrun, o6, gr6, hg6⟩ := run_appS w5 w.heap.size g1 t.length c1 (Lib.byteCells t) SC5.own (x0 ++ ⟨#[32]⟩ ++ x1 ++ ⟨#[10]⟩) (by have := unhide HT; rw [hsx]; omega) (by have := HB5a.size; omega) 22
                have HSC5 := hide (SC5.app o6 gr6 hg6)
                have HB5 := hide (SC5.app_below gr6 HB5a (Nat.le_refl _) HB5a.size)
                have HR5 := hide (SC5.app_row gr6 HR5a (by decide))
                have R6 : row8 w6 g _ _ _ _ _ _ _ _ _ := SC5.app_row gr6 R5 (by decide)
                have S6 : w6.cell? ⟨g, 0, none⟩ = some (.slice A0 n0 r0) ∧ w6.cell? ⟨g, 4, none⟩ = some (.slice A1 n1 r2) := ⟨R6.c0, R6.c4⟩
                refine wpAnyH_one (i := 16) (by kernel_rfl) ?_
                refine wpOp_step (o := { dst := some 81, op := Op.call { callee := Callee.builtin Builtin.append, args := #[Operand.tmp 65, Operand.tmp 80], argTypes := #[22, 9] }, type := 22, pos := "l16_console.go:101", after := #[{ on := 0, ground := Ground.data }, { on := 15, ground := Ground.data }, { on := 13, ground := Ground.chain }], guard := none }) rfl fun K' hK => step_valueW (by rfl) (.slice (some ⟨g2, 0, none⟩) (t.length + ((x0 ++ ⟨#[32]⟩ ++ x1 ++ ⟨#[10]⟩) : ByteArray).size) c2) (w6) (by exact exec_app _ _ _ _ rfl rfl rfl hrun) ?_
                refine hK _ _ ⟨S6, ?_⟩
                simp only [Act.put, List.setIfInBounds_toArray, List.set_cons_zero, List.set_cons_succ]
                refine wpAnyH_take (i := 17) (oi := { dst := some 6, op := Op.assign (Operand.tmp 81), type := 22, pos := "l16_console.go:101", after := #[{ on := 16, ground := Ground.data }, { on := 16, ground := Ground.chain }, { on := 0, ground := Ground.phase }, { on := 1, ground := Ground.phase }, { on := 2, ground := Ground.phase }, { on := 3, ground := Ground.phase }, { on := 4, ground := Ground.phase }, { on := 5, ground := Ground.phase }, { on := 6, ground := Ground.phase }, { on := 7, ground := Ground.phase }, { on := 8, ground := Ground.phase }, { on := 9, ground := Ground.phase }, { on := 10, ground := Ground.phase }, { on := 11, ground := Ground.phase }, { on := 12, ground := Ground.phase }, { on := 13, ground := Ground.phase }, { on := 14, ground := Ground.phase }, { on := 15, ground := Ground.phase }, { on := 16, ground := Ground.phase }], guard := none }) (v := ?_) rfl (by kernel_rfl) (by kernel_rfl) (by kernel_rfl) (fun _ _ _ h => h) (Or.inl ⟨by rfl, ?_⟩) S6 ?_
                rotate_left
                · intro W hSw
                  go_simp
                  try with_reducible rfl
                simp only [Act.put, List.setIfInBounds_toArray, List.set_cons_zero, List.set_cons_succ]
                refine wpAnyH_done (by kernel_rfl) ?_ _
                have HSX := hide hsx
                clear S3 S4 S5 S6 R3 R4 R5 R6 hrun o6 gr6 hg6 SC5 HB5a HR5a bb b4 b5 hS0 hsx d0 d1
                go_wp2
                go_round
                case rel => exact ⟨j + 1, g2, c2, unhide HJ, by go_num, by rw [unhide HE2, ← unhide HES, List.length_append]; first | rfl | (rw [show (x0 ++ ⟨#[32]⟩ ++ x1 ++ ⟨#[10]⟩ : ByteArray).data.toList.length = 4 from unhide HSX]), by rw [unhide HE2, ← unhide HES]; exact unhide HSC5, unhide HB5, unhide HR5⟩
                case measure => have := unhide HJ; simp [intOf]; omega
              · have hnone : actR x = none := act_none (by rw [hq]; decide) (by rw [hq]; decide) (by rw [hq]; decide)
                have HE2 : Hid (conF (ls.take (j + 1)) ⟨pe0, pe0⟩ [] = (z, t ++ (⟨#[101, 114, 114, 111, 114, 32, 102, 111, 114, 109, 10]⟩ : ByteArray).data.toList)) := hide (by rw [unhide HE]; unfold lineF; rw [if_neg (unhide HN35), if_neg (fun e => h1 e.2)]; unfold doC; rw [hnone]; rfl)
                have n1 : ((((wds x).map bs).length : Int) == 1) = false := by
                  have : ¬ (wds x).length = 1 := fun e => h1 (hone.1 e)
                  simp; omega
                rw [hnone] at K16
                clear h1 hq h35 hnone w0
                obtain ⟨nw, hnwe⟩ : ∃ nw, nw = ((wds x).map bs).length := ⟨_, rfl⟩
                have nw0 : ((((wds x).map bs).length : Int) == 0) = false := by rw [beq_eq_false_iff_ne]; omega
                have nwp : (0 : Int) < (((wds x).map bs).length : Int) := by omega
                clear hone hwl hnwe
                go_wp2_with fail
                refine (unhide K15).mono ?_
                rintro e w2 ⟨v8, rfl, s8, b2⟩
                have HV8 := hide s8
                obtain ⟨A8, c8, rfl, h8⟩ := s8
                obtain ⟨b8, o8, rfl, hl8, hc8⟩ := h8 hnw
                have wc := hc8 0 hnw
                rw [hhd, Nat.add_zero] at wc
                have HSC2 := hide ((unhide HSC).below b2)
                have HB2 := hide (bl_st b2 (unhide HB))
                have HR2 := hide ((b2.block _ (Array.getElem?_eq_some_iff.1 (unhide HR)).1).trans (unhide HR))
                have cc2 := unhide HCJ w2 (unhide HR2)
                generalize ((wds x).map bs).length = nw at *
                generalize bs (wd x) = wt at *
                clear b2 hl8 hc8 hhd h8
                go_wp2_with fail
                refine (unhide K16 _ _ (unhide HV8) (unhide W0)).mono ?_
                rintro e w3 ⟨b3, cs, rfl, hcs, hi, h1⟩
                have B4 : Below w3.heap.size w3 ((w3.alloc (.cells zA 27)).setRow w3.heap.size cs) := below_setRow (bl_al (Below.refl _ _)) (Nat.le_refl _)
                have HSC4 := hide (((unhide HSC2).below b3).below B4)
                have HB4 := hide (bl_st B4 (bl_st b3 (unhide HB2)))
                have HR4 := hide ((B4.block _ (Array.getElem?_eq_some_iff.1 ((b3.block _ (Array.getElem?_eq_some_iff.1 (unhide HR2)).1).trans (unhide HR2))).1).trans ((b3.block _ (Array.getElem?_eq_some_iff.1 (unhide HR2)).1).trans (unhide HR2)))
                have H5 := hide (heap_alloc_new w3 (.cells zA 27))
                have HCS := hide hcs
                have HI := hide hi
                have H1 := hide h1
                clear b3 B4 hcs hi h1 wc cc2
                go_wp2_with (first | (with_reducible change wpList _ _ _ ({ dst := none, op := Op.store 27 (Operand.tmp 9) _, type := _, pos := _, after := _, guard := _ } :: _) _ _; refine wpList_store_row rfl 27 _ _ rfl w3.heap.size cs rfl rfl 27 zA (unhide H5) (unhide HI) (unhide HCS) (unhide H1) ?_; generalize (w3.alloc (.cells zA 27)).setRow w3.heap.size cs = w4 at *) | (at_builtin; refine wpList_app _ rfl _ _ rfl w.heap.size g1 t.length c1 (Lib.byteCells t) rfl (unhide HSC4).own ⟨#[101, 114, 114, 111, 114, 32, 102, 111, 114, 109, 10]⟩ rfl (by have := unhide HT; show t.length + 11 ≤ _; omega) (by have := (unhide HB4).size; omega) ?_; intro g2 c2 w5 o5 gr5 hg5; have HSC5 := hide ((unhide HSC4).app o5 gr5 hg5); have HB5 := hide ((unhide HSC4).app_below gr5 (unhide HB4) (Nat.le_refl _) (unhide HB4).size); have HR5 := hide ((unhide HSC4).app_row gr5 (unhide HR4) (by decide)); clear o5 gr5 hg5))
                go_round
                case rel => exact ⟨j + 1, g2, c2, unhide HJ, by go_num, by rw [unhide HE2]; simp, by rw [unhide HE2]; exact unhide HSC5, unhide HB5, unhide HR5⟩
                case measure => have := unhide HJ; simp [intOf]; omega
            · have hqe : ((bs (wd x)).toList == [113, 117, 101, 117, 101]) = false := by rw [hwl]; simpa [queueB] using hq
              cases hact : actR x with
              | none =>
                have HE2 : Hid (conF (ls.take (j + 1)) ⟨pe0, pe0⟩ [] = (z, t ++ (⟨#[101, 114, 114, 111, 114, 32, 102, 111, 114, 109, 10]⟩ : ByteArray).data.toList)) := hide (by rw [unhide HE]; unfold lineF; rw [if_neg (unhide HN35), if_neg (fun e => hq e.1)]; unfold doC; rw [hact]; rfl)
                rw [hact] at K16
                clear hq h35 hact w0
                obtain ⟨nw, hnwe⟩ : ∃ nw, nw = ((wds x).map bs).length := ⟨_, rfl⟩
                have nw0 : ((((wds x).map bs).length : Int) == 0) = false := by rw [beq_eq_false_iff_ne]; omega
                have nwp : (0 : Int) < (((wds x).map bs).length : Int) := by omega
                clear hone hwl hnwe
                go_wp2_with fail
                refine (unhide K15).mono ?_
                rintro e w2 ⟨v8, rfl, s8, b2⟩
                have HV8 := hide s8
                obtain ⟨A8, c8, rfl, h8⟩ := s8
                obtain ⟨b8, o8, rfl, hl8, hc8⟩ := h8 hnw
                have wc := hc8 0 hnw
                rw [hhd, Nat.add_zero] at wc
                have HSC2 := hide ((unhide HSC).below b2)
                have HB2 := hide (bl_st b2 (unhide HB))
                have HR2 := hide ((b2.block _ (Array.getElem?_eq_some_iff.1 (unhide HR)).1).trans (unhide HR))
                have cc2 := unhide HCJ w2 (unhide HR2)
                generalize ((wds x).map bs).length = nw at *
                generalize bs (wd x) = wt at *
                clear b2 hl8 hc8 hhd h8
                go_wp2_with fail
                refine (unhide K16 _ _ (unhide HV8) (unhide W0)).mono ?_
                rintro e w3 ⟨b3, cs, rfl, hcs, hi, h1⟩
                have B4 : Below w3.heap.size w3 ((w3.alloc (.cells zA 27)).setRow w3.heap.size cs) := below_setRow (bl_al (Below.refl _ _)) (Nat.le_refl _)
                have HSC4 := hide (((unhide HSC2).below b3).below B4)
                have HB4 := hide (bl_st B4 (bl_st b3 (unhide HB2)))
                have HR4 := hide ((B4.block _ (Array.getElem?_eq_some_iff.1 ((b3.block _ (Array.getElem?_eq_some_iff.1 (unhide HR2)).1).trans (unhide HR2))).1).trans ((b3.block _ (Array.getElem?_eq_some_iff.1 (unhide HR2)).1).trans (unhide HR2)))
                have H5 := hide (heap_alloc_new w3 (.cells zA 27))
                have HCS := hide hcs
                have HI := hide hi
                have H1 := hide h1
                clear b3 B4 hcs hi h1 wc cc2
                go_wp2_with (first | (with_reducible change wpList _ _ _ ({ dst := none, op := Op.store 27 (Operand.tmp 9) _, type := _, pos := _, after := _, guard := _ } :: _) _ _; refine wpList_store_row rfl 27 _ _ rfl w3.heap.size cs rfl rfl 27 zA (unhide H5) (unhide HI) (unhide HCS) (unhide H1) ?_; generalize (w3.alloc (.cells zA 27)).setRow w3.heap.size cs = w4 at *) | (at_builtin; refine wpList_app _ rfl _ _ rfl w.heap.size g1 t.length c1 (Lib.byteCells t) rfl (unhide HSC4).own ⟨#[101, 114, 114, 111, 114, 32, 102, 111, 114, 109, 10]⟩ rfl (by have := unhide HT; show t.length + 11 ≤ _; omega) (by have := (unhide HB4).size; omega) ?_; intro g2 c2 w5 o5 gr5 hg5; have HSC5 := hide ((unhide HSC4).app o5 gr5 hg5); have HB5 := hide ((unhide HSC4).app_below gr5 (unhide HB4) (Nat.le_refl _) (unhide HB4).size); have HR5 := hide ((unhide HSC4).app_row gr5 (unhide HR4) (by decide)); clear o5 gr5 hg5))
                go_round
                case rel => exact ⟨j + 1, g2, c2, unhide HJ, by go_num, by rw [unhide HE2]; simp, by rw [unhide HE2]; exact unhide HSC5, unhide HB5, unhide HR5⟩
                case measure => have := unhide HJ; simp [intOf]; omega
              | some a =>
                have HEF : Hid (conF (ls.take (j + 1)) ⟨pe0, pe0⟩ [] = if (stepF z (taOf a)).2 = 0 then ((stepF z (taOf a)).1, t ++ (toldF z (stepF z (taOf a)).1 ++ (codeB 0 ++ [10]))) else (z, t ++ (errB ++ [32] ++ codeB (stepF z (taOf a)).2 ++ [10]))) := hide (by
                  rw [unhide HE]; unfold lineF; rw [if_neg (unhide HN35), if_neg (fun e => hq e.1)]; unfold doC; rw [hact]
                  dsimp only
                  by_cases h0 : (stepF z (taOf a)).2 = 0
                  · rw [if_pos h0, if_pos h0]; unfold doneB; rw [if_pos rfl]
                  · rw [if_neg h0, if_neg h0]; unfold doneB; rw [if_neg h0]; simp)
                have hat := act_len hact
                rw [hact] at K16
                clear hq h35 hact w0
                obtain ⟨nw, hnwe⟩ : ∃ nw, nw = ((wds x).map bs).length := ⟨_, rfl⟩
                have nw0 : ((((wds x).map bs).length : Int) == 0) = false := by rw [beq_eq_false_iff_ne]; omega
                have nwp : (0 : Int) < (((wds x).map bs).length : Int) := by omega
                clear hone hwl hnwe
                go_wp2_with fail
                refine (unhide K15).mono ?_
                rintro e w2 ⟨v8, rfl, s8, b2⟩
                have HV8 := hide s8
                obtain ⟨A8, c8, rfl, h8⟩ := s8
                obtain ⟨b8, o8, rfl, hl8, hc8⟩ := h8 hnw
                have wc := hc8 0 hnw
                rw [hhd, Nat.add_zero] at wc
                have HSC2 := hide ((unhide HSC).below b2)
                have HB2 := hide (bl_st b2 (unhide HB))
                have HR2 := hide ((b2.block _ (Array.getElem?_eq_some_iff.1 (unhide HR)).1).trans (unhide HR))
                have cc2 := unhide HCJ w2 (unhide HR2)
                generalize ((wds x).map bs).length = nw at *
                generalize bs (wd x) = wt at *
                clear b2 hl8 hc8 hhd h8
                obtain ⟨zx, zy⟩ := (unhide HOK).pb
                have K22 := hide (fun lw W (tv : twV W lw z) => step48 lw z (taOf a) W tv ⟨by have := zx.q; omega, by have := zx.i; omega⟩ ⟨by have := zy.q; omega, by have := zy.i; omega⟩ (by show (bs a.t).size ≤ maxLen; rw [bs_size]; unfold maxLen; omega) ⟨zx.s.1, by have := zx.s.2; omega⟩ ⟨zx.e.1, by have := zx.e.2; omega⟩ ⟨zy.s.1, by have := zy.s.2; omega⟩ ⟨zy.e.1, by have := zy.e.2; omega⟩)
                have HPZ := hide ((unhide HOK).step (taOf a)).pb
                have HTL := hide (toldF_len (z := z) ((unhide HOK).step (taOf a)))
                have HSL := hide (step_len z (taOf a))
                have HCD := hide (step_code z (taOf a))
                unfold outD atV atA at K16
                unfold taOf at K22 HPZ HSL HCD HEF HTL
                obtain ⟨k, wh, tx, la, lb⟩ := a
                dsimp only at K16 K22 HPZ HSL HCD HEF HTL
                generalize bs tx = tt at *
                generalize stepF z ⟨k, wh, tt, la, lb⟩ = st at *
                obtain ⟨z', cd⟩ := st
                dsimp only at K22 HPZ HSL HCD HEF HTL
                clear zx zy hat
                go_wp2_with fail
                refine (unhide K16 _ _ (unhide HV8) (unhide W0)).mono ?_
                rintro e w3 ⟨b3, rfl⟩
                have B4 : Below w3.heap.size w3 (w3.alloc (.cells #[.int .i64 k, .int .i64 wh, .string tt, .bool la, .bool lb] 27)) := bl_al (Below.refl _ _)
                have HSC4 := hide (((unhide HSC2).below b3).below B4)
                have HB4 := hide (bl_st B4 (bl_st b3 (unhide HB2)))
                have HR4 := hide ((B4.block _ (Array.getElem?_eq_some_iff.1 ((b3.block _ (Array.getElem?_eq_some_iff.1 (unhide HR2)).1).trans (unhide HR2))).1).trans ((b3.block _ (Array.getElem?_eq_some_iff.1 (unhide HR2)).1).trans (unhide HR2)))
                have y0 := row_cell (i := 0) (heap_alloc_new w3 (.cells #[.int .i64 k, .int .i64 wh, .string tt, .bool la, .bool lb] 27))
                clear b3 B4 wc cc2 y0
                go_wp2_with fail
                refine (unhide K22 _ _ (unhide HSC4).tw).mono ?_
                rintro e w5 ⟨r, rfl, t5, o5, b5⟩
                have HT4 := hide ((unhide HSC4).tw.below b5)
                have HSL5 := hide ((unhide HSC4).below b5)
                have HSR5 := hide (SC.mk t5 (own_kept (unhide HSC4).own b5) (o5 g1 (unhide HSC4).row.2.1 (unhide HSC4).off))
                have HB5' := hide (bl_st b5 (unhide HB4))
                have HR5' := hide ((b5.block _ (Array.getElem?_eq_some_iff.1 (unhide HR4)).1).trans (unhide HR4))
                clear t5 o5 b5
                by_cases h0 : cd = 0
                · subst h0
                  have K24 := hide (told24 _ r z z' w5 (unhide HT4) (unhide HSR5).tw (unhide HSL).1 (unhide HSL).2 (unhide HPZ).1 (unhide HPZ).2)
                  have etb := bs_list (toldF z z')
                  have HTB : Hid ((bs (toldF z z')).size ≤ 9800) := hide (by rw [bs_size]; exact unhide HTL)
                  have HE2 : Hid (conF (ls.take (j + 1)) ⟨pe0, pe0⟩ [] = (z', t ++ (bs (toldF z z')).data.toList ++ (⟨#[111, 107, 10]⟩ : ByteArray).data.toList)) := hide (by rw [unhide HEF, if_pos rfl, etb, List.append_assoc]; rfl)
                  generalize bs (toldF z z') = tb at *
                  clear etb HEF HTL
                  go_wp2_with fail
                  refine (unhide K24).mono ?_
                  rintro e w6 ⟨rfl, b6⟩
                  have HSC6 := hide ((unhide HSR5).below b6)
                  have HB6 := hide (bl_st b6 (unhide HB5'))
                  have HR6 := hide ((b6.block _ (Array.getElem?_eq_some_iff.1 (unhide HR5')).1).trans (unhide HR5'))
                  clear b6
                  go_wp2_with (first
                    | (at_builtin; refine wpList_app _ rfl _ _ rfl w.heap.size g1 t.length c1 (Lib.byteCells t) rfl (unhide HSC6).own tb rfl (by have := unhide HT; have := unhide HTB; omega) (by have := (unhide HB6).size; omega) ?_; intro g7 c7 w7 o7 gr7 hg7; have HO7 := hide o7; have HSC7 := hide ((unhide HSC6).app o7 gr7 hg7); have HB7 := hide ((unhide HSC6).app_below gr7 (unhide HB6) (Nat.le_refl _) (unhide HB6).size); have HR7 := hide ((unhide HSC6).app_row gr7 (unhide HR6) (by decide)); clear o7 gr7 hg7)
                    | (at_builtin; refine wpList_app _ rfl _ _ rfl w.heap.size g7 (t.length + tb.size) c7 (Lib.byteCells t ++ Lib.strCells tb) rfl (unhide HO7) ⟨#[111, 107, 10]⟩ rfl (by have := unhide HT; have := unhide HTB; show t.length + tb.size + 3 ≤ _; omega) (by have := (unhide HB7).size; omega) ?_; intro g2 c2 w8 o8 gr8 hg8; have HSC5 := hide ((unhide HSC7).app (s := ⟨#[111, 107, 10]⟩) (by rw [List.length_append, Array.length_toList, ← byte_strs]; exact o8) gr8 hg8); have HB5 := hide ((unhide HSC7).app_below gr8 (unhide HB7) (Nat.le_refl _) (unhide HB7).size); have HR5 := hide ((unhide HSC7).app_row gr8 (unhide HR7) (by decide)); clear o8 gr8 hg8))
                  go_round
                  case rel => exact ⟨j + 1, g2, c2, unhide HJ, by go_num, by rw [unhide HE2, List.length_append, List.length_append, Array.length_toList]; rfl, by rw [unhide HE2]; exact unhide HSC5, unhide HB5, unhide HR5⟩
                  case measure => have := unhide HJ; simp [intOf]; omega
                · have hc1 := (unhide HCD).1
                  have hc2 := (unhide HCD).2
                  obtain ⟨ck, rfl⟩ : ∃ ck : Nat, cd = ck := ⟨cd.toNat, by omega⟩
                  have K23 := hide (fun W => word23 ck W (by omega))
                  have hcb := codeB_len ck
                  have HCB : Hid ((bs (codeB ck)).size ≤ 10) := hide (by rw [bs_size]; exact hcb)
                  have HE2 : Hid (conF (ls.take (j + 1)) ⟨pe0, pe0⟩ [] = (z, t ++ (⟨#[101, 114, 114, 111, 114, 32]⟩ ++ bs (codeB ck) ++ ⟨#[10]⟩ : ByteArray).data.toList)) := hide (by rw [unhide HEF, if_neg h0]; simp [bs_list, errB])
                  have h1 : ((ck : Int) == 0) = false := by rw [beq_eq_false_iff_ne]; exact h0
                  have hz10 : (bs (codeB ck)).size ≤ 10 := unhide HCB
                  generalize bs (codeB ck) = wx at *
                  clear hc1 hc2 hcb HEF HTL h0
                  go_wp2_with fail
                  refine (unhide K23 _).mono ?_
                  rintro e w6 ⟨rfl, b6⟩
                  have HSC6 := hide ((unhide HSL5).below b6)
                  have HB6 := hide (bl_st b6 (unhide HB5'))
                  have HR6 := hide ((b6.block _ (Array.getElem?_eq_some_iff.1 (unhide HR5')).1).trans (unhide HR5'))
                  clear b6
                  have hsx : (⟨#[101, 114, 114, 111, 114, 32]⟩ ++ wx ++ ⟨#[10]⟩ : ByteArray).size = 7 + wx.size := by rw [ByteArray.size_append, ByteArray.size_append]; show 6 + wx.size + 1 = _; omega
                  go_wp2_with (first | fail | (at_builtin; refine wpList_app _ rfl _ _ rfl w.heap.size g1 t.length c1 (Lib.byteCells t) rfl (unhide HSC6).own (⟨#[101, 114, 114, 111, 114, 32]⟩ ++ wx ++ ⟨#[10]⟩) rfl (by have := unhide HT; rw [hsx]; omega) (by have := (unhide HB6).size; omega) ?_; intro g2 c2 w8 o5 gr5 hg5; have HSC5 := hide ((unhide HSC6).app o5 gr5 hg5); have HB5 := hide ((unhide HSC6).app_below gr5 (unhide HB6) (Nat.le_refl _) (unhide HB6).size); have HR5 := hide ((unhide HSC6).app_row gr5 (unhide HR6) (by decide)); clear o5 gr5 hg5))
                  go_round
                  case rel => exact ⟨j + 1, g2, c2, unhide HJ, by go_num, by rw [unhide HE2, List.length_append, ← hsx]; rfl, by rw [unhide HE2]; exact unhide HSC5, unhide HB5, unhide HR5⟩
                  case measure => have := unhide HJ; simp [intOf]; omega
end Go.Proofs.YtbkcgkffafjbgaaGreatDoor
