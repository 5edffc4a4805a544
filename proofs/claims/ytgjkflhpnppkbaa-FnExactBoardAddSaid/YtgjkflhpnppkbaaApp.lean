/- Posts appended; slices.Concat of lists of posts. -/
import Derived.Test.YtgjkflhpnppkbaaPst
namespace Go.Proofs.Ytgjkflhpnppkbaa
open Go.RowKit
set_option maxHeartbeats 4000000
set_option maxRecDepth 20000
theorem flat_app : ∀ ps qs : List Pst, flatP (ps ++ qs) = flatP ps ++ flatP qs
  | [], _ => rfl
  | p :: ps, qs => by simp [flatP, flat_app ps qs]
theorem flat_one : ∀ (ps : List Pst), ∀ u ∈ flatP ps, u.oneCell' = true
  | [], u, h => by simp [flatP] at h
  | p :: ps, u, h => by
    simp only [flatP, List.mem_cons] at h
    rcases h with rfl | rfl | rfl | h
    · rfl
    · rfl
    · rfl
    · exact flat_one ps u h
theorem flat_cells {w : World} {b off : Nat} (ps : List Pst) (h : ∀ i, i < ps.length → PC b (off + i * 3) (ps.getD i noP) w) : ∀ j u, (flatP ps)[j]? = some u → w.cell? ((⟨b, off, none⟩ : Addr).add j) = some u := by
  intro j u hj
  have hl : j < ps.length * 3 := by
    rcases Nat.lt_or_ge j (ps.length * 3) with h | h
    · exact h
    · rw [List.getElem?_eq_none (by rw [flat_len]; exact h)] at hj; cases hj
  rw [Addr.add_lit]
  have hi : j / 3 < ps.length := by omega
  obtain ⟨f0, f1, f2⟩ := flat_at ps (j / 3) [] hi
  rw [List.append_nil] at f0 f1 f2
  obtain ⟨c0, c1, c2⟩ := h (j / 3) hi
  have hm : j % 3 = 0 ∨ j % 3 = 1 ∨ j % 3 = 2 := by omega
  rcases hm with hm | hm | hm
  · have e : j = j / 3 * 3 := by omega
    rw [e] at hj ⊢
    rw [f0] at hj
    rw [c0]; exact hj
  · have e : j = j / 3 * 3 + 1 := by omega
    rw [e] at hj ⊢
    rw [f1] at hj
    rw [← Nat.add_assoc, c1]; exact hj
  · have e : j = j / 3 * 3 + 2 := by omega
    rw [e] at hj ⊢
    rw [f2] at hj
    rw [← Nat.add_assoc, c2]; exact hj
theorem run_append_posts (w : World) (ty base k : Nat) (v : Value) (ps : List Pst) (hown : w.ownsRow base 34 3 v k (flatP ps)) (hv : ∃ g c, v = .slice (some ⟨g, 0, none⟩) k c) (u : Value) (qs : List Pst) (hu : postsV w u qs) (hm : k + qs.length ≤ 4194304) (hbase : base ≤ w.heap.size) :
    ∃ (g c : Nat) (w' : World), (Builtin.append_ #[25, 25] ty #[v, u]).run Try.prog w = .ok (.slice (some ⟨g, 0, none⟩) (k + qs.length) c) w' ∧ w'.ownsRow base 34 3 (.slice (some ⟨g, 0, none⟩) (k + qs.length) c) (k + qs.length) (flatP (ps ++ qs)) ∧ w.grownBy w' v.ownBlock := by
  obtain ⟨i0, hi0, hz0, hz1, hz2⟩ := info_parts info34
  obtain ⟨B, cbp, rfl, hc⟩ := hu
  rcases Nat.eq_zero_or_pos qs.length with e0 | h0
  · obtain rfl := List.length_eq_zero_iff.1 e0
    obtain ⟨g, c, rfl⟩ := hv
    have hk : k ≤ c := by
      rcases hown.2 with ⟨e, _⟩ | ⟨g', c', cur, e, _, _, h1, _⟩
      · simp at e
      · simp only [Value.slice.injEq] at e
        obtain ⟨_, _, rfl⟩ := e
        exact h1
    have hs : Src Try.prog i0.size 25 (.slice B 0 cbp) 0 [] w := by
      cases B with
      | none => exact Src.ofNil w Try.underlying25 cbp
      | some a => exact Src.ofSlice w Try.underlying25 a 0 cbp [] (by simp) (fun j u h => by simp at h) (fun u h => by cases h)
    have hr := run_append_room_src (P := Try.prog) w 25 25 ty 34 i0 Try.underlying25 hi0 g 0 k c _ 0 [] hs (by omega) (fun j h => by simp at h) (fun j h => by simp at h)
    exact ⟨g, c, w, hr, by rw [List.append_nil]; exact hown, World.grownBy.refl _ _⟩
  · obtain ⟨b, off, rfl, hlt, hcc⟩ := hc h0
    obtain ⟨g, c, w', h1, h2, h3, _, _⟩ := run_append_lies (P := Try.prog) w 25 ty base 34 i0 _ 3 32 Try.underlying25 hi0 hz0 hz1 hz2 rfl (by omega) v k (flatP ps) hown ⟨b, off, none⟩ qs.length cbp (flatP qs) (flat_len qs) (flat_cells qs hcc) (flat_one qs) h0 (by unfold maxLen; omega) (by omega) hbase _ rfl
    exact ⟨g, c, w', h1, by rw [flat_app]; exact h2, h3⟩
theorem wpList_append_posts (w : World) {ops : Array Oper} {rest : List Oper} {o : Oper} {a : Act} {Q : Exit → Act → World → Prop} (hgd : o.guard = none) (s x : Operand)
    (ho : o.op = .call { callee := .builtin .append, args := #[s, x], argTypes := #[25, 25] })
    (base k : Nat) (v : Value) (ps : List Pst) (hs : a.eval s = v) (hown : w.ownsRow base 34 3 v k (flatP ps)) (hv : ∃ g c, v = .slice (some ⟨g, 0, none⟩) k c) (u : Value) (qs : List Pst) (hxv : a.eval x = u) (hu : postsV w u qs) (hm : k + qs.length ≤ 4194304) (hbase : base ≤ w.heap.size)
    (h : ∀ (g c : Nat) (w' : World), w'.ownsRow base 34 3 (.slice (some ⟨g, 0, none⟩) (k + qs.length) c) (k + qs.length) (flatP (ps ++ qs)) → w.grownBy w' v.ownBlock → wpList Try.prog ops Q rest (a.put o.dst (.slice (some ⟨g, 0, none⟩) (k + qs.length) c)) w') : wpList Try.prog ops Q (o :: rest) a w :=
  wpList_plain hgd fun K hK => by
    obtain ⟨g, c, w', hr, h2, h4⟩ := run_append_posts w o.type base k v ps hown hv u qs hu hm hbase
    unfold Oper.wp execOp
    simp only [ho, resolve, invoke, builtin, Sem.run_bind, Sem.run_pure, Result.andThen_ok, List.map_toArray, List.map_cons, List.map_nil, hs, hxv, hr]
    exact hK _ _ (h g c w' h2 h4)
theorem step_append_posts (w : World) {ops : Array Oper} {o : Oper} {a : Act} {K : Act → World → Prop} {Q : Exit → Act → World → Prop} {E : Prop} (hgd : o.guard = none) (s x : Operand)
    (ho : o.op = .call { callee := .builtin .append, args := #[s, x], argTypes := #[25, 25] })
    (base k : Nat) (v : Value) (ps : List Pst) (hs : a.eval s = v) (hown : w.ownsRow base 34 3 v k (flatP ps)) (hv : ∃ g c, v = .slice (some ⟨g, 0, none⟩) k c) (u : Value) (qs : List Pst) (hxv : a.eval x = u) (hu : postsV w u qs) (hm : k + qs.length ≤ 4194304) (hbase : base ≤ w.heap.size)
    (h : ∀ (g c : Nat) (w' : World), w'.ownsRow base 34 3 (.slice (some ⟨g, 0, none⟩) (k + qs.length) c) (k + qs.length) (flatP (ps ++ qs)) → w.grownBy w' v.ownBlock → K (a.put o.dst (.slice (some ⟨g, 0, none⟩) (k + qs.length) c)) w') :
    if Region.wanted o (yielded ops a.tmps) = true then Oper.wp Try.prog o a w K Q else E := by
  have hw : Region.wanted o (yielded ops a.tmps) = true := by simp [Region.wanted, hgd]
  rw [if_pos hw]
  obtain ⟨g, c, w', hr, h2, h4⟩ := run_append_posts w o.type base k v ps hown hv u qs hu hm hbase
  unfold Oper.wp execOp
  simp only [ho, resolve, invoke, builtin, Sem.run_bind, Sem.run_pure, Result.andThen_ok, List.map_toArray, List.map_cons, List.map_nil, hs, hxv, hr]
  exact h g c w' h2 h4
theorem own_row {w : World} {base n : Nat} {v : Value} {ps : List Pst} (h : w.ownsRow base 34 3 v n (flatP ps)) (hv : ∃ g c, v = .slice (some ⟨g, 0, none⟩) n c) :
    ∃ g cap rest, v = .slice (some ⟨g, 0, none⟩) n cap ∧ base ≤ g ∧ g < w.heap.size ∧ n ≤ cap ∧ ps.length = n ∧ w.heap[g]? = some (pstO ps rest) := by
  obtain ⟨g0, c0, rfl⟩ := hv
  have hl := h.1
  rw [flat_len] at hl
  rcases h.2 with ⟨e, h0⟩ | ⟨g, cap, cur, hv, hb, hg, hc, _, _, ht⟩
  · simp at e
  · refine ⟨g, cap, cur.toList.drop (n * 3), hv, hb, (Array.getElem?_eq_some_iff.1 hg).1, hc, by omega, ?_⟩
    rw [hg, pstO]
    congr 2
    rw [← ht, List.take_append_drop]
theorem own_own {w : World} {base n : Nat} {v : Value} {ps : List Pst} (h : w.ownsRow base 34 3 v n (flatP ps)) (hv : ∃ g c, v = .slice (some ⟨g, 0, none⟩) n c) : ownP base w.heap.size w v ps := by
  obtain ⟨g, cap, rest, rfl, hb, hl, hc, hn, ho⟩ := own_row h hv
  exact .inr ⟨g, cap, rest, by rw [hn], hb, hl, ho, by omega⟩
theorem flat_list (N : Nat) : Builtin.zeroCells (Value.agg #[.int .i64 0, .int .i64 0, .string ⟨#[]⟩]).cells N = (flatP (List.replicate N noP)).toArray := by
  rw [flat_rep]
  apply Array.ext_getElem?
  intro i
  by_cases hi : i < N * 3
  · simp [Builtin.zeroCells, Value.cells, hi]
  · simp [Builtin.zeroCells, Value.cells, hi]
theorem run_append_nil_zeros (w : World) (ty N : Nat) (hN : 0 < N) (hm : N ≤ 4194304) :
    ∃ (c : Nat) (w' : World), (Builtin.append_ #[25, 3] ty #[.slice none 0 0, .int .i64 (N : Int)]).run Try.prog w = .ok (.slice (some ⟨w.heap.size, 0, none⟩) N c) w' ∧ w'.ownsRow w.heap.size 34 3 (.slice (some ⟨w.heap.size, 0, none⟩) N c) N (flatP (List.replicate N noP)) ∧ Below w.heap.size w w' := by
  obtain ⟨i0, hi0, hz0, hz1, hz2⟩ := info_parts info34
  have hold : (Builtin.firstCells i0.size 0 (.slice none 0 0)).run Try.prog w.drew = .ok (flatP []).toArray w.drew := by rfl
  have hr := Lib.run_append_grow_zeros (P := Try.prog) w 25 3 ty 34 i0 _ .i64 .i64 Try.underlying25 Try.underlying3 hi0 hz0 none 0 0 _ hold N hN (by rw [hz1]; omega) (by omega) (by omega) (by rw [hz2]; omega) (growslice_fits (by omega) (by rw [hz2]; omega))
  rw [flat_list, flat_list] at hr
  have hge := grownCap_ge w (0 + N) 0 34
  have hlen : (flatP (List.replicate N noP)).length = N * 3 := by rw [flat_len]; simp
  rw [Nat.zero_add] at hr hge
  refine ⟨_, _, hr, ⟨hlen, .inr ⟨w.heap.size, _, _, rfl, Nat.le_refl _, heap_alloc_new w.drew _, hge, grownCap_le_maxLen w N 0 34 (by unfold maxLen; omega), ?_, ?_⟩⟩, ⟨rfl, rfl, rfl, by simp, fun j hj => Below.heap_alloc w.drew _ j hj⟩⟩
  · simp [flat_len, flatP]; omega
  · rw [← hlen]
    generalize (flatP (List.replicate (grownCap w N 0 34 - N) noP)).toArray = Z
    have e : (flatP []).toArray ++ (flatP (List.replicate N noP)).toArray ++ Z = (flatP (List.replicate N noP) ++ Z.toList).toArray := by simp [flatP]
    rw [e, List.take_left]
theorem own_none_of {w : World} {base g N c : Nat} {xs : List Value} (h : w.ownsRow base 34 3 (.slice (some ⟨g, 0, none⟩) N c) N xs) : w.ownsRow base 34 3 (.slice (some ⟨g, 0, none⟩) 0 c) 0 (flatP []) := by
  rcases h.2 with ⟨e, _⟩ | ⟨g', cap, cur, e, h1, h2, h3, h4, h5, h6⟩
  · simp at e
  · simp only [Value.slice.injEq, Option.some.injEq, Addr.mk.injEq, and_true, true_and] at e
    obtain ⟨rfl, rfl⟩ := e
    exact ⟨rfl, .inr ⟨g, c, cur, rfl, h1, h2, Nat.zero_le _, h4, h5, by simp [flatP]⟩⟩
theorem wpList_append_nil_zeros (w : World) {ops : Array Oper} {rest : List Oper} {o : Oper} {a : Act} {Q : Exit → Act → World → Prop} (hgd : o.guard = none) (s x : Operand)
    (ho : o.op = .call { callee := .builtin .append, args := #[s, x], argTypes := #[25, 3] })
    (N : Nat) (hs : a.eval s = .slice none 0 0) (hxv : a.eval x = .int .i64 (N : Int)) (hN : 0 < N) (hm : N ≤ 4194304)
    (h : ∀ (g c : Nat) (w' : World), w'.ownsRow w.heap.size 34 3 (.slice (some ⟨g, 0, none⟩) N c) N (flatP (List.replicate N noP)) → Below w.heap.size w w' → wpList Try.prog ops Q rest (a.put o.dst (.slice (some ⟨g, 0, none⟩) N c)) w') : wpList Try.prog ops Q (o :: rest) a w :=
  wpList_plain hgd fun K hK => by
    obtain ⟨c, w', hr, h2, h4⟩ := run_append_nil_zeros w o.type N hN hm
    unfold Oper.wp execOp
    simp only [ho, resolve, invoke, builtin, Sem.run_bind, Sem.run_pure, Result.andThen_ok, List.map_toArray, List.map_cons, List.map_nil, hs, hxv, hr]
    exact hK _ _ (h _ c w' h2 h4)
theorem grow34 (N : Nat) (hN : 0 < N) (hm : N ≤ 4194304) (w : World) :
    Calls Try.prog 34 #[.slice none 0 0, .int .i64 (N : Int)] w fun e w' => ∃ g c, e = .returned (.slice (some ⟨g, 0, none⟩) 0 c) ∧ w'.ownsRow w.heap.size 34 3 (.slice (some ⟨g, 0, none⟩) 0 c) 0 (flatP []) ∧ Below w.heap.size w w' := by
  have q0 : (0 : Int) < (N : Int) := by omega
  have q1 : (0 : Int) ≤ (N : Int) := by omega
  have HN := hide hN
  clear hN
  go_enter Try.func34, Try.ntmps34
  go_wp2_with (at_builtin; refine wpList_append_nil_zeros _ rfl _ _ rfl N rfl rfl (unhide HN) hm ?_; intro g c w1 o1 b1)
  go_ret
  exact ⟨g, c, rfl, own_none_of o1, b1⟩
/-- slices.Concat of two lists of posts that aren't both empty -/
theorem cat25 (q : Nat) (v0 v1 : Value) (ps qs : List Pst) (w : World) (hq : w.heap[q]? = some (.cells #[v0, v1] 25 (0, 0))) (h0 : postsV w v0 ps) (h1 : postsV w v1 qs) (hn : 0 < ps.length + qs.length) (hm : ps.length + qs.length ≤ 4194304) :
    Calls Try.prog 25 #[.slice (some ⟨q, 0, none⟩) 2 2] w fun e w' => ∃ g c, e = .returned (.slice (some ⟨g, 0, none⟩) (ps.length + qs.length) c) ∧ w'.ownsRow w.heap.size 34 3 (.slice (some ⟨g, 0, none⟩) (ps.length + qs.length) c) (ps.length + qs.length) (flatP (ps ++ qs)) ∧ Below w.heap.size w w' := by
  have HQ := hide hq
  have H0 := hide h0
  have H1 := hide h1
  obtain ⟨A0, k0, rfl, x0⟩ := h0
  obtain ⟨A1, k1, rfl, x1⟩ := h1
  clear x0 x1
  have c0 : w.cell? ⟨q, 0, none⟩ = some (.slice A0 ps.length k0) := row_cell hq
  have c1 : w.cell? ⟨q, 1, none⟩ = some (.slice A1 qs.length k1) := row_cell hq
  have n0 : (0 : Int) ≤ (ps.length : Int) := by omega
  have n1 : (0 : Int) ≤ (qs.length : Int) := by omega
  have n2 : (ps.length : Int) + (qs.length : Int) ≤ 4194304 := by omega
  have HN := hide hn
  have HM := hide hm
  have hgr := hide (grow34 (ps.length + qs.length) hn hm w)
  rw [show ((ps.length + qs.length : Nat) : Int) = (ps.length : Int) + (qs.length : Int) by omega] at hgr
  have LQ := hide (Array.getElem?_eq_some_iff.1 hq).1
  clear hq hn hm
  go_enter Try.func25, Try.ntmps25
  go_wp2
  refine wp_loop_rounds 3 ?_
  rw [rounds_succ]; go_wp2
  rw [rounds_succ]; go_wp2
  rw [rounds_succ]; go_wp2_with fail
  refine (unhide hgr).mono ?_
  rintro e w1 ⟨g, c, rfl, o1, b1⟩
  have O1 := hide o1
  have B1 := hide b1
  have d0 := (cell_below b1 (unhide LQ)).trans c0
  have V0 := hide ((unhide H0).below b1)
  have M0 := hide (show 0 + ps.length ≤ 4194304 by have := unhide HM; omega)
  clear o1 b1 hgr c0
  have c1' := hide c1
  clear c1
  go_wp2
  refine wp_loop_rounds 3 ?_
  rw [rounds_succ]
  go_wp2_with (at_builtin; refine wpList_append_posts _ rfl _ _ rfl w.heap.size 0 _ [] rfl (unhide O1) ⟨_, _, rfl⟩ _ ps rfl (unhide V0) (unhide M0) (unhide B1).size ?_; intro g2 c2 w2 o2 gr2)
  have b2 : Below w.heap.size w w2 := Below.grown (unhide B1) gr2 (unhide B1).size fun k' hk' => ((unhide O1).lt k' hk').1
  rw [Nat.zero_add, List.nil_append] at o2
  have O2 := hide o2
  have B2 := hide b2
  have d1 := (cell_below b2 (unhide LQ)).trans (unhide c1')
  have V1 := hide ((unhide H1).below b2)
  clear o2 b2 gr2 d0
  rw [rounds_succ]
  go_wp2_with (at_builtin; refine wpList_append_posts _ rfl _ _ rfl w.heap.size ps.length _ ps rfl (unhide O2) ⟨_, _, rfl⟩ _ qs rfl (unhide V1) (unhide HM) (unhide B2).size ?_; intro g3 c3 w3 o3 gr3)
  have b3 : Below w.heap.size w w3 := Below.grown (unhide B2) gr3 (unhide B2).size fun k' hk' => ((unhide O2).lt k' hk').1
  have O3 := hide o3
  have B3 := hide b3
  clear o3 b3 gr3 d1
  rw [rounds_succ]
  go_wp2
  go_ret
  exact ⟨g3, c3, rfl, unhide O3, unhide B3⟩
end Go.Proofs.Ytgjkflhpnppkbaa
