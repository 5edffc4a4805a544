/- Accesses and texts appended. -/
import Derived.Test.YtggiijlgdpkkfaaAcs
namespace Go.Proofs.Ytggiijlgdpkkfaa
open Go.RowKit
set_option maxHeartbeats 4000000
set_option maxRecDepth 20000
theorem flat_one : ∀ (ps : List Acs), ∀ u ∈ flatA ps, u.oneCell' = true
  | [], u, h => by simp [flatA] at h
  | p :: ps, u, h => by
    simp only [flatA, List.mem_cons] at h
    rcases h with rfl | rfl | h
    · rfl
    · rfl
    · exact flat_one ps u h
theorem flat_cells {w : World} {b off : Nat} (ps : List Acs) (h : ∀ i, i < ps.length → PC b (off + i * 2) (ps.getD i noA) w) : ∀ j u, (flatA ps)[j]? = some u → w.cell? ((⟨b, off, none⟩ : Addr).add j) = some u := by
  intro j u hj
  have hl : j < ps.length * 2 := by
    rcases Nat.lt_or_ge j (ps.length * 2) with h | h
    · exact h
    · rw [List.getElem?_eq_none (by rw [flat_len]; exact h)] at hj; cases hj
  rw [Addr.add_lit]
  have hi : j / 2 < ps.length := by omega
  obtain ⟨f0, f1⟩ := flat_at ps (j / 2) [] hi
  rw [List.append_nil] at f0 f1
  obtain ⟨c0, c1⟩ := h (j / 2) hi
  have hm : j % 2 = 0 ∨ j % 2 = 1 := by omega
  rcases hm with hm | hm
  · have e : j = j / 2 * 2 := by omega
    rw [e] at hj ⊢
    rw [f0] at hj
    rw [c0]; exact hj
  · have e : j = j / 2 * 2 + 1 := by omega
    rw [e] at hj ⊢
    rw [f1] at hj
    rw [← Nat.add_assoc, c1]; exact hj
theorem str_one (ts : List ByteArray) : ∀ u ∈ ts.map Value.string, u.oneCell' = true := by
  intro u hu; obtain ⟨t, _, rfl⟩ := List.mem_map.1 hu; rfl
theorem str_cells {w : World} {b off : Nat} (ts : List ByteArray) (h : ∀ i, i < ts.length → w.cell? ⟨b, off + i, none⟩ = some (.string (ts.getD i noS))) : ∀ j u, (ts.map Value.string)[j]? = some u → w.cell? ((⟨b, off, none⟩ : Addr).add j) = some u := by
  intro j u hj
  rw [List.getElem?_map] at hj
  have hl : j < ts.length := by
    rcases Nat.lt_or_ge j ts.length with h | h
    · exact h
    · rw [List.getElem?_eq_none h] at hj; cases hj
  rw [List.getElem?_eq_getElem hl] at hj
  cases hj
  rw [Addr.add_lit, h j hl, List.getD_eq_getElem?_getD, List.getElem?_eq_getElem hl]
  rfl
theorem run_append_acs (w : World) (ty base k : Nat) (v : Value) (ps : List Acs) (hown : w.ownsRow base 27 2 v k (flatA ps)) (hv : ∃ g c, v = .slice (some ⟨g, 0, none⟩) k c) (u : Value) (qs : List Acs) (hu : acsV w u qs) (hm : k + qs.length ≤ 4194304) (hbase : base ≤ w.heap.size) :
    ∃ (g c : Nat) (w' : World), (Builtin.append_ #[23, 23] ty #[v, u]).run Try.prog w = .ok (.slice (some ⟨g, 0, none⟩) (k + qs.length) c) w' ∧ w'.ownsRow base 27 2 (.slice (some ⟨g, 0, none⟩) (k + qs.length) c) (k + qs.length) (flatA (ps ++ qs)) ∧ w.grownBy w' v.ownBlock := by
  obtain ⟨i0, hi0, hz0, hz1, hz2⟩ := info_parts info27
  obtain ⟨B, cbp, rfl, hc⟩ := hu
  rcases Nat.eq_zero_or_pos qs.length with e0 | h0
  · obtain rfl := List.length_eq_zero_iff.1 e0
    obtain ⟨g, c, rfl⟩ := hv
    have hk : k ≤ c := by
      rcases hown.2 with ⟨e, _⟩ | ⟨g', c', cur, e, _, _, h1, _⟩
      · simp at e
      · simp only [Value.slice.injEq] at e
        obtain ⟨_, _, rfl⟩ := e
        exact h1
    have hs : Src Try.prog i0.size 23 (.slice B 0 cbp) 0 [] w := by
      cases B with
      | none => exact Src.ofNil w Try.underlying23 cbp
      | some a => exact Src.ofSlice w Try.underlying23 a 0 cbp [] (by simp) (fun j u h => by simp at h) (fun u h => by cases h)
    have hr := run_append_room_src (P := Try.prog) w 23 23 ty 27 i0 Try.underlying23 hi0 g 0 k c _ 0 [] hs (by omega) (fun j h => by simp at h) (fun j h => by simp at h)
    exact ⟨g, c, w, hr, by rw [List.append_nil]; exact hown, World.grownBy.refl _ _⟩
  · obtain ⟨b, off, rfl, hlt, hcc⟩ := hc h0
    obtain ⟨g, c, w', h1, h2, h3, _, _⟩ := run_append_lies (P := Try.prog) w 23 ty base 27 i0 _ 2 32 Try.underlying23 hi0 hz0 hz1 hz2 rfl (by omega) v k (flatA ps) hown ⟨b, off, none⟩ qs.length cbp (flatA qs) (flat_len qs) (flat_cells qs hcc) (flat_one qs) h0 (by unfold maxLen; omega) (by omega) hbase _ rfl
    exact ⟨g, c, w', h1, by rw [flat_app]; exact h2, h3⟩
theorem wpList_append_acs (w : World) {ops : Array Oper} {rest : List Oper} {o : Oper} {a : Act} {Q : Exit → Act → World → Prop} (hgd : o.guard = none) (s x : Operand)
    (ho : o.op = .call { callee := .builtin .append, args := #[s, x], argTypes := #[23, 23] })
    (base k : Nat) (v : Value) (ps : List Acs) (hs : a.eval s = v) (hown : w.ownsRow base 27 2 v k (flatA ps)) (hv : ∃ g c, v = .slice (some ⟨g, 0, none⟩) k c) (u : Value) (qs : List Acs) (hxv : a.eval x = u) (hu : acsV w u qs) (hm : k + qs.length ≤ 4194304) (hbase : base ≤ w.heap.size)
    (h : ∀ (g c : Nat) (w' : World), w'.ownsRow base 27 2 (.slice (some ⟨g, 0, none⟩) (k + qs.length) c) (k + qs.length) (flatA (ps ++ qs)) → w.grownBy w' v.ownBlock → wpList Try.prog ops Q rest (a.put o.dst (.slice (some ⟨g, 0, none⟩) (k + qs.length) c)) w') : wpList Try.prog ops Q (o :: rest) a w :=
  wpList_plain hgd fun K hK => by
    obtain ⟨g, c, w', hr, h2, h4⟩ := run_append_acs w o.type base k v ps hown hv u qs hu hm hbase
    unfold Oper.wp execOp
    simp only [ho, resolve, invoke, builtin, Sem.run_bind, Sem.run_pure, Result.andThen_ok, List.map_toArray, List.map_cons, List.map_nil, hs, hxv, hr]
    exact hK _ _ (h g c w' h2 h4)
theorem own_acs {w : World} {base n : Nat} {v : Value} {ps : List Acs} (h : w.ownsRow base 27 2 v n (flatA ps)) (hv : ∃ g c, v = .slice (some ⟨g, 0, none⟩) n c) : ownA base w.heap.size w v ps := by
  obtain ⟨g0, c0, rfl⟩ := hv
  have hl := h.1
  rw [flat_len] at hl
  rcases h.2 with ⟨e, h0⟩ | ⟨g, cap, cur, hv, hb, hg, hc, _, _, ht⟩
  · simp at e
  · have hn : ps.length = n := by omega
    rw [hv]
    refine .inr ⟨g, cap, cur.toList.drop (n * 2), by rw [hn], hb, (Array.getElem?_eq_some_iff.1 hg).1, ?_, by omega⟩
    rw [hg, acsO]
    congr 2
    rw [← ht, List.take_append_drop]
theorem run_append_strs (w : World) (ty base k : Nat) (v : Value) (ps : List ByteArray) (hown : w.ownsRow base 9 1 v k (ps.map Value.string)) (hv : ∃ g c, v = .slice (some ⟨g, 0, none⟩) k c) (u : Value) (qs : List ByteArray) (hu : strsV w u qs) (hm : k + qs.length ≤ 4194304) (hbase : base ≤ w.heap.size) :
    ∃ (g c : Nat) (w' : World), (Builtin.append_ #[25, 25] ty #[v, u]).run Try.prog w = .ok (.slice (some ⟨g, 0, none⟩) (k + qs.length) c) w' ∧ w'.ownsRow base 9 1 (.slice (some ⟨g, 0, none⟩) (k + qs.length) c) (k + qs.length) ((ps ++ qs).map Value.string) ∧ w.grownBy w' v.ownBlock := by
  obtain ⟨i0, hi0, hz0, hz1, hz2⟩ := info_parts info9
  obtain ⟨B, cbp, rfl, hc⟩ := hu
  rcases Nat.eq_zero_or_pos qs.length with e0 | h0
  · obtain rfl := List.length_eq_zero_iff.1 e0
    obtain ⟨g, c, rfl⟩ := hv
    have hk : k ≤ c := by
      rcases hown.2 with ⟨e, _⟩ | ⟨g', c', cur, e, _, _, h1, _⟩
      · simp at e
      · simp only [Value.slice.injEq] at e
        obtain ⟨_, _, rfl⟩ := e
        exact h1
    have hs : Src Try.prog i0.size 25 (.slice B 0 cbp) 0 [] w := by
      cases B with
      | none => exact Src.ofNil w Try.underlying25 cbp
      | some a => exact Src.ofSlice w Try.underlying25 a 0 cbp [] (by simp) (fun j u h => by simp at h) (fun u h => by cases h)
    have hr := run_append_room_src (P := Try.prog) w 25 25 ty 9 i0 Try.underlying25 hi0 g 0 k c _ 0 [] hs (by omega) (fun j h => by simp at h) (fun j h => by simp at h)
    exact ⟨g, c, w, hr, by rw [List.append_nil]; exact hown, World.grownBy.refl _ _⟩
  · obtain ⟨b, off, rfl, hlt, hcc⟩ := hc h0
    obtain ⟨g, c, w', h1, h2, h3, _, _⟩ := run_append_lies (P := Try.prog) w 25 ty base 9 i0 _ 1 16 Try.underlying25 hi0 hz0 hz1 hz2 rfl (by omega) v k (ps.map Value.string) hown ⟨b, off, none⟩ qs.length cbp (qs.map Value.string) (by simp) (str_cells qs hcc) (str_one qs) h0 (by unfold maxLen; omega) (by omega) hbase _ rfl
    exact ⟨g, c, w', h1, by rw [List.map_append]; exact h2, h3⟩
theorem wpList_append_strs (w : World) {ops : Array Oper} {rest : List Oper} {o : Oper} {a : Act} {Q : Exit → Act → World → Prop} (hgd : o.guard = none) (s x : Operand)
    (ho : o.op = .call { callee := .builtin .append, args := #[s, x], argTypes := #[25, 25] })
    (base k : Nat) (v : Value) (ps : List ByteArray) (hs : a.eval s = v) (hown : w.ownsRow base 9 1 v k (ps.map Value.string)) (hv : ∃ g c, v = .slice (some ⟨g, 0, none⟩) k c) (u : Value) (qs : List ByteArray) (hxv : a.eval x = u) (hu : strsV w u qs) (hm : k + qs.length ≤ 4194304) (hbase : base ≤ w.heap.size)
    (h : ∀ (g c : Nat) (w' : World), w'.ownsRow base 9 1 (.slice (some ⟨g, 0, none⟩) (k + qs.length) c) (k + qs.length) ((ps ++ qs).map Value.string) → w.grownBy w' v.ownBlock → wpList Try.prog ops Q rest (a.put o.dst (.slice (some ⟨g, 0, none⟩) (k + qs.length) c)) w') : wpList Try.prog ops Q (o :: rest) a w :=
  wpList_plain hgd fun K hK => by
    obtain ⟨g, c, w', hr, h2, h4⟩ := run_append_strs w o.type base k v ps hown hv u qs hu hm hbase
    unfold Oper.wp execOp
    simp only [ho, resolve, invoke, builtin, Sem.run_bind, Sem.run_pure, Result.andThen_ok, List.map_toArray, List.map_cons, List.map_nil, hs, hxv, hr]
    exact hK _ _ (h g c w' h2 h4)
theorem own_strs {w : World} {base n : Nat} {v : Value} {ps : List ByteArray} (h : w.ownsRow base 9 1 v n (ps.map Value.string)) (hv : ∃ g c, v = .slice (some ⟨g, 0, none⟩) n c) : ownS base w.heap.size w v ps := by
  obtain ⟨g0, c0, rfl⟩ := hv
  have hl := h.1
  rw [List.length_map] at hl
  rcases h.2 with ⟨e, h0⟩ | ⟨g, cap, cur, hv, hb, hg, hc, _, _, ht⟩
  · simp at e
  · have hn : ps.length = n := by omega
    rw [hv]
    refine .inr ⟨g, cap, cur.toList.drop (n * 1), by rw [hn], hb, (Array.getElem?_eq_some_iff.1 hg).1, ?_, by omega⟩
    rw [hg, strO]
    congr 2
    rw [← ht, List.take_append_drop]
end Go.Proofs.Ytggiijlgdpkkfaa
