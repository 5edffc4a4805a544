/- Salts and bools appended; a copy of salts. -/
import Derived.Test.YthckgccfjpgbaaaOku
import Derived.Laws.AppendOwn
import Derived.Deep.AppendLies
import Derived.Deep.AppendSrc
import Derived.Lib.SliceRun
namespace Go.Proofs.Ythckgccfjpgbaaa
open Go.RowKit
set_option maxHeartbeats 4000000
set_option maxRecDepth 20000
theorem flatS_len (ps : List Slt) : (flatS ps).length = ps.length * 2 := flat_len ps
theorem flatS_app : ∀ ps qs : List Slt, flatS (ps ++ qs) = flatS ps ++ flatS qs
  | [], _ => rfl
  | p :: ps, qs => by simp [flatS, flatS_app ps qs]
theorem flatS_one : ∀ (ps : List Slt), ∀ u ∈ flatS ps, u.oneCell' = true
  | [], u, h => by simp [flatS] at h
  | p :: ps, u, h => by
    simp only [flatS, List.mem_cons] at h
    rcases h with rfl | rfl | h
    · rfl
    · rfl
    · exact flatS_one ps u h
theorem flatS_cells {w : World} {b off : Nat} (ps : List Slt) (h : ∀ i, i < ps.length → SC b (off + i * 2) (ps.getD i noA) w) : ∀ j u, (flatS ps)[j]? = some u → w.cell? ((⟨b, off, none⟩ : Addr).add j) = some u := by
  intro j u hj
  have hl : j < ps.length * 2 := by
    rcases Nat.lt_or_ge j (ps.length * 2) with h | h
    · exact h
    · rw [List.getElem?_eq_none (by rw [flat_len]; exact h)] at hj; cases hj
  rw [Addr.add_lit]
  have hi : j / 2 < ps.length := by omega
  obtain ⟨f0, f1⟩ := flat_at ps (j / 2) [] hi
  rw [List.append_nil] at f0 f1
  obtain ⟨c0, c1⟩ := h (j / 2) hi
  have hm : j % 2 = 0 ∨ j % 2 = 1 := by omega
  rcases hm with hm | hm
  · have e : j = j / 2 * 2 := by omega
    rw [e] at hj ⊢
    rw [f0] at hj
    rw [c0]; exact hj
  · have e : j = j / 2 * 2 + 1 := by omega
    rw [e] at hj ⊢
    rw [f1] at hj
    rw [← Nat.add_assoc, c1]; exact hj
def flatB (bs : List Bool) : List Value := bs.map Value.bool
theorem flatB_len (bs : List Bool) : (flatB bs).length = bs.length * 1 := by simp [flatB]
theorem flatB_app (ps qs : List Bool) : flatB (ps ++ qs) = flatB ps ++ flatB qs := by simp [flatB]
theorem flatB_one (ps : List Bool) : ∀ u ∈ flatB ps, u.oneCell' = true := by
  intro u hu
  obtain ⟨b, _, rfl⟩ := List.mem_map.1 hu
  rfl
theorem flatB_cells {w : World} {b off : Nat} (ps : List Bool) (h : ∀ i, i < ps.length → w.cell? ⟨b, off + i, none⟩ = some (.bool (ps.getD i false))) : ∀ j u, (flatB ps)[j]? = some u → w.cell? ((⟨b, off, none⟩ : Addr).add j) = some u := by
  intro j u hj
  have hl : j < ps.length := by
    rcases Nat.lt_or_ge j ps.length with h | h
    · exact h
    · rw [List.getElem?_eq_none (by simpa [flatB] using h)] at hj; cases hj
  rw [Addr.add_lit, h j hl, List.getD_eq_getElem?_getD]
  simp only [flatB, List.getElem?_map] at hj
  cases hg : ps[j]? with
  | none => rw [hg] at hj; cases hj
  | some x => rw [hg] at hj; exact hj
theorem run_append_salts (w : World) (ty base k : Nat) (v : Value) (ps : List Slt) (hown : w.ownsRow base 67 2 v k (flatS ps)) (hv : ∃ g c, v = .slice (some ⟨g, 0, none⟩) k c) (u : Value) (qs : List Slt) (hu : saltsV w u qs) (hm : k + qs.length ≤ 4194304) (hbase : base ≤ w.heap.size) :
    ∃ (g c : Nat) (w' : World), (Builtin.append_ #[23, 23] ty #[v, u]).run Try.prog w = .ok (.slice (some ⟨g, 0, none⟩) (k + qs.length) c) w' ∧ w'.ownsRow base 67 2 (.slice (some ⟨g, 0, none⟩) (k + qs.length) c) (k + qs.length) (flatS (ps ++ qs)) ∧ w.grownBy w' v.ownBlock := by
  obtain ⟨i0, hi0, hz0, hz1, hz2⟩ := info_parts info67
  obtain ⟨B, cbp, rfl, hc⟩ := hu
  rcases Nat.eq_zero_or_pos qs.length with e0 | h0
  · obtain rfl := List.length_eq_zero_iff.1 e0
    obtain ⟨g, c, rfl⟩ := hv
    have hk : k ≤ c := by
      rcases hown.2 with ⟨e, _⟩ | ⟨g', c', cur, e, _, _, h1, _⟩
      · simp at e
      · simp only [Value.slice.injEq] at e
        obtain ⟨_, _, rfl⟩ := e
        exact h1
    have hs : Src Try.prog i0.size 23 (.slice B 0 cbp) 0 [] w := by
      cases B with
      | none => exact Src.ofNil w Try.underlying23 cbp
      | some a => exact Src.ofSlice w Try.underlying23 a 0 cbp [] (by simp) (fun j u h => by simp at h) (fun u h => by cases h)
    have hr := run_append_room_src (P := Try.prog) w 23 23 ty 67 i0 Try.underlying23 hi0 g 0 k c _ 0 [] hs (by omega) (fun j h => by simp at h) (fun j h => by simp at h)
    exact ⟨g, c, w, hr, by rw [List.append_nil]; exact hown, World.grownBy.refl _ _⟩
  · obtain ⟨b, off, rfl, hlt, hcc⟩ := hc h0
    obtain ⟨g, c, w', h1, h2, h3, _, _⟩ := run_append_lies (P := Try.prog) w 23 ty base 67 i0 _ 2 16 Try.underlying23 hi0 hz0 hz1 hz2 rfl (by omega) v k (flatS ps) hown ⟨b, off, none⟩ qs.length cbp (flatS qs) (flatS_len qs) (flatS_cells qs hcc) (flatS_one qs) h0 (by unfold maxLen; omega) (by omega) hbase _ rfl
    exact ⟨g, c, w', h1, by rw [flatS_app]; exact h2, h3⟩
theorem wpList_append_salts (w : World) {ops : Array Oper} {rest : List Oper} {o : Oper} {a : Act} {Q : Exit → Act → World → Prop} (hgd : o.guard = none) (s x : Operand)
    (ho : o.op = .call { callee := .builtin .append, args := #[s, x], argTypes := #[23, 23] })
    (base k : Nat) (v : Value) (ps : List Slt) (hs : a.eval s = v) (hown : w.ownsRow base 67 2 v k (flatS ps)) (hv : ∃ g c, v = .slice (some ⟨g, 0, none⟩) k c) (u : Value) (qs : List Slt) (hxv : a.eval x = u) (hu : saltsV w u qs) (hm : k + qs.length ≤ 4194304) (hbase : base ≤ w.heap.size)
    (h : ∀ (g c : Nat) (w' : World), w'.ownsRow base 67 2 (.slice (some ⟨g, 0, none⟩) (k + qs.length) c) (k + qs.length) (flatS (ps ++ qs)) → w.grownBy w' v.ownBlock → wpList Try.prog ops Q rest (a.put o.dst (.slice (some ⟨g, 0, none⟩) (k + qs.length) c)) w') : wpList Try.prog ops Q (o :: rest) a w :=
  wpList_plain hgd fun K hK => by
    obtain ⟨g, c, w', hr, h2, h4⟩ := run_append_salts w o.type base k v ps hown hv u qs hu hm hbase
    unfold Oper.wp execOp
    simp only [ho, resolve, invoke, builtin, Sem.run_bind, Sem.run_pure, Result.andThen_ok, List.map_toArray, List.map_cons, List.map_nil, hs, hxv, hr]
    exact hK _ _ (h g c w' h2 h4)
theorem step_append_salts (w : World) {ops : Array Oper} {o : Oper} {a : Act} {K : Act → World → Prop} {Q : Exit → Act → World → Prop} {E : Prop} (hgd : o.guard = none) (s x : Operand)
    (ho : o.op = .call { callee := .builtin .append, args := #[s, x], argTypes := #[23, 23] })
    (base k : Nat) (v : Value) (ps : List Slt) (hs : a.eval s = v) (hown : w.ownsRow base 67 2 v k (flatS ps)) (hv : ∃ g c, v = .slice (some ⟨g, 0, none⟩) k c) (u : Value) (qs : List Slt) (hxv : a.eval x = u) (hu : saltsV w u qs) (hm : k + qs.length ≤ 4194304) (hbase : base ≤ w.heap.size)
    (h : ∀ (g c : Nat) (w' : World), w'.ownsRow base 67 2 (.slice (some ⟨g, 0, none⟩) (k + qs.length) c) (k + qs.length) (flatS (ps ++ qs)) → w.grownBy w' v.ownBlock → K (a.put o.dst (.slice (some ⟨g, 0, none⟩) (k + qs.length) c)) w') :
    if Region.wanted o (yielded ops a.tmps) = true then Oper.wp Try.prog o a w K Q else E := by
  have hw : Region.wanted o (yielded ops a.tmps) = true := by simp [Region.wanted, hgd]
  rw [if_pos hw]
  obtain ⟨g, c, w', hr, h2, h4⟩ := run_append_salts w o.type base k v ps hown hv u qs hu hm hbase
  unfold Oper.wp execOp
  simp only [ho, resolve, invoke, builtin, Sem.run_bind, Sem.run_pure, Result.andThen_ok, List.map_toArray, List.map_cons, List.map_nil, hs, hxv, hr]
  exact h g c w' h2 h4
theorem run_append_bools (w : World) (ty base k : Nat) (v : Value) (ps : List Bool) (hown : w.ownsRow base 4 1 v k (flatB ps)) (hv : ∃ g c, v = .slice (some ⟨g, 0, none⟩) k c) (u : Value) (qs : List Bool) (hu : boolsV w u qs) (hm : k + qs.length ≤ 4194304) (hbase : base ≤ w.heap.size) :
    ∃ (g c : Nat) (w' : World), (Builtin.append_ #[24, 24] ty #[v, u]).run Try.prog w = .ok (.slice (some ⟨g, 0, none⟩) (k + qs.length) c) w' ∧ w'.ownsRow base 4 1 (.slice (some ⟨g, 0, none⟩) (k + qs.length) c) (k + qs.length) (flatB (ps ++ qs)) ∧ w.grownBy w' v.ownBlock := by
  obtain ⟨i0, hi0, hz0, hz1, hz2⟩ := info_parts info4
  obtain ⟨B, cbp, rfl, hc⟩ := hu
  rcases Nat.eq_zero_or_pos qs.length with e0 | h0
  · obtain rfl := List.length_eq_zero_iff.1 e0
    obtain ⟨g, c, rfl⟩ := hv
    have hk : k ≤ c := by
      rcases hown.2 with ⟨e, _⟩ | ⟨g', c', cur, e, _, _, h1, _⟩
      · simp at e
      · simp only [Value.slice.injEq] at e
        obtain ⟨_, _, rfl⟩ := e
        exact h1
    have hs : Src Try.prog i0.size 24 (.slice B 0 cbp) 0 [] w := by
      cases B with
      | none => exact Src.ofNil w Try.underlying24 cbp
      | some a => exact Src.ofSlice w Try.underlying24 a 0 cbp [] (by simp) (fun j u h => by simp at h) (fun u h => by cases h)
    have hr := run_append_room_src (P := Try.prog) w 24 24 ty 4 i0 Try.underlying24 hi0 g 0 k c _ 0 [] hs (by omega) (fun j h => by simp at h) (fun j h => by simp at h)
    exact ⟨g, c, w, hr, by rw [List.append_nil]; exact hown, World.grownBy.refl _ _⟩
  · obtain ⟨b, off, rfl, hlt, hcc⟩ := hc h0
    obtain ⟨g, c, w', h1, h2, h3, _, _⟩ := run_append_lies (P := Try.prog) w 24 ty base 4 i0 _ 1 1 Try.underlying24 hi0 hz0 hz1 hz2 rfl (by omega) v k (flatB ps) hown ⟨b, off, none⟩ qs.length cbp (flatB qs) (flatB_len qs) (flatB_cells qs hcc) (flatB_one qs) h0 (by unfold maxLen; omega) (by omega) hbase _ rfl
    exact ⟨g, c, w', h1, by rw [flatB_app]; exact h2, h3⟩
theorem wpList_append_bools (w : World) {ops : Array Oper} {rest : List Oper} {o : Oper} {a : Act} {Q : Exit → Act → World → Prop} (hgd : o.guard = none) (s x : Operand)
    (ho : o.op = .call { callee := .builtin .append, args := #[s, x], argTypes := #[24, 24] })
    (base k : Nat) (v : Value) (ps : List Bool) (hs : a.eval s = v) (hown : w.ownsRow base 4 1 v k (flatB ps)) (hv : ∃ g c, v = .slice (some ⟨g, 0, none⟩) k c) (u : Value) (qs : List Bool) (hxv : a.eval x = u) (hu : boolsV w u qs) (hm : k + qs.length ≤ 4194304) (hbase : base ≤ w.heap.size)
    (h : ∀ (g c : Nat) (w' : World), w'.ownsRow base 4 1 (.slice (some ⟨g, 0, none⟩) (k + qs.length) c) (k + qs.length) (flatB (ps ++ qs)) → w.grownBy w' v.ownBlock → wpList Try.prog ops Q rest (a.put o.dst (.slice (some ⟨g, 0, none⟩) (k + qs.length) c)) w') : wpList Try.prog ops Q (o :: rest) a w :=
  wpList_plain hgd fun K hK => by
    obtain ⟨g, c, w', hr, h2, h4⟩ := run_append_bools w o.type base k v ps hown hv u qs hu hm hbase
    unfold Oper.wp execOp
    simp only [ho, resolve, invoke, builtin, Sem.run_bind, Sem.run_pure, Result.andThen_ok, List.map_toArray, List.map_cons, List.map_nil, hs, hxv, hr]
    exact hK _ _ (h g c w' h2 h4)
theorem step_append_bools (w : World) {ops : Array Oper} {o : Oper} {a : Act} {K : Act → World → Prop} {Q : Exit → Act → World → Prop} {E : Prop} (hgd : o.guard = none) (s x : Operand)
    (ho : o.op = .call { callee := .builtin .append, args := #[s, x], argTypes := #[24, 24] })
    (base k : Nat) (v : Value) (ps : List Bool) (hs : a.eval s = v) (hown : w.ownsRow base 4 1 v k (flatB ps)) (hv : ∃ g c, v = .slice (some ⟨g, 0, none⟩) k c) (u : Value) (qs : List Bool) (hxv : a.eval x = u) (hu : boolsV w u qs) (hm : k + qs.length ≤ 4194304) (hbase : base ≤ w.heap.size)
    (h : ∀ (g c : Nat) (w' : World), w'.ownsRow base 4 1 (.slice (some ⟨g, 0, none⟩) (k + qs.length) c) (k + qs.length) (flatB (ps ++ qs)) → w.grownBy w' v.ownBlock → K (a.put o.dst (.slice (some ⟨g, 0, none⟩) (k + qs.length) c)) w') :
    if Region.wanted o (yielded ops a.tmps) = true then Oper.wp Try.prog o a w K Q else E := by
  have hw : Region.wanted o (yielded ops a.tmps) = true := by simp [Region.wanted, hgd]
  rw [if_pos hw]
  obtain ⟨g, c, w', hr, h2, h4⟩ := run_append_bools w o.type base k v ps hown hv u qs hu hm hbase
  unfold Oper.wp execOp
  simp only [ho, resolve, invoke, builtin, Sem.run_bind, Sem.run_pure, Result.andThen_ok, List.map_toArray, List.map_cons, List.map_nil, hs, hxv, hr]
  exact h g c w' h2 h4
theorem own_salts {w : World} {base n : Nat} {v : Value} {ps : List Slt} (h : w.ownsRow base 67 2 v n (flatS ps)) (hv : ∃ g c, v = .slice (some ⟨g, 0, none⟩) n c) : ownA base w.heap.size w v ps := by
  obtain ⟨g0, c0, rfl⟩ := hv
  have hl := h.1
  rw [flat_len] at hl
  rcases h.2 with ⟨e, h0⟩ | ⟨g, cap, cur, hv, hb, hg, hc, _, _, ht⟩
  · simp at e
  · refine .inr ⟨g, cap, cur.toList.drop (n * 2), by rw [hv]; congr 1; omega, hb, (Array.getElem?_eq_some_iff.1 hg).1, ?_, by omega⟩
    rw [hg, sltO]
    congr 2
    rw [← ht, List.take_append_drop]
theorem own_bools {w : World} {base n : Nat} {v : Value} {ps : List Bool} (h : w.ownsRow base 4 1 v n (flatB ps)) (hv : ∃ g c, v = .slice (some ⟨g, 0, none⟩) n c) : ownB base w.heap.size w v ps := by
  obtain ⟨g0, c0, rfl⟩ := hv
  have hl := h.1
  rw [flatB_len] at hl
  rcases h.2 with ⟨e, h0⟩ | ⟨g, cap, cur, hv, hb, hg, hc, _, _, ht⟩
  · simp at e
  · refine .inr ⟨g, cap, cur.toList.drop (n * 1), by rw [hv]; congr 1; omega, hb, (Array.getElem?_eq_some_iff.1 hg).1, ?_, by omega⟩
    rw [hg, bolO]
    congr 2
    show cur = (flatB ps ++ _).toArray
    rw [← ht, List.take_append_drop]
/-- a copy of salts -/
theorem clone78 (v : Value) (ss : List Slt) (w : World) (hv : saltsV w v ss) (hn : ss.length ≤ 2097152) :
    Calls Try.prog 78 #[v] w fun e w' => ∃ r, e = .returned r ∧ ownA w.heap.size w'.heap.size w' r ss ∧ Below w.heap.size w w' := by
  have hvw := hide (hv.below ((Below.refl w.heap.size w).alloc (Nat.le_refl _) (.cells #[] 67)))
  have hA : ∃ A cap, v = .slice A ss.length cap ∧ (A = none → ss = []) := by
    obtain ⟨A, cap, h, hc⟩ := hv
    refine ⟨A, cap, h, fun hA => ?_⟩
    rcases Nat.eq_zero_or_pos ss.length with h0 | h0
    · exact List.eq_nil_of_length_eq_zero h0
    · obtain ⟨b, off, e, _⟩ := hc h0
      rw [hA] at e
      cases e
  obtain ⟨A, cap, rfl, hnil⟩ := hA
  clear hv
  have q22 : ∀ (w : World) (a : Option Addr) (n c n' c' : Nat), (binOp .eql 23 (.slice a n c) (.slice none n' c')).run Try.prog w = .ok (.bool a.isNone) w := fun w a n c n' c' => Lib.run_eql_slice_nil w _ _ a n c n' c' Try.underlying23
  cases A with
  | none =>
    obtain rfl := hnil rfl
    clear hvw hnil hn
    go_enter Try.func78, Try.ntmps78
    go_wp2
    go_ret
    exact ⟨_, rfl, .inl ⟨rfl, rfl⟩, Below.refl _ _⟩
  | some a =>
    clear hnil
    go_enter Try.func78, Try.ntmps78
    go_wp2_with (at_builtin; refine wpList_append_salts _ rfl _ _ rfl w.heap.size 0 (.slice (some ⟨w.heap.size, 0, none⟩) 0 0) [] rfl (World.ownsRow_made w #[] 0 (Nat.le_refl _) (Nat.zero_le _) rfl) ⟨_, _, rfl⟩ (.slice (some a) ss.length cap) ss rfl (unhide hvw) (by omega) (by simp) ?_; intro g1 c1 w1 own1 gr1)
    have hb1 : Below w.heap.size w w1 := Below.grown ((Below.refl _ _).alloc (Nat.le_refl _) _) gr1 (by simp) (by simp [Value.ownBlock])
    rw [Nat.zero_add, List.nil_append] at own1
    have HO := hide (own_salts own1 ⟨_, _, rfl⟩)
    have H1 := hide hb1
    clear own1 gr1 hb1 hvw
    go_ret
    exact ⟨_, rfl, unhide HO, unhide H1⟩
end Go.Proofs.Ythckgccfjpgbaaa
