/- Texts appended, and where they lie. -/
import Derived.Test.YthonnlifgdnacaaStr
namespace Go.Proofs.Ythonnlifgdnacaa
open Go.RowKit
set_option maxHeartbeats 4000000
set_option maxRecDepth 20000
theorem str_one (ts : List ByteArray) : ∀ u ∈ ts.map Value.string, u.oneCell' = true := by
  intro u hu; obtain ⟨t, _, rfl⟩ := List.mem_map.1 hu; rfl
theorem str_cells {w : World} {b off : Nat} (ts : List ByteArray) (h : ∀ i, i < ts.length → w.cell? ⟨b, off + i, none⟩ = some (.string (ts.getD i noS))) : ∀ j u, (ts.map Value.string)[j]? = some u → w.cell? ((⟨b, off, none⟩ : Addr).add j) = some u := by
  intro j u hj
  rw [List.getElem?_map] at hj
  have hl : j < ts.length := by
    rcases Nat.lt_or_ge j ts.length with h | h
    · exact h
    · rw [List.getElem?_eq_none h] at hj; cases hj
  rw [List.getElem?_eq_getElem hl] at hj
  cases hj
  rw [Addr.add_lit, h j hl, List.getD_eq_getElem?_getD, List.getElem?_eq_getElem hl]
  rfl
theorem run_append_strsL (w : World) (ty base k : Nat) (v : Value) (ps : List ByteArray) (hown : w.ownsRow base 9 1 v k (ps.map Value.string)) (hv : ∃ g c, v = .slice (some ⟨g, 0, none⟩) k c) (u : Value) (qs : List ByteArray) (hu : strsV w u qs) (hm : k + qs.length ≤ 4194304) (hbase : base ≤ w.heap.size) :
    ∃ (g c : Nat) (w' : World), (Builtin.append_ #[31, 31] ty #[v, u]).run Try.prog w = .ok (.slice (some ⟨g, 0, none⟩) (k + qs.length) c) w' ∧ w'.ownsRow base 9 1 (.slice (some ⟨g, 0, none⟩) (k + qs.length) c) (k + qs.length) ((ps ++ qs).map Value.string) ∧ w.grownBy w' v.ownBlock ∧ (v.ownBlock = some g ∨ g = w.heap.size) := by
  obtain ⟨i0, hi0, hz0, hz1, hz2⟩ := info_parts info9
  obtain ⟨B, cbp, rfl, hc⟩ := hu
  rcases Nat.eq_zero_or_pos qs.length with e0 | h0
  · obtain rfl := List.length_eq_zero_iff.1 e0
    obtain ⟨g, c, rfl⟩ := hv
    have hk : k ≤ c := by
      rcases hown.2 with ⟨e, _⟩ | ⟨g', c', cur, e, _, _, h1, _⟩
      · simp at e
      · simp only [Value.slice.injEq] at e
        obtain ⟨_, _, rfl⟩ := e
        exact h1
    have hs : Src Try.prog i0.size 31 (.slice B 0 cbp) 0 [] w := by
      cases B with
      | none => exact Src.ofNil w Try.underlying31 cbp
      | some a => exact Src.ofSlice w Try.underlying31 a 0 cbp [] (by simp) (fun j u h => by simp at h) (fun u h => by cases h)
    have hr := run_append_room_src (P := Try.prog) w 31 31 ty 9 i0 Try.underlying31 hi0 g 0 k c _ 0 [] hs (by omega) (fun j h => by simp at h) (fun j h => by simp at h)
    exact ⟨g, c, w, hr, by rw [List.append_nil]; exact hown, World.grownBy.refl _ _, .inl rfl⟩
  · obtain ⟨b, off, rfl, hlt, hcc⟩ := hc h0
    obtain ⟨g, c, w', h1, h2, h3, h4, _⟩ := run_append_lies (P := Try.prog) w 31 ty base 9 i0 _ 1 16 Try.underlying31 hi0 hz0 hz1 hz2 rfl (by omega) v k (ps.map Value.string) hown ⟨b, off, none⟩ qs.length cbp (qs.map Value.string) (by simp) (str_cells qs hcc) (str_one qs) h0 (by unfold maxLen; omega) (by omega) hbase _ rfl
    exact ⟨g, c, w', h1, by rw [List.map_append]; exact h2, h3, h4⟩
theorem wpList_append_strsL (w : World) {ops : Array Oper} {rest : List Oper} {o : Oper} {a : Act} {Q : Exit → Act → World → Prop} (hgd : o.guard = none) (s x : Operand)
    (ho : o.op = .call { callee := .builtin .append, args := #[s, x], argTypes := #[31, 31] })
    (base k : Nat) (v : Value) (ps : List ByteArray) (hs : a.eval s = v) (hown : w.ownsRow base 9 1 v k (ps.map Value.string)) (hv : ∃ g c, v = .slice (some ⟨g, 0, none⟩) k c) (u : Value) (qs : List ByteArray) (hxv : a.eval x = u) (hu : strsV w u qs) (hm : k + qs.length ≤ 4194304) (hbase : base ≤ w.heap.size)
    (h : ∀ (g c : Nat) (w' : World), w'.ownsRow base 9 1 (.slice (some ⟨g, 0, none⟩) (k + qs.length) c) (k + qs.length) ((ps ++ qs).map Value.string) → w.grownBy w' v.ownBlock → (v.ownBlock = some g ∨ g = w.heap.size) → wpList Try.prog ops Q rest (a.put o.dst (.slice (some ⟨g, 0, none⟩) (k + qs.length) c)) w') : wpList Try.prog ops Q (o :: rest) a w :=
  wpList_plain hgd fun K hK => by
    obtain ⟨g, c, w', hr, h2, h4, h5⟩ := run_append_strsL w o.type base k v ps hown hv u qs hu hm hbase
    unfold Oper.wp execOp
    simp only [ho, resolve, invoke, builtin, Sem.run_bind, Sem.run_pure, Result.andThen_ok, List.map_toArray, List.map_cons, List.map_nil, hs, hxv, hr]
    exact hK _ _ (h g c w' h2 h4 h5)
theorem one_str (w : World) (t : ByteArray) : strsV (w.alloc (.cells #[.string t] 9)) (.slice (some ⟨w.heap.size, 0, none⟩) 1 1) [t] := by
  refine ⟨_, _, rfl, fun _ => ⟨w.heap.size, 0, rfl, by simp, fun i hi => ?_⟩⟩
  obtain rfl : i = 0 := by simpa using hi
  rw [Go.cell_of_row _ _ _ _ _ _ (heap_alloc_new w _)]; rfl
theorem one_row (w : World) (t : ByteArray) : (w.alloc (.cells #[.string t] 9)).ownsRow w.heap.size 9 1 (.slice (some ⟨w.heap.size, 0, none⟩) 1 1) 1 ([t].map Value.string) :=
  ⟨rfl, .inr ⟨w.heap.size, 1, #[.string t], rfl, Nat.le_refl _, heap_at _ _ _ rfl, Nat.le_refl _, by unfold maxLen; omega, rfl, rfl⟩⟩
end Go.Proofs.Ythonnlifgdnacaa
