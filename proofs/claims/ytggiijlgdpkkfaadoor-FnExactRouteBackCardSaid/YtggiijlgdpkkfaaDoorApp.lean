/- Bytes appended to a row of one's own. -/
import Derived.Test.YtggiijlgdpkkfaaDoorByt
import Derived.Deep.AppendSrc
namespace Go.Proofs.YtggiijlgdpkkfaaDoor
open Go.RowKit
theorem own_rowB {w : World} {base n : Nat} {v : Value} {xs : List Int} (h : w.ownsRow base 5 1 v n (xs.map (Value.int .u8))) (hv : ∃ g c, v = .slice (some ⟨g, 0, none⟩) n c) :
    ∃ g cap rest, v = .slice (some ⟨g, 0, none⟩) n cap ∧ base ≤ g ∧ g < w.heap.size ∧ n ≤ cap ∧ w.heap[g]? = some (rowObj 5 .u8 xs rest) := by
  obtain ⟨g0, c0, rfl⟩ := hv
  rcases h.2 with ⟨e, h0⟩ | ⟨g, cap, cur, hv, hb, hg, hc, _, _, ht⟩
  · simp at e
  · refine ⟨g, cap, cur.toList.drop n, hv, hb, (Array.getElem?_eq_some_iff.1 hg).1, hc, ?_⟩
    rw [hg, rowObj]
    congr 2
    rw [← ht, Nat.mul_one, List.take_append_drop]
theorem run_append_bytes (w : World) (ty base k : Nat) (v : Value) (xs : List Int) (hown : w.ownsRow base 5 1 v k (xs.map (Value.int .u8))) (hv : ∃ g c, v = .slice (some ⟨g, 0, none⟩) k c) (u : Value) (ys : List Int) (hu : bytesV w u ys) (hm : k + ys.length ≤ 4194304) (hbase : base ≤ w.heap.size) :
    ∃ (g c : Nat) (w' : World), (Builtin.append_ #[44, 44] ty #[v, u]).run Tryd.prog w = .ok (.slice (some ⟨g, 0, none⟩) (k + ys.length) c) w' ∧ w'.ownsRow base 5 1 (.slice (some ⟨g, 0, none⟩) (k + ys.length) c) (k + ys.length) ((xs ++ ys).map (Value.int .u8)) ∧ w.grownBy w' v.ownBlock := by
  obtain ⟨i0, hi0, hz0, hz1, hz2⟩ := info_parts info5
  obtain ⟨B, cbp, rfl, hB, hc⟩ := hu
  rcases Nat.eq_zero_or_pos ys.length with e0 | h0
  · obtain rfl := List.length_eq_zero_iff.1 e0
    obtain ⟨g, c, rfl⟩ := hv
    have hk : k ≤ c := by
      rcases hown.2 with ⟨e, _⟩ | ⟨g', c', cur, e, _, _, h1, _⟩
      · simp at e
      · simp only [Value.slice.injEq] at e
        obtain ⟨_, _, rfl⟩ := e
        exact h1
    have hs : Src Tryd.prog i0.size 44 (.slice B 0 cbp) 0 [] w := by
      cases B with
      | none => exact Src.ofNil w Tryd.underlying44 cbp
      | some a => exact Src.ofSlice w Tryd.underlying44 a 0 cbp [] (by simp) (fun j u h => by simp at h) (fun u h => by cases h)
    have hr := run_append_room_src (P := Tryd.prog) w 44 44 ty 5 i0 Tryd.underlying44 hi0 g 0 k c _ 0 [] hs (by omega) (fun j h => by simp at h) (fun j h => by simp at h)
    exact ⟨g, c, w, hr, by rw [List.append_nil]; exact hown, World.grownBy.refl _ _⟩
  · obtain ⟨b, off, rfl, hlt, hcc⟩ := hc h0
    have hc : ∀ j u, (ys.map (Value.int .u8))[j]? = some u → w.cell? ((⟨b, off, none⟩ : Addr).add j) = some u := by
      intro j u hj
      rw [List.getElem?_map] at hj
      have hl : j < ys.length := by
        rcases Nat.lt_or_ge j ys.length with h | h
        · exact h
        · rw [List.getElem?_eq_none h] at hj; cases hj
      rw [List.getElem?_eq_getElem hl] at hj
      cases hj
      rw [Addr.add_lit, hcc j hl, List.getD_eq_getElem?_getD, List.getElem?_eq_getElem hl]
      rfl
    obtain ⟨g, c, w', h1, h2, h3, _, _⟩ := run_append_lies (P := Tryd.prog) w 44 ty base 5 i0 (.int .u8 0) 1 1 Tryd.underlying44 hi0 hz0 hz1 hz2 rfl (by omega) v k (xs.map (Value.int .u8)) hown ⟨b, off, none⟩ ys.length cbp (ys.map (Value.int .u8)) (by simp) hc (fun u hu => by obtain ⟨y, _, rfl⟩ := List.mem_map.1 hu; rfl) h0 (by unfold maxLen; omega) (by omega) hbase _ rfl
    exact ⟨g, c, w', h1, by rw [List.map_append]; exact h2, h3⟩
theorem wpList_append_bytes (w : World) {ops : Array Oper} {rest : List Oper} {o : Oper} {a : Act} {Q : Exit → Act → World → Prop} (hgd : o.guard = none) (s x : Operand)
    (ho : o.op = .call { callee := .builtin .append, args := #[s, x], argTypes := #[44, 44] })
    (base k : Nat) (v : Value) (xs : List Int) (hs : a.eval s = v) (hown : w.ownsRow base 5 1 v k (xs.map (Value.int .u8))) (hv : ∃ g c, v = .slice (some ⟨g, 0, none⟩) k c) (u : Value) (ys : List Int) (hxv : a.eval x = u) (hu : bytesV w u ys) (hm : k + ys.length ≤ 4194304) (hbase : base ≤ w.heap.size)
    (h : ∀ (g c : Nat) (w' : World), w'.ownsRow base 5 1 (.slice (some ⟨g, 0, none⟩) (k + ys.length) c) (k + ys.length) ((xs ++ ys).map (Value.int .u8)) → w.grownBy w' v.ownBlock → wpList Tryd.prog ops Q rest (a.put o.dst (.slice (some ⟨g, 0, none⟩) (k + ys.length) c)) w') : wpList Tryd.prog ops Q (o :: rest) a w :=
  wpList_plain hgd fun K hK => by
    obtain ⟨g, c, w', hr, h2, h4⟩ := run_append_bytes w o.type base k v xs hown hv u ys hu hm hbase
    unfold Oper.wp execOp
    simp only [ho, resolve, invoke, builtin, Sem.run_bind, Sem.run_pure, Result.andThen_ok, List.map_toArray, List.map_cons, List.map_nil, hs, hxv, hr]
    exact hK _ _ (h g c w' h2 h4)
end Go.Proofs.YtggiijlgdpkkfaaDoor
