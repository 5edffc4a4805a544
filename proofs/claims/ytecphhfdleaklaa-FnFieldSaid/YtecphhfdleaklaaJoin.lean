/- 'append(append([]byte{}, more...), code...)': bytes behind bytes, wherever they lie. -/
import Derived.Test.YtecphhfdleaklaaSrc
import Derived.Deep.AppendSrc
namespace Go.Proofs.Ytecphhfdleaklaa
open Go.RowKit
theorem codeL {w : World} {B : Option Addr} {m : Nat} (h : codeAt w B m) (hm : 0 < m) : ∃ (b off : Nat) (ys : List Int), B = some ⟨b, off, none⟩ ∧ ys.length = m ∧ (∀ y ∈ ys, 0 ≤ y ∧ y < 256) ∧ ∀ j u, (ys.map (Value.int .u8))[j]? = some u → w.cell? ((⟨b, off, none⟩ : Addr).add j) = some u := by
  obtain ⟨b, off, hB, hc⟩ := h hm
  have : ∃ f : Nat → Int, ∀ i, i < m → 0 ≤ f i ∧ f i < 256 ∧ w.cell? ⟨b, off + i, none⟩ = some (.int .u8 (f i)) := by
    refine ⟨fun i => if h : i < m then Classical.choose (hc i h) else 0, fun i hi => ?_⟩
    have := Classical.choose_spec (hc i hi)
    simp only [hi, dif_pos]
    exact this
  obtain ⟨f, hf⟩ := this
  refine ⟨b, off, (List.range m).map f, hB, by simp, ?_, ?_⟩
  · intro y hy
    obtain ⟨i, hi, rfl⟩ := List.mem_map.1 hy
    have := hf i (by simpa using hi)
    exact ⟨this.1, this.2.1⟩
  · intro j u hj
    rw [List.map_map, List.getElem?_map] at hj
    obtain ⟨i, hi, rfl⟩ := Option.map_eq_some_iff.1 hj
    have hlt : j < m := by
      rcases Nat.lt_or_ge j m with h | h
      · exact h
      · rw [List.getElem?_eq_none (by simpa using h)] at hi; cases hi
    rw [List.getElem?_range hlt] at hi
    obtain rfl := Option.some.inj hi
    rw [Addr.add_lit, (hf j hlt).2.2]
    rfl
theorem own_code {w : World} {base k : Nat} {v : Value} {xs : List Int} (h : w.ownsRow base 5 1 v k (xs.map (Value.int .u8))) (hx : ∀ y ∈ xs, 0 ≤ y ∧ y < 256) {A : Option Addr} {n cap : Nat} (hv : v = .slice A n cap) : n = k ∧ n ≤ maxLen ∧ codeAt w A n := by
  subst hv
  rcases h.2 with ⟨e, h0⟩ | ⟨g, c, cur, e, hb, hg, h1, h2, h3, ht⟩
  · simp only [Value.slice.injEq] at e
    obtain ⟨rfl, rfl, rfl⟩ := e
    exact ⟨h0.symm, Nat.zero_le _, fun h => absurd h (Nat.lt_irrefl _)⟩
  · simp only [Value.slice.injEq] at e
    obtain ⟨rfl, rfl, rfl⟩ := e
    refine ⟨rfl, Nat.le_trans h1 h2, fun _ => ⟨g, 0, rfl, fun i hi => ?_⟩⟩
    have hl : xs.length = n := by have := h.1; simpa using this
    have hi' : i < xs.length := by omega
    have hb' := hx xs[i] (List.getElem_mem hi')
    refine ⟨xs[i], hb'.1, hb'.2, ?_⟩
    rw [Nat.zero_add, Go.cell_of_row _ _ _ _ _ _ hg, ← Array.getElem?_toList]
    have e : (cur.toList.take (n * 1))[i]? = (xs.map (Value.int .u8))[i]? := by rw [ht]
    rw [List.getElem?_take_of_lt (by omega)] at e
    rw [e, List.getElem?_map, List.getElem?_eq_getElem hi']
    rfl
theorem run_append_code (w : World) (ty base k : Nat) (v : Value) (xs : List Int) (hown : w.ownsRow base 5 1 v k (xs.map (Value.int .u8))) (hx : ∀ y ∈ xs, 0 ≤ y ∧ y < 256) (hv : ∃ g c, v = .slice (some ⟨g, 0, none⟩) k c) (B : Option Addr) (m cbp : Nat) (hB : codeAt w B m) (hm : k + m ≤ 4194304) (hbase : base ≤ w.heap.size) :
    ∃ (g c : Nat) (w' : World) (ys : List Int), (Builtin.append_ #[22, 22] ty #[v, .slice B m cbp]).run Try.prog w = .ok (.slice (some ⟨g, 0, none⟩) (k + m) c) w' ∧ w'.ownsRow base 5 1 (.slice (some ⟨g, 0, none⟩) (k + m) c) (k + m) (ys.map (Value.int .u8)) ∧ (∀ y ∈ ys, 0 ≤ y ∧ y < 256) ∧ w.grownBy w' v.ownBlock := by
  obtain ⟨i0, hi0, hz0, hz1, hz2⟩ := info_parts info5
  rcases Nat.eq_zero_or_pos m with rfl | h0
  · obtain ⟨g, c, rfl⟩ := hv
    have hk : k ≤ c := by
      rcases hown.2 with ⟨e, _⟩ | ⟨g', c', cur, e, _, _, h1, _⟩
      · simp at e
      · simp only [Value.slice.injEq] at e
        obtain ⟨_, _, rfl⟩ := e
        exact h1
    have hs : Src Try.prog i0.size 22 (.slice B 0 cbp) 0 [] w := by
      cases B with
      | none => exact Src.ofNil w Try.underlying22 cbp
      | some a => exact Src.ofSlice w Try.underlying22 a 0 cbp [] (by simp) (fun j u h => by simp at h) (fun u h => by cases h)
    have hr := run_append_room_src (P := Try.prog) w 22 22 ty 5 i0 Try.underlying22 hi0 g 0 k c _ 0 [] hs (by omega) (fun j h => by simp at h) (fun j h => by simp at h)
    exact ⟨g, c, w, xs, hr, hown, hx, World.grownBy.refl _ _⟩
  · obtain ⟨b, off, ys, rfl, hl, hy, hc⟩ := codeL hB h0
    obtain ⟨g, c, w', h1, h2, h3, _, _⟩ := run_append_lies (P := Try.prog) w 22 ty base 5 i0 (.int .u8 0) 1 1 Try.underlying22 hi0 hz0 hz1 hz2 rfl (by omega) v k (xs.map (Value.int .u8)) hown ⟨b, off, none⟩ m cbp (ys.map (Value.int .u8)) (by simp [hl]) hc (fun u hu => by obtain ⟨y, _, rfl⟩ := List.mem_map.1 hu; rfl) h0 (by unfold maxLen; omega) (by omega) hbase _ rfl
    refine ⟨g, c, w', xs ++ ys, h1, by rw [List.map_append]; exact h2, ?_, h3⟩
    intro y hy'
    rcases List.mem_append.1 hy' with h | h
    · exact hx y h
    · exact hy y h
theorem wpList_append_code (w : World) {ops : Array Oper} {rest : List Oper} {o : Oper} {a : Act} {Q : Exit → Act → World → Prop} (hgd : o.guard = none) (s x : Operand)
    (ho : o.op = .call { callee := .builtin .append, args := #[s, x], argTypes := #[22, 22] })
    (base k : Nat) (v : Value) (xs : List Int) (hs : a.eval s = v) (hown : w.ownsRow base 5 1 v k (xs.map (Value.int .u8))) (hx : ∀ y ∈ xs, 0 ≤ y ∧ y < 256) (hv : ∃ g c, v = .slice (some ⟨g, 0, none⟩) k c) (B : Option Addr) (m cbp : Nat) (hxv : a.eval x = .slice B m cbp) (hB : codeAt w B m) (hm : k + m ≤ 4194304) (hbase : base ≤ w.heap.size)
    (h : ∀ (g c : Nat) (w' : World) (ys : List Int), w'.ownsRow base 5 1 (.slice (some ⟨g, 0, none⟩) (k + m) c) (k + m) (ys.map (Value.int .u8)) → (∀ y ∈ ys, 0 ≤ y ∧ y < 256) → w.grownBy w' v.ownBlock → wpList Try.prog ops Q rest (a.put o.dst (.slice (some ⟨g, 0, none⟩) (k + m) c)) w') : wpList Try.prog ops Q (o :: rest) a w :=
  wpList_plain hgd fun K hK => by
    obtain ⟨g, c, w', ys, hr, h2, h3, h4⟩ := run_append_code w o.type base k v xs hown hx hv B m cbp hB hm hbase
    unfold Oper.wp execOp
    simp only [ho, resolve, invoke, builtin, Sem.run_bind, Sem.run_pure, Result.andThen_ok, List.map_toArray, List.map_cons, List.map_nil, hs, hxv, hr]
    exact hK _ _ (h g c w' ys h2 h3 h4)
end Go.Proofs.Ytecphhfdleaklaa
