/- A string appended to strings. -/
import Derived.Test.YtgdohkemamlnhaaDoorBat
namespace Go.Proofs.YtgdohkemamlnhaaDoor
open Go.RowKit
set_option maxHeartbeats 4000000
set_option maxRecDepth 20000
theorem info9 : (Tryd.prog.info? 9).map (fun i => (i.zero, i.size, i.bytes)) = some (some (.string ⟨#[]⟩), 1, 16) := by kernel_rfl
theorem run_append_one (w : World) (ty base k : Nat) (v : Value) (ts : List ByteArray) (hown : w.ownsRow base 9 1 v k (ts.map Value.string)) (b : Nat) (t : ByteArray) (hc : w.cell? ⟨b, 0, none⟩ = some (.string t)) (hm : k + 1 ≤ 65536) (hbase : base ≤ w.heap.size) :
    ∃ (g c : Nat) (w' : World), (Builtin.append_ #[31, 31] ty #[v, .slice (some ⟨b, 0, none⟩) 1 1]).run Tryd.prog w = .ok (.slice (some ⟨g, 0, none⟩) (k + 1) c) w' ∧ w'.ownsRow base 9 1 (.slice (some ⟨g, 0, none⟩) (k + 1) c) (k + 1) ((ts ++ [t]).map Value.string) ∧ w.grownBy w' v.ownBlock := by
  obtain ⟨i0, hi0, hz0, hz1, hz2⟩ := info_parts info9
  obtain ⟨g, c, w', h1, h2, h3, _, _⟩ := run_append_lies (P := Tryd.prog) w 31 ty base 9 i0 (.string ⟨#[]⟩) 1 16 Tryd.underlying31 hi0 hz0 hz1 hz2 rfl (by omega) v k (ts.map Value.string) hown ⟨b, 0, none⟩ 1 1 [.string t] rfl (fun j u hj => by
      cases j with
      | zero => simp at hj; subst hj; exact hc
      | succ j => simp at hj) (fun u hu => by simp at hu; subst hu; rfl) (by omega) (by unfold maxLen; omega) (by omega) hbase _ rfl
  exact ⟨g, c, w', h1, by rw [List.map_append]; exact h2, h3⟩
theorem step_append_one (w : World) {ops : Array Oper} {o : Oper} {a : Act} {K : Act → World → Prop} {Q : Exit → Act → World → Prop} {E : Prop} (hgd : o.guard = none) (s x : Operand)
    (ho : o.op = .call { callee := .builtin .append, args := #[s, x], argTypes := #[31, 31] })
    (base k : Nat) (v : Value) (ts : List ByteArray) (hs : a.eval s = v) (hown : w.ownsRow base 9 1 v k (ts.map Value.string)) (b : Nat) (t : ByteArray) (hxv : a.eval x = .slice (some ⟨b, 0, none⟩) 1 1) (hc : w.cell? ⟨b, 0, none⟩ = some (.string t)) (hm : k + 1 ≤ 65536) (hbase : base ≤ w.heap.size)
    (h : ∀ (g c : Nat) (w' : World), w'.ownsRow base 9 1 (.slice (some ⟨g, 0, none⟩) (k + 1) c) (k + 1) ((ts ++ [t]).map Value.string) → w.grownBy w' v.ownBlock → K (a.put o.dst (.slice (some ⟨g, 0, none⟩) (k + 1) c)) w') :
    if Region.wanted o (yielded ops a.tmps) = true then Oper.wp Tryd.prog o a w K Q else E := by
  have hw : Region.wanted o (yielded ops a.tmps) = true := by simp [Region.wanted, hgd]
  rw [if_pos hw]
  obtain ⟨g, c, w', hr, h2, h4⟩ := run_append_one w o.type base k v ts hown b t hc hm hbase
  unfold Oper.wp execOp
  simp only [ho, resolve, invoke, builtin, Sem.run_bind, Sem.run_pure, Result.andThen_ok, List.map_toArray, List.map_cons, List.map_nil, hs, hxv, hr]
  exact h g c w' h2 h4
/-- strings that a row of appends made, as strings of their own -/
theorem own_strs {w : World} {base n : Nat} {v : Value} {ts : List ByteArray} (h : w.ownsRow base 9 1 v n (ts.map Value.string)) : ownS base w.heap.size w v ts := by
  have hn : ts.length = n := by have := h.1; simpa using this
  rcases h.2 with ⟨rfl, h0⟩ | ⟨g, cap, cur, rfl, hb, hg, hc, _, hs, ht⟩
  · exact .inl ⟨rfl, List.length_eq_zero_iff.1 (by omega)⟩
  · refine .inr ⟨g, cap, cur.toList.drop n, by rw [hn], hb, (Array.getElem?_eq_some_iff.1 hg).1, ?_, by omega⟩
    rw [hg, strO]
    congr 2
    rw [← ht, Nat.mul_one, List.take_append_drop]
theorem grown_below {w w' : World} {row : Option Nat} {base : Nat} (h : w.grownBy w' row) (hr : ∀ k, row = some k → base ≤ k) (hb : base ≤ w.heap.size) : Below base w w' :=
  ⟨h.os, h.tape, h.output, h.size, fun k hk => h.block k (by omega) (fun e => by have := hr k e.symm; omega)⟩
theorem own_only {w w' : World} {base e size n q : Nat} {v : Value} {xs : List Value} (h : w.ownsRow base e size v n xs) (ho : Only q w w') (hq : q < base) : w'.ownsRow base e size v n xs := by
  refine ⟨h.1, ?_⟩
  rcases h.2 with h | ⟨g, cap, cur, rfl, hb, hg, h3⟩
  · exact .inl h
  · exact .inr ⟨g, cap, cur, rfl, hb, (ho.block g (Array.getElem?_eq_some_iff.1 hg).1 (by omega)).trans hg, h3⟩
theorem Rd.belowB {w0 : World} {q B : Nat} {W W' : World} {xs : List Int} {f : Option (ByteArray × Int)} (h : Rd w0 q W xs f) (hb : Below B W W') (hq : q < B) : Rd w0 q W' xs f := by
  obtain ⟨v, h1, h2⟩ := h.row
  exact ⟨h.bel.trans (hb.mono (by have := h.le; omega)), h.le, v, (hb.block q hq).trans h1, h2⟩
theorem Only.belowB {q B : Nat} {W X X' : World} (h : Only q W X) (hb : Below B X X') (hB : W.heap.size ≤ B) : Only q W X' :=
  ⟨hb.os.trans h.os, hb.tape.trans h.tape, hb.output.trans h.output, Nat.le_trans h.size hb.size, fun k hk hq => (hb.block k (by omega)).trans (h.block k hk hq)⟩
end Go.Proofs.YtgdohkemamlnhaaDoor
