/- A list copied onto nothing; a text behind a list; as steps of a walk, and of a region that draws. -/
import Derived.Test.YtbkcgkffafjbgaaGreatDoorSay
namespace Go.Proofs.YtbkcgkffafjbgaaGreatDoor
open Go.RowKit
set_option maxHeartbeats 4000000
set_option maxRecDepth 20000
theorem strs_wide {w w' : World} {B : Nat} {v : Value} {ts : List ByteArray} (h : strsV w v ts) (hb : Below B w w') (hB : w.heap.size ≤ B) : strsV w' v ts := by
  obtain ⟨A, cap, rfl, hc⟩ := h
  refine ⟨A, cap, rfl, fun hn => ?_⟩
  obtain ⟨b, off, rfl, hl, hc⟩ := hc hn
  refine ⟨b, off, rfl, Nat.lt_of_lt_of_le hl hb.size, fun i hi => ?_⟩
  rw [hb.cell (p := ⟨b, off + i, none⟩) (Nat.lt_of_lt_of_le hl hB)]
  exact hc i hi
/-- what append([]string{}, xs...) leaves -/
structure Copied (W w' : World) (g c : Nat) (qs : List ByteArray) : Prop where
  be : Below W.heap.size W w'
  row : w'.ownsRow W.heap.size 9 1 (.slice (some ⟨g, 0, none⟩) qs.length c) qs.length (qs.map Value.string)
  lo : W.heap.size ≤ g
  hi : g < w'.heap.size
theorem Copied.own {W w' : World} {g c : Nat} {qs : List ByteArray} (h : Copied W w' g c qs) : ownG W.heap.size w'.heap.size w' (.slice (some ⟨g, 0, none⟩) qs.length c) qs :=
  ownG.of_row rfl h.row fun k e => by have := h.hi; cases e; exact this
theorem run_copy (W : World) (ty : Nat) (G : Nat) (hG : G = W.heap.size) (u : Value) (qs : List ByteArray) (hu : strsV W u qs) (hm : qs.length ≤ 2097152) :
    ∃ (g c : Nat) (w' : World), (Builtin.append_ #[23, 23] ty #[.slice (some ⟨G, 0, none⟩) 0 0, u]).run Tryz.prog (W.alloc (.cells #[] 9)) = .ok (.slice (some ⟨g, 0, none⟩) qs.length c) w' ∧ Copied W w' g c qs := by
  subst hG
  obtain ⟨g, c, w', hr, h2, h4, h5⟩ := run_append_strsL (W.alloc (.cells #[] 9)) ty W.heap.size 0 (.slice (some ⟨W.heap.size, 0, none⟩) 0 0) [] (World.ownsRow_made _ #[] 0 (Nat.le_refl _) (Nat.zero_le _) rfl) ⟨_, _, rfl⟩ u qs (hu.below (bl_al (Below.refl _ _))) (by omega) (by simp)
  rw [Nat.zero_add] at hr h2
  rw [List.nil_append] at h2
  have hl := h2.lt g rfl
  exact ⟨g, c, w', hr, Below.grown ((Below.refl _ _).alloc (Nat.le_refl _) _) h4 (by simp) (by simp [Value.ownBlock]), h2, hl.1, hl.2⟩
theorem wpList_copy (W : World) {ops : Array Oper} {rest : List Oper} {o : Oper} {a : Act} {Q : Exit → Act → World → Prop} (hgd : o.guard = none) (s x : Operand)
    (ho : o.op = .call { callee := .builtin .append, args := #[s, x], argTypes := #[23, 23] })
    (G : Nat) (hG : G = W.heap.size) (hs : a.eval s = .slice (some ⟨G, 0, none⟩) 0 0) (u : Value) (qs : List ByteArray) (hxv : a.eval x = u) (hu : strsV W u qs) (hm : qs.length ≤ 2097152)
    (h : ∀ (g c : Nat) (w' : World), Copied W w' g c qs → wpList Tryz.prog ops Q rest (a.put o.dst (.slice (some ⟨g, 0, none⟩) qs.length c)) w') : wpList Tryz.prog ops Q (o :: rest) a (W.alloc (.cells #[] 9)) :=
  wpList_plain hgd fun K hK => by
    obtain ⟨g, c, w', hr, h2⟩ := run_copy W o.type G hG u qs hu hm
    unfold Oper.wp execOp
    simp only [ho, resolve, invoke, builtin, Sem.run_bind, Sem.run_pure, Result.andThen_ok, List.map_toArray, List.map_cons, List.map_nil, hs, hxv, hr]
    exact hK _ _ (h g c w' h2)
/-- what append(xs, t) leaves, xs a list of one's own -/
structure Pushed (base : Nat) (W w' : World) (g0 g c n : Nat) (qs : List ByteArray) : Prop where
  be : ∀ B X, Below B X W → B ≤ base → B ≤ W.heap.size → Below B X w'
  kept : ∀ k, k < W.heap.size → k ≠ g0 → w'.heap[k]? = W.heap[k]?
  size : W.heap.size ≤ w'.heap.size
  row : w'.ownsRow base 9 1 (.slice (some ⟨g, 0, none⟩) n c) n (qs.map Value.string)
  lo : g = g0 ∨ W.heap.size ≤ g
  hi : g < w'.heap.size
theorem Pushed.own {base : Nat} {W w' : World} {g0 g c n : Nat} {qs : List ByteArray} (h : Pushed base W w' g0 g c n qs) (hn : n = qs.length) : ownG base w'.heap.size w' (.slice (some ⟨g, 0, none⟩) n c) qs := by
  subst hn
  exact ownG.of_row rfl h.row fun k e => by have := h.hi; cases e; exact this
theorem run_push (W : World) (ty : Nat) (base n g0 c0 : Nat) (ps : List ByteArray) (hown : W.ownsRow base 9 1 (.slice (some ⟨g0, 0, none⟩) n c0) n (ps.map Value.string)) (G : Nat) (hG : G = W.heap.size) (t : ByteArray) (hm : n ≤ 2097152) (hb : base ≤ W.heap.size) :
    ∃ (g c : Nat) (w' : World), (Builtin.append_ #[23, 23] ty #[.slice (some ⟨g0, 0, none⟩) n c0, .slice (some ⟨G, 0, none⟩) 1 1]).run Tryz.prog (W.alloc (.cells #[.string t] 9)) = .ok (.slice (some ⟨g, 0, none⟩) (n + 1) c) w' ∧ Pushed base W w' g0 g c (n + 1) (ps ++ [t]) := by
  subst hG
  obtain ⟨g, c, w', hr, h2, h4, h5⟩ := run_append_strsL (W.alloc (.cells #[.string t] 9)) ty base n (.slice (some ⟨g0, 0, none⟩) n c0) ps (hown.alloc _) ⟨_, _, rfl⟩ (.slice (some ⟨W.heap.size, 0, none⟩) 1 1) [t] (one_str W t) (by simp; omega) (by simp; omega)
  have hl := h2.lt g rfl
  have hg0 := hown.lt g0 rfl
  have hs := h4.size
  simp only [World.size_alloc] at hs
  refine ⟨g, c, w', hr, ⟨fun B X hX hB hB' => ?_, fun k hk hne => ?_, by omega, h2, ?_, hl.2⟩⟩
  · exact Below.grown (hX.alloc hB' _) h4 (by simp; omega) (fun k e => by cases e; show B ≤ g0; omega)
  · rw [h4.block k (by simp; omega) (fun e => hne (by cases e; rfl)), Below.heap_alloc _ _ _ hk]
  · rcases h5 with e | e
    · left; cases e; rfl
    · right; rw [e]; simp
theorem wpList_push (W : World) {ops : Array Oper} {rest : List Oper} {o : Oper} {a : Act} {Q : Exit → Act → World → Prop} (hgd : o.guard = none) (s x : Operand)
    (ho : o.op = .call { callee := .builtin .append, args := #[s, x], argTypes := #[23, 23] })
    (base n g0 c0 : Nat) (ps : List ByteArray) (hs : a.eval s = .slice (some ⟨g0, 0, none⟩) n c0) (hown : W.ownsRow base 9 1 (.slice (some ⟨g0, 0, none⟩) n c0) n (ps.map Value.string))
    (G : Nat) (hG : G = W.heap.size) (t : ByteArray) (hxv : a.eval x = .slice (some ⟨G, 0, none⟩) 1 1) (hm : n ≤ 2097152) (hb : base ≤ W.heap.size)
    (h : ∀ (g c : Nat) (w' : World), Pushed base W w' g0 g c (n + 1) (ps ++ [t]) → wpList Tryz.prog ops Q rest (a.put o.dst (.slice (some ⟨g, 0, none⟩) (n + 1) c)) w') : wpList Tryz.prog ops Q (o :: rest) a (W.alloc (.cells #[.string t] 9)) :=
  wpList_plain hgd fun K hK => by
    obtain ⟨g, c, w', hr, h2⟩ := run_push W o.type base n g0 c0 ps hown G hG t hm hb
    unfold Oper.wp execOp
    simp only [ho, resolve, invoke, builtin, Sem.run_bind, Sem.run_pure, Result.andThen_ok, List.map_toArray, List.map_cons, List.map_nil, hs, hxv, hr]
    exact hK _ _ (h g c w' h2)
/-- an append as a step of a region that draws: by its run -/
theorem step_appendW {ops : Array Oper} {o : Oper} {a : Act} {w : World} {K : Act → World → Prop} {Q : Exit → Act → World → Prop} {E : Prop} (hw : Region.wanted o (yielded ops a.tmps) = true) (s x : Operand)
    (ho : o.op = .call { callee := .builtin .append, args := #[s, x], argTypes := #[23, 23] }) (v u r : Value) (w' : World) (hs : a.eval s = v) (hx : a.eval x = u)
    (hr : (Builtin.append_ #[23, 23] o.type #[v, u]).run Tryz.prog w = .ok r w') (h : K (a.put o.dst r) w') : if Region.wanted o (yielded ops a.tmps) = true then Oper.wp Tryz.prog o a w K Q else E := by
  refine step_valueW hw r w' ?_ h
  unfold execOp
  simp only [ho, resolve, invoke, builtin, Sem.run_bind, Sem.run_pure, Result.andThen_ok, List.map_toArray, List.map_cons, List.map_nil, hs, hx, hr]
end Go.Proofs.YtbkcgkffafjbgaaGreatDoor
