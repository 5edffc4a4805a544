/- How a console of the specification stands: both who talk, and bytes told so far, in a row of their own. -/
import Derived.Test.YtbkcgkffafjbgaaGreatDoorGg
import Derived.Test.YtbkcgkffafjbgaaGreatDoorTld
import Derived.Lib.AppendStr
import Derived.Lib.Builder
namespace Go.Proofs.YtbkcgkffafjbgaaGreatDoor
open Go.RowKit
set_option maxHeartbeats 4000000
set_option maxRecDepth 20000
set_option linter.unusedVariables false
abbrev zP8 : Obj := .cells #[.slice none 0 0, .int .i64 0, .int .i64 0, .slice none 0 0, .slice none 0 0, .int .i64 0, .int .i64 0, .slice none 0 0] 53
theorem make41 (w : World) : (Instr.makeSlice 41 (.int .i64 2) (.int .i64 2)).run Tryz.prog w = .ok (.slice (some ⟨w.heap.size, 0, none⟩) 2 2) (w.alloc zP8) := by
  obtain ⟨k0, hk0, kz0, kz1, kz2⟩ := info_parts info33
  have h := run_makeSlice w (P := Tryz.prog) 41 53 k0 _ Tryz.underlying41 hk0 kz0 .i64 .i64 2 2 (by omega) (Int.le_refl _) (by rw [kz1]; omega) (by rw [kz2]; omega) (by omega)
  rw [kz1] at h
  have hm : madeCells (Value.agg #[.slice none 0 0, .int .i64 0, .int .i64 0, .slice none 0 0]).cells (Int.toNat 2 * 4) = #[.slice none 0 0, .int .i64 0, .int .i64 0, .slice none 0 0, .slice none 0 0, .int .i64 0, .int .i64 0, .slice none 0 0] := by kernel_rfl
  rw [hm] at h
  exact h
theorem strs_nilZ (w : World) : strsV w (.slice none 0 0) [] := ⟨none, 0, rfl, fun h => by simp at h⟩
theorem tw0_row (w : World) : twV (w.alloc zP8) (.slice (some ⟨w.heap.size, 0, none⟩) 2 2) ⟨pe0, pe0⟩ :=
  ⟨_, _, _, _, _, _, [], rfl, Nat.le_refl _, heap_alloc_new w _, ⟨_, _, rfl, strs_nilZ _, strs_nilZ _⟩, ⟨_, _, _, rfl, Nat.le_refl _⟩, ⟨_, _, rfl, strs_nilZ _, strs_nilZ _⟩, ⟨_, _, _, rfl, Nat.le_refl _⟩⟩
theorem offB_nil (b : Nat) : offB b (.slice none 0 0) := fun A n c e hn hk => by cases hk
theorem own_kept {w w' : World} {base e size : Nat} {v : Value} {n : Nat} {xs : List Value} (h : w.ownsRow base e size v n xs) (hb : Below w.heap.size w w') : w'.ownsRow base e size v n xs :=
  h.kept (row := none) ⟨hb.os, hb.tape, hb.output, hb.size, fun k hk _ => hb.block k hk⟩ (by cases v with | slice A n c => cases A <;> simp [Value.ownBlock] | _ => exact .inl rfl)
/-- a store into a row of bytes leaves two peers as they were -/
theorem twV_push {W W' : World} {v : Value} {z : Tw} {g1 : Nat} {cs : Array Value} (h : twV W v z) (ho : offT g1 W v) (hg : W.heap[g1]? = some (.cells cs 5 (0, 0))) (hk : ∀ k, k < W.heap.size → k ≠ g1 → W'.heap[k]? = W.heap[k]?) (hs : W.heap.size ≤ W'.heap.size) : twV W' v z := by
  obtain ⟨g, c, q0, i0, q1, i1, rest, rfl, hc, hr, hp, kp, hq, kq⟩ := h
  obtain ⟨o0, o3, o4, o7⟩ := ho.row hr
  have hne : g ≠ g1 := fun e => by
    subst e
    have := Option.some.inj (hr.symm.trans hg)
    simp at this
  have st : ∀ {u : Value} {xs : List ByteArray}, strsV W u xs → offB g1 u → strsV W' u xs := fun {u xs} hu ho => by
    obtain ⟨A, cap, rfl, hx⟩ := hu
    refine ⟨A, cap, rfl, fun hn => ?_⟩
    obtain ⟨b, off, rfl, hl, hx⟩ := hx hn
    have : b ≠ g1 := fun e => ho _ _ _ rfl hn (by rw [← e]; rfl)
    refine ⟨b, off, rfl, Nat.lt_of_lt_of_le hl hs, fun j hj => ?_⟩
    rw [World.cell?_of_block (w := W) (hk b hl this)]
    exact hx j hj
  obtain ⟨a0, b0, e0, p1, p2⟩ := hp
  obtain ⟨rfl, rfl⟩ := peA_inj e0
  obtain ⟨a1, b1, e1, p3, p4⟩ := hq
  obtain ⟨rfl, rfl⟩ := peA_inj e1
  exact ⟨g, c, _, _, _, _, rest, rfl, hc, (hk g hr.lt hne).trans hr, ⟨_, _, rfl, st p1 o0, st p2 o3⟩, kp, ⟨_, _, rfl, st p3 o4, st p4 o7⟩, kq⟩
theorem offT_keep {W W' : World} {v : Value} {b g1 : Nat} {cs : Array Value} (h : offT b W v) (hg : W.heap[g1]? = some (.cells cs 5 (0, 0))) (hk : ∀ k, k < W.heap.size → k ≠ g1 → W'.heap[k]? = W.heap[k]?) : offT b W' v := by
  obtain ⟨g, c, q0, a1, a2, i0, q1, a5, a6, i1, rest, rfl, hr, h1⟩ := h
  have hne : g ≠ g1 := fun e => by
    subst e
    have := Option.some.inj (hr.symm.trans hg)
    simp at this
  exact ⟨g, c, q0, a1, a2, i0, q1, a5, a6, i1, rest, rfl, (hk g hr.lt hne).trans hr, h1⟩
theorem offT_size {W : World} {v : Value} {z : Tw} {b : Nat} (h : twV W v z) (hb : W.heap.size ≤ b) : offT b W v := by
  obtain ⟨g, c, q0, i0, q1, i1, rest, rfl, hc, hr, hp, kp, hq, kq⟩ := h
  obtain ⟨x1, x2⟩ := offP_parts (offP_old hp hb)
  obtain ⟨x3, x4⟩ := offP_parts (offP_old hq hb)
  exact ⟨g, c, _, _, _, _, _, _, _, _, rest, rfl, hr, x1, x2, x3, x4⟩
theorem info5s : (Tryz.prog.info? 5).map (fun i => (i.zero, i.size, i.bytes)) = some (some (.int .u8 0), 1, 1) := by kernel_rfl
/-- append(out, s...) -/
theorem run_appS (w : World) (base g1 n cap : Nat) (xs : List Value) (hown : w.ownsRow base 5 1 (.slice (some ⟨g1, 0, none⟩) n cap) n xs) (s : ByteArray) (hs : n + s.size ≤ 1073741824) (hb : base ≤ w.heap.size) (ty : TypeId) :
    ∃ g2 c2 w', (Builtin.append_ #[22, 9] ty #[.slice (some ⟨g1, 0, none⟩) n cap, .string s]).run Tryz.prog w = .ok (.slice (some ⟨g2, 0, none⟩) (n + s.size) c2) w' ∧
      w'.ownsRow base 5 1 (.slice (some ⟨g2, 0, none⟩) (n + s.size) c2) (n + s.size) (xs ++ Lib.strCells s) ∧ w.grownBy w' (some g1) ∧ (g2 = g1 ∨ g2 = w.heap.size) := by
  obtain ⟨i0, hi, hz0, hz1, hz2⟩ := info_parts info5s
  obtain ⟨v', w', hr, h2, h3, _⟩ := Lib.run_append_own_string (P := Tryz.prog) w base 22 9 ty 5 i0 Tryz.underlying22 Tryz.underlying9 hi hz0 hz1 hz2 _ n xs hown s (by unfold maxLen; omega) (by omega) hb
  rcases hown.2 with ⟨e, _⟩ | ⟨g, cap', cur, e, hbg, hg, hnc, hcm, hcs, htake⟩
  · cases e
  · injection e with e1 _ e3
    injection e1 with e1
    injection e1 with e1 _ _
    subst e1 e3
    by_cases hroom : n + s.size ≤ cap
    · have hr2 := Lib.run_append_room_string (P := Tryz.prog) w 22 9 ty 5 i0 Tryz.underlying22 Tryz.underlying9 hi hz1 g1 n cap cur hg s hroom (by omega)
      rw [hr] at hr2
      injection hr2 with e1 e2
      subst e1
      exact ⟨g1, cap, w', hr, h2, h3, Or.inl rfl⟩
    · have hr2 := Lib.run_append_grow_string (P := Tryz.prog) w 22 9 ty 5 i0 (.int .u8 0) Tryz.underlying22 Tryz.underlying9 hi hz0 ⟨g1, 0, none⟩ n cap xs (by rw [hz1]; simpa using hown.1) (hown.cells (g := g1) rfl) s (by omega) (by omega) (by rw [hz2]; exact growslice_fits (by omega) (by omega))
      rw [hr] at hr2
      injection hr2 with e1 e2
      subst e1
      exact ⟨w.heap.size, _, w', hr, h2, h3, Or.inr rfl⟩
/-- both who talk, as a list; the bytes told so far, in block g1 -/
structure SC (B g1 c1 : Nat) (W : World) (lv : Value) (z : Tw) (t : By) : Prop where
  tw : twV W lv z
  own : W.ownsRow B 5 1 (.slice (some ⟨g1, 0, none⟩) t.length c1) t.length (Lib.byteCells t)
  off : offT g1 W lv
theorem SC.below {B g1 c1 : Nat} {W X : World} {lv : Value} {z : Tw} {t : By} (h : SC B g1 c1 W lv z t) (hb : Below W.heap.size W X) : SC B g1 c1 X lv z t :=
  ⟨h.tw.below hb, own_kept h.own hb, h.off.below hb⟩
theorem SC.row {B g1 c1 : Nat} {W : World} {lv : Value} {z : Tw} {t : By} (h : SC B g1 c1 W lv z t) : B ≤ g1 ∧ g1 < W.heap.size ∧ ∃ cs, W.heap[g1]? = some (.cells cs 5 (0, 0)) := by
  rcases h.own.2 with ⟨e, _⟩ | ⟨g, cap', cur, e, hbg, hg, _⟩
  · cases e
  · injection e with e1 _ e3
    injection e1 with e1
    injection e1 with e1 _ _
    subst e1
    exact ⟨hbg, (Array.getElem?_eq_some_iff.1 hg).1, _, hg⟩
theorem byte_strs (t : By) (s : ByteArray) : Lib.byteCells t ++ Lib.strCells s = Lib.byteCells (t ++ s.data.toList) := by
  unfold Lib.strCells Lib.byteCells
  simp
theorem SC.app {B g1 c1 g2 c2 : Nat} {W X : World} {lv : Value} {z : Tw} {t : By} {s : ByteArray} (h : SC B g1 c1 W lv z t)
    (h1 : X.ownsRow B 5 1 (.slice (some ⟨g2, 0, none⟩) (t.length + s.size) c2) (t.length + s.size) (Lib.byteCells t ++ Lib.strCells s)) (h2 : W.grownBy X (some g1)) (h3 : g2 = g1 ∨ g2 = W.heap.size) : SC B g2 c2 X lv z (t ++ s.data.toList) := by
  obtain ⟨_, _, cs, hg⟩ := h.row
  have hk : ∀ k, k < W.heap.size → k ≠ g1 → X.heap[k]? = W.heap[k]? := fun k hk hne => h2.block k hk (fun e => hne (Option.some.inj e))
  refine ⟨twV_push h.tw h.off hg hk h2.size, ?_, ?_⟩
  · rw [byte_strs] at h1
    rw [List.length_append]
    exact h1
  · rcases h3 with rfl | rfl
    · exact offT_keep h.off hg hk
    · exact offT_keep (offT_size h.tw (Nat.le_refl _)) hg hk
theorem SC.app_below {B D g1 c1 : Nat} {W X Y : World} {lv : Value} {z : Tw} {t : By} (h : SC B g1 c1 W lv z t) (h2 : W.grownBy X (some g1)) (hb : Below D Y W) (hD : D ≤ B) (hs : D ≤ W.heap.size) : Below D Y X :=
  Below.grown hb h2 hs (fun k e => by cases e; exact Nat.le_trans hD h.row.1)
/-- a row of texts is none of bytes -/
theorem SC.app_row {B g1 c1 k tt : Nat} {W X : World} {lv : Value} {z : Tw} {t : By} {cs : Array Value} {fr : Nat × Nat} (h : SC B g1 c1 W lv z t) (h2 : W.grownBy X (some g1)) (hr : W.heap[k]? = some (.cells cs tt fr)) (ht : tt ≠ 5) : X.heap[k]? = some (.cells cs tt fr) := by
  obtain ⟨_, _, cs', hg⟩ := h.row
  refine (h2.block k (Array.getElem?_eq_some_iff.1 hr).1 (fun e => ?_)).trans hr
  have e : k = g1 := Option.some.inj e
  subst e
  rw [hr] at hg
  injection hg with hg
  injection hg with _ hg _
  exact ht hg
theorem wpList_app (w : World) {ops : Array Oper} {rest : List Oper} {o : Oper} {a : Act} {Q : Exit → Act → World → Prop} (hgd : o.guard = none) (x y : Operand)
    (ho : o.op = .call { callee := .builtin .append, args := #[x, y], argTypes := #[22, 9] })
    (base g1 n cap : Nat) (xs : List Value) (hx : a.eval x = .slice (some ⟨g1, 0, none⟩) n cap) (hown : w.ownsRow base 5 1 (.slice (some ⟨g1, 0, none⟩) n cap) n xs) (s : ByteArray) (hy : a.eval y = .string s) (hs : n + s.size ≤ 1073741824) (hb : base ≤ w.heap.size)
    (h : ∀ (g2 c2 : Nat) (w' : World), w'.ownsRow base 5 1 (.slice (some ⟨g2, 0, none⟩) (n + s.size) c2) (n + s.size) (xs ++ Lib.strCells s) → w.grownBy w' (some g1) → (g2 = g1 ∨ g2 = w.heap.size) → wpList Tryz.prog ops Q rest (a.put o.dst (.slice (some ⟨g2, 0, none⟩) (n + s.size) c2)) w') : wpList Tryz.prog ops Q (o :: rest) a w :=
  wpList_plain hgd fun K hK => by
    obtain ⟨g2, c2, w', hr, h1, h2, h3⟩ := run_appS w base g1 n cap xs hown s hs hb o.type
    unfold Oper.wp execOp
    simp only [ho, resolve, invoke, builtin, Sem.run_bind, Sem.run_pure, Result.andThen_ok, List.map_toArray, List.map_cons, List.map_nil, hx, hy, hr]
    exact hK _ _ (h g2 c2 w' h1 h2 h3)
end Go.Proofs.YtbkcgkffafjbgaaGreatDoor
