/- Batches: the laws' helpers. -/
import Derived.Test.YtgdohkemamlnhaaDoorStr
import Derived.Test.YtgdohkemamlnhaaDoorRm
import Derived.Laws.ResultCell
namespace Go.Proofs.YtgdohkemamlnhaaDoor
open Go.RowKit
set_option maxHeartbeats 4000000
set_option maxRecDepth 20000
/-- a batch as a value -/
abbrev btV (r l : Int) (v : Value) : Value := .agg #[.int .i64 r, .int .i64 l, v]
/-- a batch's cells in block p -/
structure BC (p : Nat) (r l : Int) (v : Value) (W : World) : Prop where
  lt : p < W.heap.size
  c0 : W.cell? ⟨p, 0, none⟩ = some (.int .i64 r)
  c1 : W.cell? ⟨p, 1, none⟩ = some (.int .i64 l)
  c2 : W.cell? ⟨p, 2, none⟩ = some v
theorem bc_new (w : World) (r l : Int) (v : Value) (t : TypeId) : BC w.heap.size r l v (w.alloc (.cells #[.int .i64 r, .int .i64 l, v] t)) := by
  refine ⟨by simp, ?_, ?_, ?_⟩ <;> rw [Go.cell_of_row _ _ _ _ _ _ (heap_alloc_new w _)] <;> rfl
theorem BC.below {p : Nat} {r l : Int} {v : Value} {W W' : World} (h : BC p r l v W) (hb : Below W.heap.size W W') : BC p r l v W' :=
  ⟨Nat.lt_of_lt_of_le h.lt hb.size, (cell_below hb h.lt).trans h.c0, (cell_below hb h.lt).trans h.c1, (cell_below hb h.lt).trans h.c2⟩
theorem ownS.lone {q lo hi : Nat} {w w' : World} {v : Value} {ts : List ByteArray} (h : ownS lo hi w v ts) (hl : Lone q w w') (hq : q < lo) : ownS lo hi w' v ts := by
  obtain h | ⟨g, cap, rest, rfl, hg, hh, hc, hcp⟩ := h
  · exact .inl h
  · exact .inr ⟨g, cap, rest, rfl, hg, hh, (hl.block g (Array.getElem?_eq_some_iff.1 hc).1 (by omega)).trans hc, hcp⟩
theorem ownS.wide {lo hi lo' hi' : Nat} {w : World} {v : Value} {ts : List ByteArray} (h : ownS lo hi w v ts) (h1 : lo' ≤ lo) (h2 : hi ≤ hi') : ownS lo' hi' w v ts := by
  obtain h | ⟨g, cap, rest, rfl, hg, hh, hc, hcp⟩ := h
  · exact .inl h
  · exact .inr ⟨g, cap, rest, rfl, by omega, by omega, hc, hcp⟩
theorem size_set (X : World) (q i : Nat) (v : Value) : (X.setCell ⟨q, i, none⟩ v).heap.size = X.heap.size := by simp [World.setCell]
theorem eq19 (r l : Int) (a b : Value) (ts : List ByteArray) (w : World) (ha : strsV w a ts) (hb : strsV w b ts) (hn : ts.length ≤ 2097152) :
    Calls Tryd.prog 14 #[btV r l a, btV r l b] w fun e w' => e = .returned (.bool true) ∧ Below w.heap.size w w' := by
  have B1 : Below w.heap.size w (w.alloc (.cells #[.int .i64 r, .int .i64 l, a] 33)) := bl_al (Below.refl _ _)
  have B2 := bl_al (o := .cells #[.int .i64 r, .int .i64 l, b] 33) B1
  have h33 := hide (eq33 a b ts _ (ha.below B2) (hb.below B2) hn)
  obtain ⟨_, c0, c1, c2⟩ := (bc_new w r l a 33).below (bl_al (o := .cells #[.int .i64 r, .int .i64 l, b] 33) (Below.refl _ _))
  obtain ⟨_, d0, d1, d2⟩ := bc_new (w.alloc (.cells #[.int .i64 r, .int .i64 l, a] 33)) r l b 33
  have HB := hide B2
  obtain ⟨A, ca, rfl, _⟩ := ha
  obtain ⟨A2, cb, rfl, _⟩ := hb
  clear B1 B2 hn
  go_enter Tryd.func14, Tryd.ntmps14
  go_wp2_with fail
  refine (unhide h33).mono ?_
  rintro e w3 ⟨rfl, k, rfl⟩
  go_wp2
  go_ret
  exact ⟨rfl, below_drewN (unhide HB) k⟩
theorem TouchS.of_below {v : Value} {a b : World} (h : Below a.heap.size a b) : TouchS v a b := ⟨h.os, h.tape, h.output, h.size, fun k hk _ => h.block k hk⟩
theorem TouchS.trans {v : Value} {a b c : World} (h : TouchS v a b) (g : TouchS v b c) : TouchS v a c :=
  ⟨g.os.trans h.os, g.tape.trans h.tape, g.output.trans h.output, Nat.le_trans h.size g.size, fun k hk hq => (g.block k (Nat.lt_of_lt_of_le hk h.size) hq).trans (h.block k hk hq)⟩
theorem mark20 (lo hi : Nat) (r l : Int) (v : Value) (ts : List ByteArray) (w : World) (hv : ownS lo hi w v ts) (hn : ts.length ≤ 2097152) :
    Calls Tryd.prog 16 #[btV r l v, .int .i64 1] w fun e w' => e = .returned (.int .i64 (1 + (ts.length : Int))) ∧ ownS lo hi w' v (marksS ts.length) ∧ TouchS v w w' := by
  have B1 : Below w.heap.size w (w.alloc (.cells #[.int .i64 r, .int .i64 l, v] 33)) := bl_al (Below.refl _ _)
  have h34 := hide (mark34 lo hi v ts _ (hv.below B1) hn)
  obtain ⟨_, c0, c1, c2⟩ := bc_new w r l v 33
  have T1 := hide (TouchS.of_below (v := v) B1)
  obtain ⟨A', n', cap', rfl⟩ : ∃ A' n' cap', v = .slice A' n' cap' := by
    obtain ⟨A', cap', e, _⟩ := hv.strs
    exact ⟨_, _, _, e⟩
  clear B1 hv
  have n0 : (0 : Int) ≤ (ts.length : Int) := by omega
  have n1 : (ts.length : Int) ≤ 2097152 := by omega
  go_enter Tryd.func16, Tryd.ntmps16
  go_wp2_with fail
  refine (unhide h34).mono ?_
  rintro e w3 ⟨rfl, o3, t3⟩
  have O3 := hide o3
  have T3 := hide ((unhide T1).trans t3)
  clear o3 t3 T1 h34
  go_wp2
  go_ret
  exact ⟨rfl, unhide O3, unhide T3⟩
end Go.Proofs.YtgdohkemamlnhaaDoor
