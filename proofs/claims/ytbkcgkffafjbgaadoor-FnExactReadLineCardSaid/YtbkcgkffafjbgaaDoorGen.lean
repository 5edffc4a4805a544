/- What is of no one function: what turned in the world, regions that draw their order, a block's cells. -/
import Derived.Test.YtbkcgkffafjbgaaDoorProg
import Derived.Test.YtbkcgkffafjbgaaDoorRow
import Derived.WalkKit
import Derived.WalkSpells
import Derived.WalkLawsBesides
import Derived.Handy
import Derived.Outline
import Derived.Deep.QuietTactic
import Derived.BigQuiet
import Derived.BigRegion
import Derived.Deep.RegionHeld3
import Derived.Deep.RegionHeldLaw
namespace Go.Proofs.YtbkcgkffafjbgaaDoor
open Go.RowKit
set_option maxHeartbeats 4000000
set_option maxRecDepth 20000
theorem hide {p : Prop} (h : p) : Hid p := h
theorem unhide {p : Prop} (h : Hid p) : p := h
theorem meet {G P : Prop} (h : G → P) (m : G) : P := h m
theorem below_drewN {B : Nat} {a w : World} (h : Below B a w) (k : Nat) : Below B a (w.drewN k) := ⟨h.os, h.tape, h.output, h.size, h.block⟩
theorem heap_at (W : World) (o : Obj) (n : Nat) (h : n = W.heap.size) : (W.alloc o).heap[n]? = some o := by subst h; exact heap_alloc_new W o
theorem get_setRow {W : World} {g : Nat} {cs old : Array Value} {t : TypeId} {fr : Nat × Nat} (h : W.heap[g]? = some (.cells old t fr)) : (W.setRow g cs).heap[g]? = some (.cells cs t fr) := by
  simp [World.setRow, Array.getElem?_modify, h]
theorem below_setRow {B g : Nat} {a W : World} {cs : Array Value} (h : Below B a W) (hg : B ≤ g) : Below B a (W.setRow g cs) :=
  ⟨h.os, h.tape, h.output, by simpa [World.setRow] using h.size, fun k hk => by
    rw [← h.block k hk]; simp only [World.setRow]; rw [Array.getElem?_modify, if_neg (by omega)]⟩
theorem cell_below {w w' : World} (hb : Below w.heap.size w w') {b i : Nat} (h : b < w.heap.size) : w'.cell? ⟨b, i, none⟩ = w.cell? ⟨b, i, none⟩ := by
  unfold World.cell?
  rw [show (⟨b, i, none⟩ : Addr).block = b from rfl, hb.block b h]
/-- the first j of one list, then the rest of another -/
def mixL (r xs : List Int) (j : Nat) : List Int := r.take j ++ xs.drop j
theorem mixL_len (r xs : List Int) (j : Nat) (h : r.length = xs.length) : (mixL r xs j).length = xs.length := by simp [mixL]; omega
theorem mixL_zero (r xs : List Int) : mixL r xs 0 = xs := by simp [mixL]
theorem mixL_all (r xs : List Int) (h : r.length = xs.length) : mixL r xs xs.length = r := by simp [mixL, ← h]
theorem mixL_at (r xs : List Int) (j : Nat) (h : r.length = xs.length) (hj : j < xs.length) : (mixL r xs j).getD j 0 = xs.getD j 0 := by
  unfold mixL
  rw [List.getD_eq_getElem?_getD, List.getElem?_append_right (by simp; omega), List.getElem?_drop, List.getD_eq_getElem?_getD]
  congr 2
  simp; omega
theorem mixL_succ (r xs : List Int) (j : Nat) (h : r.length = xs.length) (hj : j < xs.length) : (mixL r xs j).set j (r.getD j 0) = mixL r xs (j + 1) := by
  apply List.ext_getElem?
  intro i
  unfold mixL
  rcases Nat.lt_trichotomy i j with hi | hi | hi
  · rw [List.getElem?_set_ne (by omega), List.getElem?_append_left (by simp; omega), List.getElem?_append_left (by simp; omega), List.getElem?_take_of_lt hi, List.getElem?_take_of_lt (by omega)]
  · subst hi
    rw [List.getElem?_set_self (by simp; omega), List.getElem?_append_left (by simp; omega), List.getElem?_take_of_lt (by omega), List.getD_eq_getElem?_getD, List.getElem?_eq_getElem (by omega)]
    rfl
  · rw [List.getElem?_set_ne (by omega), List.getElem?_append_right (by simp; omega), List.getElem?_append_right (by simp; omega), List.getElem?_drop, List.getElem?_drop]
    congr 1
    simp; omega
theorem get_setRow_other {W : World} {g n : Nat} {cs : Array Value} (h : n ≠ g) : (W.setRow g cs).heap[n]? = W.heap[n]? := by
  simp only [World.setRow]; rw [Array.getElem?_modify, if_neg (by omega)]
theorem bl_al {w X : World} {o : Obj} (h : Below w.heap.size w X) : Below w.heap.size w (X.alloc o) := h.alloc h.size o
theorem bl_dr {w X : World} (h : Below w.heap.size w X) : Below w.heap.size w X.drew := below_drewN h 1
theorem bl_st {w X Y : World} (hb : Below X.heap.size X Y) (h : Below w.heap.size w X) : Below w.heap.size w Y := h.trans (hb.mono h.size)
/-- where v lies -/
def liesIn (lo hi : Nat) (v : Value) : Prop := ∀ g, v.ownBlock = some g → lo ≤ g ∧ g < hi
/-- nothing that was there but block q has turned -/
structure Lone (q : Nat) (w w' : World) : Prop where
  os : w'.os = w.os
  tape : w'.tape = w.tape
  output : w'.output = w.output
  size : w.heap.size ≤ w'.heap.size
  block : ∀ k, k < w.heap.size → k ≠ q → w'.heap[k]? = w.heap[k]?
theorem Lone.refl (q : Nat) (w : World) : Lone q w w := ⟨rfl, rfl, rfl, Nat.le_refl _, fun _ _ _ => rfl⟩
theorem Lone.trans {q : Nat} {a b c : World} (h : Lone q a b) (g : Lone q b c) : Lone q a c :=
  ⟨g.os.trans h.os, g.tape.trans h.tape, g.output.trans h.output, Nat.le_trans h.size g.size, fun k hk hq => (g.block k (Nat.lt_of_lt_of_le hk h.size) hq).trans (h.block k hk hq)⟩
theorem Lone.of_below {q : Nat} {a b : World} (h : Below a.heap.size a b) : Lone q a b := ⟨h.os, h.tape, h.output, h.size, fun k hk _ => h.block k hk⟩
theorem Lone.below {q B : Nat} {x a b : World} (h : Lone q a b) (hx : Below B x a) (hB : B ≤ q) (hs : B ≤ a.heap.size) : Below B x b :=
  ⟨h.os.trans hx.os, h.tape.trans hx.tape, h.output.trans hx.output, Nat.le_trans hx.size h.size, fun k hk => (h.block k (by omega) (by omega)).trans (hx.block k hk)⟩
theorem lone_setCell (q i : Nat) (X : World) (v : Value) : Lone q X (X.setCell ⟨q, i, none⟩ v) :=
  ⟨rfl, rfl, rfl, by simp [World.setCell], fun k _ hq => by simp only [World.setCell]; rw [Array.getElem?_modify, if_neg (by omega)]⟩
theorem bl_set {B q i : Nat} {x X : World} {v : Value} (h : Below B x X) (hq : B ≤ q) : Below B x (X.setCell ⟨q, i, none⟩ v) :=
  ⟨h.os, h.tape, h.output, by simpa [World.setCell] using h.size, fun k hk => by
    rw [← h.block k hk]; simp only [World.setCell]; rw [Array.getElem?_modify, if_neg (by omega)]⟩
/-- nothing that was there but v's own block has turned -/
structure TouchS (v : Value) (w w' : World) : Prop where
  os : w'.os = w.os
  tape : w'.tape = w.tape
  output : w'.output = w.output
  size : w.heap.size ≤ w'.heap.size
  block : ∀ k, k < w.heap.size → v.ownBlock ≠ some k → w'.heap[k]? = w.heap[k]?
theorem belowS {B lo hi : Nat} {a w w' : World} {v : Value} (h : Below B a w) (ht : TouchS v w w') (hl : liesIn lo hi v) (hB : B ≤ lo) (hw : B ≤ w.heap.size) : Below B a w' :=
  ⟨ht.os.trans h.os, ht.tape.trans h.tape, ht.output.trans h.output, Nat.le_trans h.size ht.size, fun k hk => by
    rw [ht.block k (by omega) (fun e => by have := hl k e; omega)]; exact h.block k hk⟩
theorem row_cell {X : World} {t i : Nat} {cs : Array Value} {ty : TypeId} (h : X.heap[t]? = some (.cells cs ty (0, 0))) : X.cell? ⟨t, i, none⟩ = cs[i]? := by
  rw [Go.cell_of_row _ _ _ _ _ _ h]
theorem row_free {X : World} {t i : Nat} {cs : Array Value} {ty : TypeId} (h : X.heap[t]? = some (.cells cs ty (0, 0))) : X.frozen? ⟨t, i, none⟩ = false := by
  simp [World.frozen?, h]
theorem row_set {X : World} {t i : Nat} {cs : Array Value} {v : Value} {ty : TypeId} (h : X.heap[t]? = some (.cells cs ty (0, 0))) : (X.setCell ⟨t, i, none⟩ v).heap[t]? = some (.cells (cs.setIfInBounds i v) ty (0, 0)) := by
  simp [World.setCell, Array.getElem?_modify, h]
theorem row_set_other {X : World} {t t' i : Nat} {o : Obj} {v : Value} (h : X.heap[t]? = some o) (hne : t' ≠ t) : (X.setCell ⟨t', i, none⟩ v).heap[t]? = some o := by
  rw [← h]; simp only [World.setCell]; rw [Array.getElem?_modify, if_neg (by omega)]
theorem size_set (X : World) (q i : Nat) (v : Value) : (X.setCell ⟨q, i, none⟩ v).heap.size = X.heap.size := by simp [World.setCell]
theorem TouchS.of_below {v : Value} {a b : World} (h : Below a.heap.size a b) : TouchS v a b := ⟨h.os, h.tape, h.output, h.size, fun k hk _ => h.block k hk⟩
theorem TouchS.trans {v : Value} {a b c : World} (h : TouchS v a b) (g : TouchS v b c) : TouchS v a c :=
  ⟨g.os.trans h.os, g.tape.trans h.tape, g.output.trans h.output, Nat.le_trans h.size g.size, fun k hk hq => (g.block k (Nat.lt_of_lt_of_le hk h.size) hq).trans (h.block k hk hq)⟩
theorem step_skipW {P : Program} {ops : Array Oper} {o : Oper} {a : Act} {w : World} {K : Act → World → Prop} {Q : Exit → Act → World → Prop} {E : Prop} (hw : Region.wanted o (yielded ops a.tmps) = true) (w' : World) (hrun : (execOp a.eval o).run P w = .ok .skip w')
    (h : K (a.put o.dst undef) w') : if Region.wanted o (yielded ops a.tmps) = true then Oper.wp P o a w K Q else E := by
  rw [if_pos hw]
  unfold Oper.wp
  rw [hrun, Oper.upon_skip]
  exact h
theorem step_enterW {P : Program} {ops : Array Oper} {o : Oper} {a : Act} {w : World} {K : Act → World → Prop} {Q : Exit → Act → World → Prop} {E : Prop} (hw : Region.wanted o (yielded ops a.tmps) = true) (f : FuncId) (args : Array Value) (hrun : (execOp a.eval o).run P w = .ok (.enter f args) w)
    (hc : Calls P f args w fun e w' => ∃ v, e = .returned v ∧ K (a.put o.dst v) w') : if Region.wanted o (yielded ops a.tmps) = true then Oper.wp P o a w K Q else E := by
  rw [if_pos hw]
  unfold Oper.wp
  rw [hrun, Oper.upon_enter]
  refine hc.mono fun e w'' hh => ?_
  obtain ⟨v, rfl, hk⟩ := hh
  exact hk
theorem step_valueW {P : Program} {ops : Array Oper} {o : Oper} {a : Act} {w : World} {K : Act → World → Prop} {Q : Exit → Act → World → Prop} {E : Prop} (hw : Region.wanted o (yielded ops a.tmps) = true) (v : Value) (w' : World) (hrun : (execOp a.eval o).run P w = .ok (.value v) w')
    (h : K (a.put o.dst v) w') : if Region.wanted o (yielded ops a.tmps) = true then Oper.wp P o a w K Q else E := by
  rw [if_pos hw]
  unfold Oper.wp
  rw [hrun, Oper.upon_value]
  exact h
theorem wpAnyH_one {P : Program} {md : Region.Mode} {ops : Array Oper} {Q : Exit → Act → World → Prop} {S : World → Prop} {fuel : Nat} {listed : Array Bool} {a : Act} {w : World} {i : Nat} (hr : Region.ready md ops listed = [i])
    (h : wpOp P ops Q i (fun a' w' => S w' ∧ wpAnyH P md ops Q S fuel (listed.setIfInBounds i true) a' w') a w) : wpAnyH P md ops Q S (fuel + 1) listed a w :=
  wpAnyH_all hr (by simp) fun k hk => by
    obtain rfl : k = i := by simpa using hk
    exact h
theorem wpAnyH_two {P : Program} {md : Region.Mode} {ops : Array Oper} {Q : Exit → Act → World → Prop} {S : World → Prop} {fuel : Nat} {listed : Array Bool} {a : Act} {w : World} {i j : Nat} (hr : Region.ready md ops listed = [i, j])
    (h1 : wpOp P ops Q i (fun a' w' => S w' ∧ wpAnyH P md ops Q S fuel (listed.setIfInBounds i true) a' w') a w)
    (h2 : wpOp P ops Q j (fun a' w' => S w' ∧ wpAnyH P md ops Q S fuel (listed.setIfInBounds j true) a' w') a w) : wpAnyH P md ops Q S (fuel + 1) listed a w :=
  wpAnyH_all hr (by simp) fun k hk => by
    rcases List.mem_cons.1 hk with rfl | hk
    · exact h1
    · obtain rfl : k = j := by simpa using hk
      exact h2
theorem ret_bool {a b : Bool} (h : a = b) : Ending.returned (.bool a) = .returned (.bool b) := by rw [h]
theorem in19 (n lo hi : Int) (w : World) : Calls Tryd.prog 11 #[.int .i64 n, .int .i64 lo, .int .i64 hi] w fun e w' => e = .returned (.bool (decide (lo ≤ n) && decide (n ≤ hi))) ∧ w' = w := by
  go_enter Tryd.func11, Tryd.ntmps11
  go_wp2
  all_goals
    go_ret
    exact ⟨ret_bool (by rw [Bool.eq_iff_iff]; simp; try omega), rfl⟩
end Go.Proofs.YtbkcgkffafjbgaaDoor
