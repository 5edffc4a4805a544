/- What is of no one function: what turned in the world, regions that draw their order, a block's cells, marks. -/
import Derived.Test.YthonnlifgdnacaaSli
import Derived.Deep.RegionHeldLaw
import Derived.Great.BuildSlice
import Derived.Laws.IdiomStrings
import Derived.Laws.ResultCell
namespace Go.Proofs.Ythonnlifgdnacaa
open Go.RowKit
set_option maxHeartbeats 4000000
set_option maxRecDepth 20000
theorem bytes_new (W : World) (x : Int) (hx : 0 ≤ x ∧ x < 256) : bytesV (W.alloc (.cells #[.int .u8 x] 5)) (.slice (some ⟨W.heap.size, 0, none⟩) 1 1) [x] :=
  ⟨_, 1, rfl, (fun y hy => by simp at hy; subst hy; exact hx), fun _ => ⟨W.heap.size, 0, rfl, by simp, fun i hi => by
    have hi' : i < 1 := hi
    obtain rfl : i = 0 := by omega
    rw [Go.cell_of_row _ _ _ _ _ _ (heap_alloc_new W _)]; rfl⟩⟩
/-- a text's bytes as numbers -/
def txt (t : ByteArray) : List Int := t.data.toList.map fun b => (b.toNat : Int)
theorem txt_len (t : ByteArray) : (txt t).length = t.size := by rw [txt, List.length_map, Array.length_toList]; rfl
theorem txt_isB (t : ByteArray) : isB (txt t) := by
  intro x hx
  obtain ⟨b, _, rfl⟩ := List.mem_map.1 hx
  have := UInt8.toNat_lt b
  omega
theorem bl_al {w X : World} {o : Obj} (h : Below w.heap.size w X) : Below w.heap.size w (X.alloc o) := h.alloc h.size o
theorem bl_dr {w X : World} (h : Below w.heap.size w X) : Below w.heap.size w X.drew := below_drewN h 1
theorem bl_st {w X Y : World} (hb : Below X.heap.size X Y) (h : Below w.heap.size w X) : Below w.heap.size w Y := h.trans (hb.mono h.size)
/-- where v lies -/
def liesIn (lo hi : Nat) (v : Value) : Prop := ∀ g, v.ownBlock = some g → lo ≤ g ∧ g < hi
abbrev noS : ByteArray := ⟨#[]⟩
/-- nothing that was there but block q has turned -/
structure Lone (q : Nat) (w w' : World) : Prop where
  os : w'.os = w.os
  tape : w'.tape = w.tape
  output : w'.output = w.output
  size : w.heap.size ≤ w'.heap.size
  block : ∀ k, k < w.heap.size → k ≠ q → w'.heap[k]? = w.heap[k]?
theorem Lone.refl (q : Nat) (w : World) : Lone q w w := ⟨rfl, rfl, rfl, Nat.le_refl _, fun _ _ _ => rfl⟩
theorem Lone.trans {q : Nat} {a b c : World} (h : Lone q a b) (g : Lone q b c) : Lone q a c :=
  ⟨g.os.trans h.os, g.tape.trans h.tape, g.output.trans h.output, Nat.le_trans h.size g.size, fun k hk hq => (g.block k (Nat.lt_of_lt_of_le hk h.size) hq).trans (h.block k hk hq)⟩
theorem Lone.of_below {q : Nat} {a b : World} (h : Below a.heap.size a b) : Lone q a b := ⟨h.os, h.tape, h.output, h.size, fun k hk _ => h.block k hk⟩
theorem Lone.below {q B : Nat} {x a b : World} (h : Lone q a b) (hx : Below B x a) (hB : B ≤ q) (hs : B ≤ a.heap.size) : Below B x b :=
  ⟨h.os.trans hx.os, h.tape.trans hx.tape, h.output.trans hx.output, Nat.le_trans hx.size h.size, fun k hk => (h.block k (by omega) (by omega)).trans (hx.block k hk)⟩
theorem lone_setCell (q i : Nat) (X : World) (v : Value) : Lone q X (X.setCell ⟨q, i, none⟩ v) :=
  ⟨rfl, rfl, rfl, by simp [World.setCell], fun k _ hq => by simp only [World.setCell]; rw [Array.getElem?_modify, if_neg (by omega)]⟩
theorem bl_set {B q i : Nat} {x X : World} {v : Value} (h : Below B x X) (hq : B ≤ q) : Below B x (X.setCell ⟨q, i, none⟩ v) :=
  ⟨h.os, h.tape, h.output, by simpa [World.setCell] using h.size, fun k hk => by
    rw [← h.block k hk]; simp only [World.setCell]; rw [Array.getElem?_modify, if_neg (by omega)]⟩
/-- the first j of one list, then the rest of another -/
def mixG {α : Type} (r xs : List α) (j : Nat) : List α := r.take j ++ xs.drop j
theorem mixG_len {α : Type} (r xs : List α) (j : Nat) (h : r.length = xs.length) : (mixG r xs j).length = xs.length := by simp [mixG]; omega
theorem mixG_zero {α : Type} (r xs : List α) : mixG r xs 0 = xs := by simp [mixG]
theorem mixG_all {α : Type} (r xs : List α) (h : r.length = xs.length) : mixG r xs xs.length = r := by simp [mixG, ← h]
theorem mixG_succ {α : Type} (d : α) (r xs : List α) (j : Nat) (h : r.length = xs.length) (hj : j < xs.length) : (mixG r xs j).set j (r.getD j d) = mixG r xs (j + 1) := by
  apply List.ext_getElem?
  intro i
  unfold mixG
  rcases Nat.lt_trichotomy i j with hi | hi | hi
  · rw [List.getElem?_set_ne (by omega), List.getElem?_append_left (by simp; omega), List.getElem?_append_left (by simp; omega), List.getElem?_take_of_lt hi, List.getElem?_take_of_lt (by omega)]
  · subst hi
    rw [List.getElem?_set_self (by simp; omega), List.getElem?_append_left (by simp; omega), List.getElem?_take_of_lt (by omega), List.getD_eq_getElem?_getD, List.getElem?_eq_getElem (by omega)]
    rfl
  · rw [List.getElem?_set_ne (by omega), List.getElem?_append_right (by simp; omega), List.getElem?_append_right (by simp; omega), List.getElem?_drop, List.getElem?_drop]
    congr 1
    simp; omega
/-- a number's digits ahead of a text -/
def decF : Nat → Nat → ByteArray → ByteArray
  | 0, _, s => s
  | f + 1, k, s => if k = 0 then s else decF f (k / 10) (strOfNums [(((48 + k % 10 : Nat) : Int))] ++ s)
def mkT (k : Nat) : ByteArray := if k = 0 then ⟨#[109, 48]⟩ else ⟨#[109]⟩ ++ decF k k noS
theorem mt38 (k : Nat) (hk : k ≤ 4194304) (w : World) : Calls Try.prog 70 #[.int .i64 (k : Int)] w fun e w' => e = .returned (.string (mkT k)) ∧ Below w.heap.size w w' := by
  by_cases h0 : k = 0
  · subst h0
    go_enter Try.func70, Try.ntmps70
    go_wp2
    go_ret
    exact ⟨rfl, Below.refl _ _⟩
  · have hT : mkT k = ⟨#[109]⟩ ++ decF k k noS := by unfold mkT; rw [if_neg h0]
    have q : (0 : Int) < (k : Int) := by omega
    rw [hT]
    generalize hD : decF k k noS = D
    clear hT
    go_enter Try.func70, Try.ntmps70
    go_wp2
    go_loopw [0, 3] (fun kk ss wr => ∃ (f m : Nat) (s : ByteArray), kk = .int .i64 (m : Int) ∧ ss = .string s ∧ m ≤ f ∧ s.size + m ≤ 4194304 ∧ decF f m s = D ∧ Below w.heap.size w wr) (fun kk _ _ => (intOf kk).toNat)
    case atStart => exact ⟨k, k, noS, rfl, rfl, Nat.le_refl _, by show 0 + k ≤ _; omega, hD, Below.refl _ _⟩
    case round =>
      obtain ⟨f, m, s, rfl, rfl, hm, hm4, hd, hb⟩ := hrel
      by_cases hm0 : m = 0
      · have : s = D := by
          rw [← hd, hm0]
          cases f <;> rfl
        subst this
        have e : (m : Int) = 0 := by omega
        rw [e]
        have HB := hide hb
        have z1 : 1 + s.size ≤ 9223372036854775807 := by omega
        clear hb hd hm hm4 hm0 e
        go_wp2
        go_ret
        exact ⟨rfl, unhide HB⟩
      · obtain ⟨f', rfl⟩ : ∃ f', f = f' + 1 := ⟨f - 1, by omega⟩
        rw [decF, if_neg hm0] at hd
        have q1 : (0 : Int) < (m : Int) := by omega
        have q2 : (m : Int) ≤ 4194304 := by omega
        obtain ⟨x, hx⟩ : ∃ x : Int, (48 : Int) + (m : Int) % 10 = x := ⟨_, rfl⟩
        have x0 : 0 ≤ x := by omega
        have x1 : x < 256 := by omega
        have ex : ((48 + m % 10 : Nat) : Int) = x := by omega
        rw [ex] at hd
        have t1 : Int.tmod (m : Int) 10 = (m : Int) % 10 := by rw [Int.tmod_eq_emod_of_nonneg (by omega)]
        have t2 : Int.tdiv (m : Int) 10 = ((m / 10 : Nat) : Int) := by rw [Int.tdiv_eq_ediv_of_nonneg (by omega)]; omega
        have bn := bytes_new wr x ⟨x0, x1⟩
        have cvx : (convert 22 9 (.slice (some ⟨wr.heap.size, 0, none⟩) 1 1)).run Try.prog (wr.alloc (.cells #[.int .u8 x] 5)) = .ok (.string (strOfNums [x])) (wr.alloc (.cells #[.int .u8 x] 5)) := by
          obtain ⟨A, c, e, _, hh⟩ := bn
          obtain ⟨b, off, hA, hl, hcell⟩ := hh (by simp)
          simp only [Value.slice.injEq] at e
          obtain ⟨e1, _, _⟩ := e
          rw [hA] at e1
          simp only [Option.some.injEq, Addr.mk.injEq, and_true] at e1
          obtain ⟨rfl, rfl⟩ := e1
          exact rowAt.conv ⟨hl, hcell⟩ 1 1 rfl
        have HD := hide hd
        have HB := hide (bl_al (o := .cells #[.int .u8 x] 5) hb)
        have HM := hide hm
        have HM4 := hide hm4
        clear bn hd hb hm hm4 ex
        have c1 : (strOfNums [x]).size = 1 := strOfNums_size [x]
        generalize strOfNums [x] = cx at *
        have z1 : cx.size + s.size ≤ 9223372036854775807 := by have := unhide HM4; omega
        have HS : Hid ((cx ++ s).size + m / 10 ≤ 4194304) := hide (by have := unhide HM4; rw [ByteArray.size_append, c1]; omega)
        have HM0 := hide hm0
        clear hm0 c1
        go_wp2
        go_roundw
        case rel => exact ⟨f', m / 10, _, by first | rfl | go_num, rfl, by have := unhide HM; have := unhide HM0; omega, unhide HS, unhide HD, unhide HB⟩
        case measure => have := unhide HM0; simp [intOf]; omega
/-- nothing that was there but v's own block has turned -/
structure TouchS (v : Value) (w w' : World) : Prop where
  os : w'.os = w.os
  tape : w'.tape = w.tape
  output : w'.output = w.output
  size : w.heap.size ≤ w'.heap.size
  block : ∀ k, k < w.heap.size → v.ownBlock ≠ some k → w'.heap[k]? = w.heap[k]?
theorem belowS {B lo hi : Nat} {a w w' : World} {v : Value} (h : Below B a w) (ht : TouchS v w w') (hl : liesIn lo hi v) (hB : B ≤ lo) (hw : B ≤ w.heap.size) : Below B a w' :=
  ⟨ht.os.trans h.os, ht.tape.trans h.tape, ht.output.trans h.output, Nat.le_trans h.size ht.size, fun k hk => by
    rw [ht.block k (by omega) (fun e => by have := hl k e; omega)]; exact h.block k hk⟩
theorem row_cell {X : World} {t i : Nat} {cs : Array Value} {ty : TypeId} (h : X.heap[t]? = some (.cells cs ty (0, 0))) : X.cell? ⟨t, i, none⟩ = cs[i]? := by
  rw [Go.cell_of_row _ _ _ _ _ _ h]
theorem row_free {X : World} {t i : Nat} {cs : Array Value} {ty : TypeId} (h : X.heap[t]? = some (.cells cs ty (0, 0))) : X.frozen? ⟨t, i, none⟩ = false := by
  simp [World.frozen?, h]
theorem row_set {X : World} {t i : Nat} {cs : Array Value} {v : Value} {ty : TypeId} (h : X.heap[t]? = some (.cells cs ty (0, 0))) : (X.setCell ⟨t, i, none⟩ v).heap[t]? = some (.cells (cs.setIfInBounds i v) ty (0, 0)) := by
  simp [World.setCell, Array.getElem?_modify, h]
theorem row_set_other {X : World} {t t' i : Nat} {o : Obj} {v : Value} (h : X.heap[t]? = some o) (hne : t' ≠ t) : (X.setCell ⟨t', i, none⟩ v).heap[t]? = some o := by
  rw [← h]; simp only [World.setCell]; rw [Array.getElem?_modify, if_neg (by omega)]
theorem size_set (X : World) (q i : Nat) (v : Value) : (X.setCell ⟨q, i, none⟩ v).heap.size = X.heap.size := by simp [World.setCell]
theorem TouchS.of_below {v : Value} {a b : World} (h : Below a.heap.size a b) : TouchS v a b := ⟨h.os, h.tape, h.output, h.size, fun k hk _ => h.block k hk⟩
theorem TouchS.trans {v : Value} {a b c : World} (h : TouchS v a b) (g : TouchS v b c) : TouchS v a c :=
  ⟨g.os.trans h.os, g.tape.trans h.tape, g.output.trans h.output, Nat.le_trans h.size g.size, fun k hk hq => (g.block k (Nat.lt_of_lt_of_le hk h.size) hq).trans (h.block k hk hq)⟩
theorem step_skipW {P : Program} {ops : Array Oper} {o : Oper} {a : Act} {w : World} {K : Act → World → Prop} {Q : Exit → Act → World → Prop} {E : Prop} (hw : Region.wanted o (yielded ops a.tmps) = true) (w' : World) (hrun : (execOp a.eval o).run P w = .ok .skip w')
    (h : K (a.put o.dst undef) w') : if Region.wanted o (yielded ops a.tmps) = true then Oper.wp P o a w K Q else E := by
  rw [if_pos hw]
  unfold Oper.wp
  rw [hrun, Oper.upon_skip]
  exact h
theorem step_enterW {P : Program} {ops : Array Oper} {o : Oper} {a : Act} {w : World} {K : Act → World → Prop} {Q : Exit → Act → World → Prop} {E : Prop} (hw : Region.wanted o (yielded ops a.tmps) = true) (f : FuncId) (args : Array Value) (hrun : (execOp a.eval o).run P w = .ok (.enter f args) w)
    (hc : Calls P f args w fun e w' => ∃ v, e = .returned v ∧ K (a.put o.dst v) w') : if Region.wanted o (yielded ops a.tmps) = true then Oper.wp P o a w K Q else E := by
  rw [if_pos hw]
  unfold Oper.wp
  rw [hrun, Oper.upon_enter]
  refine hc.mono fun e w'' hh => ?_
  obtain ⟨v, rfl, hk⟩ := hh
  exact hk
theorem step_valueW {P : Program} {ops : Array Oper} {o : Oper} {a : Act} {w : World} {K : Act → World → Prop} {Q : Exit → Act → World → Prop} {E : Prop} (hw : Region.wanted o (yielded ops a.tmps) = true) (v : Value) (w' : World) (hrun : (execOp a.eval o).run P w = .ok (.value v) w')
    (h : K (a.put o.dst v) w') : if Region.wanted o (yielded ops a.tmps) = true then Oper.wp P o a w K Q else E := by
  rw [if_pos hw]
  unfold Oper.wp
  rw [hrun, Oper.upon_value]
  exact h
theorem wpAnyH_one {P : Program} {md : Region.Mode} {ops : Array Oper} {Q : Exit → Act → World → Prop} {S : World → Prop} {fuel : Nat} {listed : Array Bool} {a : Act} {w : World} {i : Nat} (hr : Region.ready md ops listed = [i])
    (h : wpOp P ops Q i (fun a' w' => S w' ∧ wpAnyH P md ops Q S fuel (listed.setIfInBounds i true) a' w') a w) : wpAnyH P md ops Q S (fuel + 1) listed a w :=
  wpAnyH_all hr (by simp) fun k hk => by
    obtain rfl : k = i := by simpa using hk
    exact h
theorem wpAnyH_two {P : Program} {md : Region.Mode} {ops : Array Oper} {Q : Exit → Act → World → Prop} {S : World → Prop} {fuel : Nat} {listed : Array Bool} {a : Act} {w : World} {i j : Nat} (hr : Region.ready md ops listed = [i, j])
    (h1 : wpOp P ops Q i (fun a' w' => S w' ∧ wpAnyH P md ops Q S fuel (listed.setIfInBounds i true) a' w') a w)
    (h2 : wpOp P ops Q j (fun a' w' => S w' ∧ wpAnyH P md ops Q S fuel (listed.setIfInBounds j true) a' w') a w) : wpAnyH P md ops Q S (fuel + 1) listed a w :=
  wpAnyH_all hr (by simp) fun k hk => by
    rcases List.mem_cons.1 hk with rfl | hk
    · exact h1
    · obtain rfl : k = j := by simpa using hk
      exact h2
theorem ret_bool {a b : Bool} (h : a = b) : Ending.returned (.bool a) = .returned (.bool b) := by rw [h]
theorem in19 (n lo hi : Int) (w : World) : Calls Try.prog 56 #[.int .i64 n, .int .i64 lo, .int .i64 hi] w fun e w' => e = .returned (.bool (decide (lo ≤ n) && decide (n ≤ hi))) ∧ w' = w := by
  go_enter Try.func56, Try.ntmps56
  go_wp2
  all_goals
    go_ret
    exact ⟨ret_bool (by rw [Bool.eq_iff_iff]; simp; try omega), rfl⟩
end Go.Proofs.Ythonnlifgdnacaa
