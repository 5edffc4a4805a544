/- Lists of ints and of bools beside lists of texts: what they read as, which of them a call made; the laws' helpers over them. -/
import Derived.Test.YtggiijlgdpkkfaaDoorOr
import Derived.Test.YtggiijlgdpkkfaaDoorPm
import Derived.ProofKit
import Derived.OpenShut
import Derived.Deep.AppendLies
import Derived.OwnWalk
namespace Go.Proofs.YtggiijlgdpkkfaaDoor
open Go.RowKit
open Go.ChangeShapes Go.WideShapes Go.ChangeAt
set_option maxHeartbeats 4000000
set_option maxRecDepth 20000
theorem bl_al {w X : World} {o : Obj} (h : Below w.heap.size w X) : Below w.heap.size w (X.alloc o) := h.alloc h.size o
theorem bl_dr {w X : World} (h : Below w.heap.size w X) : Below w.heap.size w X.drew := below_drewN h 1
theorem bl_st {w X Y : World} (hb : Below X.heap.size X Y) (h : Below w.heap.size w X) : Below w.heap.size w Y := h.trans (hb.mono h.size)
theorem row_cell {X : World} {t i : Nat} {cs : Array Value} {ty : TypeId} (h : X.heap[t]? = some (.cells cs ty (0, 0))) : X.cell? ⟨t, i, none⟩ = cs[i]? := by
  rw [Go.cell_of_row _ _ _ _ _ _ h]
theorem row_free {X : World} {t i : Nat} {cs : Array Value} {ty : TypeId} (h : X.heap[t]? = some (.cells cs ty (0, 0))) : X.frozen? ⟨t, i, none⟩ = false := by
  simp [World.frozen?, h]
theorem row_set {X : World} {t i : Nat} {cs : Array Value} {v : Value} {ty : TypeId} (h : X.heap[t]? = some (.cells cs ty (0, 0))) : (X.setCell ⟨t, i, none⟩ v).heap[t]? = some (.cells (cs.setIfInBounds i v) ty (0, 0)) := by
  simp [World.setCell, Array.getElem?_modify, h]
theorem row_set_other {X : World} {t t' i : Nat} {o : Obj} {v : Value} (h : X.heap[t]? = some o) (hne : t' ≠ t) : (X.setCell ⟨t', i, none⟩ v).heap[t]? = some o := by
  rw [← h]; simp only [World.setCell]; rw [Array.getElem?_modify, if_neg (by omega)]
theorem size_set (X : World) (q i : Nat) (v : Value) : (X.setCell ⟨q, i, none⟩ v).heap.size = X.heap.size := by simp [World.setCell]
theorem TouchS.of_below {v : Value} {a b : World} (h : Below a.heap.size a b) : TouchS v a b := ⟨h.os, h.tape, h.output, h.size, fun k hk _ => h.block k hk⟩
theorem TouchS.trans {v : Value} {a b c : World} (h : TouchS v a b) (g : TouchS v b c) : TouchS v a c :=
  ⟨g.os.trans h.os, g.tape.trans h.tape, g.output.trans h.output, Nat.le_trans h.size g.size, fun k hk hq => (g.block k (Nat.lt_of_lt_of_le hk h.size) hq).trans (h.block k hk hq)⟩
theorem step_skipW {P : Program} {ops : Array Oper} {o : Oper} {a : Act} {w : World} {K : Act → World → Prop} {Q : Exit → Act → World → Prop} {E : Prop} (hw : Region.wanted o (yielded ops a.tmps) = true) (w' : World) (hrun : (execOp a.eval o).run P w = .ok .skip w')
    (h : K (a.put o.dst undef) w') : if Region.wanted o (yielded ops a.tmps) = true then Oper.wp P o a w K Q else E := by
  rw [if_pos hw]
  unfold Oper.wp
  rw [hrun, Oper.upon_skip]
  exact h
theorem step_enterW {P : Program} {ops : Array Oper} {o : Oper} {a : Act} {w : World} {K : Act → World → Prop} {Q : Exit → Act → World → Prop} {E : Prop} (hw : Region.wanted o (yielded ops a.tmps) = true) (f : FuncId) (args : Array Value) (hrun : (execOp a.eval o).run P w = .ok (.enter f args) w)
    (hc : Calls P f args w fun e w' => ∃ v, e = .returned v ∧ K (a.put o.dst v) w') : if Region.wanted o (yielded ops a.tmps) = true then Oper.wp P o a w K Q else E := by
  rw [if_pos hw]
  unfold Oper.wp
  rw [hrun, Oper.upon_enter]
  refine hc.mono fun e w'' hh => ?_
  obtain ⟨v, rfl, hk⟩ := hh
  exact hk
theorem step_valueW {P : Program} {ops : Array Oper} {o : Oper} {a : Act} {w : World} {K : Act → World → Prop} {Q : Exit → Act → World → Prop} {E : Prop} (hw : Region.wanted o (yielded ops a.tmps) = true) (v : Value) (w' : World) (hrun : (execOp a.eval o).run P w = .ok (.value v) w')
    (h : K (a.put o.dst v) w') : if Region.wanted o (yielded ops a.tmps) = true then Oper.wp P o a w K Q else E := by
  rw [if_pos hw]
  unfold Oper.wp
  rw [hrun, Oper.upon_value]
  exact h
theorem wpAnyH_one {P : Program} {md : Region.Mode} {ops : Array Oper} {Q : Exit → Act → World → Prop} {S : World → Prop} {fuel : Nat} {listed : Array Bool} {a : Act} {w : World} {i : Nat} (hr : Region.ready md ops listed = [i])
    (h : wpOp P ops Q i (fun a' w' => S w' ∧ wpAnyH P md ops Q S fuel (listed.setIfInBounds i true) a' w') a w) : wpAnyH P md ops Q S (fuel + 1) listed a w :=
  wpAnyH_all hr (by simp) fun k hk => by
    obtain rfl : k = i := by simpa using hk
    exact h
theorem wpAnyH_two {P : Program} {md : Region.Mode} {ops : Array Oper} {Q : Exit → Act → World → Prop} {S : World → Prop} {fuel : Nat} {listed : Array Bool} {a : Act} {w : World} {i j : Nat} (hr : Region.ready md ops listed = [i, j])
    (h1 : wpOp P ops Q i (fun a' w' => S w' ∧ wpAnyH P md ops Q S fuel (listed.setIfInBounds i true) a' w') a w)
    (h2 : wpOp P ops Q j (fun a' w' => S w' ∧ wpAnyH P md ops Q S fuel (listed.setIfInBounds j true) a' w') a w) : wpAnyH P md ops Q S (fuel + 1) listed a w :=
  wpAnyH_all hr (by simp) fun k hk => by
    rcases List.mem_cons.1 hk with rfl | hk
    · exact h1
    · obtain rfl : k = j := by simpa using hk
      exact h2
theorem in19 (n lo hi : Int) (w : World) : Calls Tryd.prog 16 #[.int .i64 n, .int .i64 lo, .int .i64 hi] w fun e w' => e = .returned (.bool (decide (lo ≤ n) && decide (n ≤ hi))) ∧ w' = w := by
  go_enter Tryd.func16, Tryd.ntmps16
  go_wp2
  all_goals
    go_ret
    exact ⟨ret_bool (by rw [Bool.eq_iff_iff]; simp; try omega), rfl⟩
/-- a slice that reads as these ints -/
def intsV (w : World) (v : Value) (xs : List Int) : Prop :=
  ∃ A cap, v = .slice A xs.length cap ∧ (0 < xs.length → ∃ b off, A = some ⟨b, off, none⟩ ∧ b < w.heap.size ∧ ∀ i, i < xs.length → w.cell? ⟨b, off + i, none⟩ = some (.int .i64 (xs.getD i 0)))
/-- ints in a block of their own, between lo and hi -/
def ownI (lo hi : Nat) (w : World) (v : Value) (xs : List Int) : Prop :=
  (v = .slice none 0 0 ∧ xs = []) ∨ ∃ g cap rest, v = .slice (some ⟨g, 0, none⟩) xs.length cap ∧ lo ≤ g ∧ g < hi ∧ w.heap[g]? = some (rowObj 3 .i64 xs rest) ∧ xs.length ≤ cap
theorem cell_rowO {w : World} {g : Nat} {e : TypeId} {k : IntKind} {xs : List Int} {rest : List Value} (h : w.heap[g]? = some (rowObj e k xs rest)) (i : Nat) (hi : i < xs.length) : w.cell? ⟨g, i, none⟩ = some (.int k (xs.getD i 0)) := by
  rw [← row_same w g e k xs rest h]
  exact cell_row _ _ _ _ _ _ _ hi (Array.getElem?_eq_some_iff.1 h).1
theorem free_rowO {w : World} {g : Nat} {e : TypeId} {k : IntKind} {xs : List Int} {rest : List Value} (h : w.heap[g]? = some (rowObj e k xs rest)) (i : Nat) : w.frozen? ⟨g, i, none⟩ = false := by
  rw [← row_same w g e k xs rest h]
  exact frozen_row _ _ _ _ _ _ _ (Array.getElem?_eq_some_iff.1 h).1
theorem set_rowO {w : World} {g : Nat} {e : TypeId} {k : IntKind} {xs : List Int} {rest : List Value} (h : w.heap[g]? = some (rowObj e k xs rest)) (i : Nat) (x : Int) (hi : i < xs.length) : (w.setCell ⟨g, i, none⟩ (.int k x)).heap[g]? = some (rowObj e k (xs.set i x) rest) := by
  have hb := (Array.getElem?_eq_some_iff.1 h).1
  have := set_row w g e k xs rest i x hi hb
  rw [row_same w g e k xs rest h] at this
  rw [this]
  exact get_row _ _ _ _ _ _ hb
theorem ownI.ints {lo hi : Nat} {w : World} {v : Value} {xs : List Int} (h : ownI lo hi w v xs) : intsV w v xs := by
  obtain ⟨rfl, rfl⟩ | ⟨g, cap, rest, rfl, hg, hh, hc, hcp⟩ := h
  · exact ⟨none, 0, rfl, fun h => by simp at h⟩
  · exact ⟨_, _, rfl, fun _ => ⟨g, 0, rfl, (Array.getElem?_eq_some_iff.1 hc).1, fun i hi => by rw [Nat.zero_add]; exact cell_rowO hc i hi⟩⟩
theorem intsV.below {w w' : World} {v : Value} {xs : List Int} (h : intsV w v xs) (hb : Below w.heap.size w w') : intsV w' v xs := by
  obtain ⟨A, cap, rfl, hc⟩ := h
  refine ⟨A, cap, rfl, fun hn => ?_⟩
  obtain ⟨b, off, rfl, hl, hc⟩ := hc hn
  exact ⟨b, off, rfl, Nat.lt_of_lt_of_le hl hb.size, fun i hi => (cell_below hb hl).trans (hc i hi)⟩
theorem ownI.below {lo hi : Nat} {w w' : World} {v : Value} {xs : List Int} (h : ownI lo hi w v xs) (hb : Below w.heap.size w w') : ownI lo hi w' v xs := by
  obtain h | ⟨g, cap, rest, rfl, hg, hh, hc, hcp⟩ := h
  · exact .inl h
  · exact .inr ⟨g, cap, rest, rfl, hg, hh, (hb.block g (Array.getElem?_eq_some_iff.1 hc).1).trans hc, hcp⟩
theorem ownI.wide {lo hi lo' hi' : Nat} {w : World} {v : Value} {xs : List Int} (h : ownI lo hi w v xs) (h1 : lo' ≤ lo) (h2 : hi ≤ hi') : ownI lo' hi' w v xs := by
  obtain h | ⟨g, cap, rest, rfl, hg, hh, hc, hcp⟩ := h
  · exact .inl h
  · exact .inr ⟨g, cap, rest, rfl, by omega, by omega, hc, hcp⟩
theorem ownI.lies {lo hi : Nat} {w : World} {v : Value} {xs : List Int} (h : ownI lo hi w v xs) : liesIn lo hi v := by
  intro g hg
  obtain ⟨rfl, _⟩ | ⟨g', cap, rest, rfl, h1, h2, _⟩ := h
  · cases hg
  · cases hg; exact ⟨h1, h2⟩
theorem info3 : (Tryd.prog.info? 3).map (fun i => (i.zero, i.size, i.bytes)) = some (some (.int .i64 0), 1, 8) := by kernel_rfl
theorem make_ints (n : Nat) (hn : n ≤ 2097152) (w : World) : (Instr.makeSlice 23 (.int .i64 (n : Int)) (.int .i64 (n : Int))).run Tryd.prog w = .ok (.slice (some ⟨w.heap.size, 0, none⟩) n n) (w.alloc (rowObj 3 .i64 (List.replicate n 0) [])) := by
  obtain ⟨k0, hk0, kz0, kz1, kz2⟩ := info_parts info3
  have h := run_makeSlice w (P := Tryd.prog) 23 3 k0 (.int .i64 0) Tryd.underlying23 hk0 kz0 .i64 .i64 (n : Int) (n : Int) (by omega) (Int.le_refl _) (by rw [kz1]; omega) (by rw [kz2]; omega) (by omega)
  rw [kz1, Int.toNat_natCast, Nat.mul_one] at h
  rw [h, rowObj]
  congr 3
  apply Array.ext_getElem?
  intro i
  by_cases hi : i < n
  · simp [madeCells, Value.cells, hi, Nat.mod_one]
  · simp [madeCells, Value.cells, hi]
theorem to6 (v : Value) (xs : List Int) (w : World) (hv : intsV w v xs) (hn : xs.length ≤ 2097152) :
    Calls Tryd.prog 19 #[v] w fun e w' => ∃ r, e = .returned r ∧ ownI w.heap.size w'.heap.size w' r xs ∧ Below w.heap.size w w' := by
  obtain ⟨A, cap, rfl, hc⟩ := hv
  have HC := hide hc
  obtain ⟨n, hnx⟩ : ∃ n, n = xs.length := ⟨_, rfl⟩
  rw [← hnx] at hn HC ⊢
  have HN := hide hnx
  have mk := make_ints n (by omega)
  clear hc hnx
  go_enter Tryd.func19, Tryd.ntmps19
  go_wp2
  clear mk
  go_loopw [4] (fun i wr => ∃ j : Nat, j ≤ n ∧ i = .int .i64 j ∧ wr.heap[w.heap.size]? = some (rowObj 3 .i64 (mixL xs (List.replicate n 0) j) []) ∧ Below w.heap.size w wr) (fun i _ => n - (intOf i).toNat)
  case atStart => exact ⟨0, by omega, rfl, by rw [mixL_zero, heap_at _ _ _ rfl], (Below.refl _ _).alloc (Nat.le_refl _) _⟩
  case round =>
    obtain ⟨j, hj, rfl, ho, hbl⟩ := hrel
    by_cases hlt : j < n
    · obtain ⟨b, off, hA, hbb, hcell⟩ := unhide HC (by omega)
      subst hA
      have q1 : (j : Int) < (n : Int) := by omega
      have q0 : (0 : Int) ≤ (j : Int) := by omega
      have hl : (mixL xs (List.replicate n 0) j).length = n := by rw [mixL_len _ _ _ (by simp [unhide HN])]; simp
      have p0 : wr.cell? ⟨b, off + j, none⟩ = some (.int .i64 (xs.getD j 0)) := (cell_below hbl hbb).trans (hcell j hlt)
      have p1 := cell_rowO ho j (by omega)
      have p2 := free_rowO ho j
      have p3 := set_rowO ho j (xs.getD j 0) (by omega)
      rw [mixL_succ _ _ _ (by simp [unhide HN]) (by simpa using hlt)] at p3
      have fin : Hid ((wr.setCell ⟨w.heap.size, j, none⟩ (.int .i64 (xs.getD j 0))).heap[w.heap.size]? = some (rowObj 3 .i64 (mixL xs (List.replicate n 0) (j + 1)) []) ∧ Below w.heap.size w (wr.setCell ⟨w.heap.size, j, none⟩ (.int .i64 (xs.getD j 0)))) := ⟨p3, bl_set hbl (Nat.le_refl _)⟩
      have HJ := hide hlt
      clear ho hbl hcell hbb hl hlt hj p3
      generalize (mixL xs (List.replicate n 0) j).getD j 0 = m0 at *
      generalize xs.getD j 0 = xj at *
      go_wp2
      go_roundw
      case rel => exact ⟨j + 1, unhide HJ, by go_num, (unhide fin).1, (unhide fin).2⟩
      case measure => have := unhide HJ; simp [intOf]; omega
    · obtain rfl : j = n := by omega
      have hm := mixL_all xs (List.replicate j 0) (by simp [unhide HN])
      rw [List.length_replicate] at hm
      rw [hm] at ho
      have HO := hide ho
      have hbel := hide hbl
      clear ho hbl hm
      go_wp2
      go_ret
      refine ⟨_, rfl, .inr ⟨w.heap.size, j, [], ?_, Nat.le_refl _, (Array.getElem?_eq_some_iff.1 (unhide HO)).1, unhide HO, by rw [← unhide HN]; exact Nat.le_refl _⟩, unhide hbel⟩
      rw [← unhide HN]
      rfl
theorem eq8 (a b : Value) (xs : List Int) (w : World) (ha : intsV w a xs) (hb : intsV w b xs) (hn : xs.length ≤ 2097152) :
    Calls Tryd.prog 22 #[a, b] w fun e w' => e = .returned (.bool true) ∧ ∃ k, w' = w.drewN k := by
  obtain ⟨A, ca, rfl, hc⟩ := ha
  obtain ⟨A2, cb, rfl, hd⟩ := hb
  have HC := hide hc
  have HD := hide hd
  obtain ⟨n, hnx⟩ : ∃ n, n = xs.length := ⟨_, rfl⟩
  rw [← hnx] at hn HC HD ⊢
  clear hc hd hnx
  go_enter Tryd.func22, Tryd.ntmps22
  go_wp2
  go_loopw [5] (fun i wr => ∃ j k : Nat, j ≤ n ∧ i = .int .i64 j ∧ wr = w.drewN k) (fun i _ => n - (intOf i).toNat)
  case atStart => exact ⟨0, 0, by omega, rfl, rfl⟩
  case round =>
    obtain ⟨j, k, hj, rfl, rfl⟩ := hrel
    by_cases hlt : j < n
    · obtain ⟨b1, o1, hA, _, hc1⟩ := unhide HC (by omega)
      obtain ⟨b2, o2, hA2, _, hc2⟩ := unhide HD (by omega)
      subst hA hA2
      have q1 : (j : Int) < (n : Int) := by omega
      have q0 : (0 : Int) ≤ (j : Int) := by omega
      have p1 : ∀ k, (w.drewN k).cell? ⟨b1, o1 + j, none⟩ = some (.int .i64 (xs.getD j 0)) := fun k => hc1 j hlt
      have p2 : ∀ k, (w.drewN k).cell? ⟨b2, o2 + j, none⟩ = some (.int .i64 (xs.getD j 0)) := fun k => hc2 j hlt
      have HJ := hide hlt
      clear hc1 hc2 hlt hj
      generalize xs.getD j 0 = xj at *
      go_wp2
      go_quiet (fail)
      rw [show (w.drewN k).drewN nq = w.drewN (k + nq) by simp [World.drewN, Nat.add_assoc]]
      go_wp2
      go_roundw
      case rel => exact ⟨j + 1, _, unhide HJ, by go_num, rfl⟩
      case measure => have := unhide HJ; simp [intOf]; omega
    · obtain rfl : j = n := by omega
      clear hlt
      go_wp2
      go_ret
      exact ⟨rfl, k, rfl⟩
theorem cells3 : Tryd.prog.cellsOf 3 = 1 := by kernel_rfl
/-- an argument that is a list of ints, opened -/
theorem open_list {H : Type} {enc : TypeId × Value → H} {W : World} {base : Nat} {rc : Reach} {b0 : Nat} {sp : Nat → Bool} {held : Bool} {v : Value} {d : DataW H} {ps : List MemPlace}
    (hval : Value.okWide Tryd.prog W rc b0 23 v) (h : DataW.Trod enc Tryd.prog W base sp held 23 v d ps) : ∃ xs : List Int, intsV W v xs ∧ xs.length ≤ maxLen ∧ ∀ x ∈ xs, -9223372036854775808 ≤ x ∧ x ≤ 9223372036854775807 := by
  obtain ⟨A, n, c, rfl⟩ := okWide_slice Tryd.underlying23 hval
  obtain ⟨fuel, hf⟩ := h
  rcases open_ints Tryd.underlying23 Tryd.underlying3 cells3 hf with ⟨hcs, hx⟩ | ⟨a, len', cap', zs, hcs, _, hl, hm, hz, hx, hcell, hwz⟩
  · simp [Value.cells] at hcs
    obtain ⟨rfl, rfl, rfl⟩ := hcs
    exact ⟨[], ⟨none, 0, rfl, fun h => by simp at h⟩, Nat.zero_le _, fun x hx => by cases hx⟩
  · simp [Value.cells] at hcs
    obtain ⟨rfl, rfl, rfl⟩ := hcs
    have hle : n ≤ zs.length := by rw [hz]; split <;> omega
    have hlen : (zs.take n).length = n := by simp; omega
    refine ⟨zs.take n, ⟨some a, c, by rw [hlen], fun h0 => ?_⟩, by rw [hlen]; omega, fun x hx => ?_⟩
    · rw [hlen] at h0
      obtain ⟨b, off, rfl, hc⟩ := ints_at hcell (by omega)
      refine ⟨b, off, rfl, ?_, fun i hi => ?_⟩
      · have h1 := hc 0 (by omega)
        unfold World.cell? at h1
        rw [show (⟨b, off + 0, none⟩ : Addr).block = b from rfl] at h1
        rcases Nat.lt_or_ge b W.heap.size with hl | hl
        · exact hl
        · rw [Array.getElem?_eq_none hl] at h1; cases h1
      · rw [hlen] at hi
        rw [hc i (by omega), List.getD_eq_getElem?_getD, List.getD_eq_getElem?_getD, List.getElem?_take_of_lt hi]
    · have := hwz x (List.mem_of_mem_take hx)
      simp [Lit.wf, IntKind.min, IntKind.max, IntKind.bits, IntKind.signed] at this
      omega
def marksI (k n : Nat) : List Int := (List.range n).map fun i : Nat => (k : Int) + (i : Int)
theorem marksI_len (k n : Nat) : (marksI k n).length = n := by simp [marksI]
theorem marksI_at (k n i : Nat) (h : i < n) : (marksI k n).getD i 0 = (k : Int) + (i : Int) := by
  rw [List.getD_eq_getElem?_getD, marksI, List.getElem?_map, List.getElem?_range h]; rfl
theorem ownI.touchS {lo hi : Nat} {w w' : World} {u v : Value} {xs : List Int} (h : ownI lo hi w u xs) (ht : TouchS v w w') (hd : ∀ g, u.ownBlock = some g → v.ownBlock ≠ some g) : ownI lo hi w' u xs := by
  obtain h | ⟨g, cap, rest, rfl, hg, hh, hc, hcp⟩ := h
  · exact .inl h
  · exact .inr ⟨g, cap, rest, rfl, hg, hh, (ht.block g (Array.getElem?_eq_some_iff.1 hc).1 (hd g rfl)).trans hc, hcp⟩
theorem mark21 (lo hi : Nat) (v : Value) (xs : List Int) (k : Nat) (w : World) (hv : ownI lo hi w v xs) (hn : xs.length ≤ 1048577) (hk : k ≤ 16777216) :
    Calls Tryd.prog 23 #[v, .int .i64 (k : Int)] w fun e w' => e = .returned (.int .i64 ((k : Int) + (xs.length : Int))) ∧ ownI lo hi w' v (marksI k xs.length) ∧ TouchS v w w' := by
  obtain ⟨rfl, rfl⟩ | ⟨g, cap, rest, rfl, hg, hh, hc, hcp⟩ := hv
  · go_enter Tryd.func23, Tryd.ntmps23
    go_wp2
    refine wp_loop_rounds 1 ?_
    rw [rounds_succ]; go_wp2
    go_ret
    exact ⟨by simp, .inl ⟨rfl, rfl⟩, ⟨rfl, rfl, rfl, Nat.le_refl _, fun _ _ _ => rfl⟩⟩
  · obtain ⟨n, hnx⟩ : ∃ n, n = xs.length := ⟨_, rfl⟩
    rw [← hnx] at hn hcp ⊢
    have HCP := hide hcp
    have HN := hide hnx
    have HG := hide hg
    have HH := hide hh
    have HC : Hid (w.heap[g]? = some (rowObj 3 .i64 (mixL (marksI k n) xs 0) rest)) := hide (by rw [mixL_zero]; exact hc)
    have k0 : (0 : Int) ≤ (k : Int) := by omega
    have k1 : (k : Int) ≤ 16777216 := by omega
    clear hc hnx hg hcp hh hk
    go_enter Tryd.func23, Tryd.ntmps23
    go_wp2
    go_loopw [1, 5] (fun m i wr => ∃ j : Nat, j ≤ n ∧ i = .int .i64 j ∧ m = .int .i64 ((k : Int) + (j : Int)) ∧ wr.heap[g]? = some (rowObj 3 .i64 (mixL (marksI k n) xs j) rest) ∧ Lone g w wr) (fun _ i _ => n - (intOf i).toNat)
    case atStart => exact ⟨0, by omega, rfl, by simp, unhide HC, Lone.refl _ _⟩
    case round =>
      obtain ⟨j, hj, rfl, rfl, ho, hlo⟩ := hrel
      by_cases hlt : j < n
      · have q1 : (j : Int) < (n : Int) := by omega
        have q0 : (0 : Int) ≤ (j : Int) := by omega
        have q2 : (n : Int) ≤ 1048577 := by omega
        have hl : (mixL (marksI k n) xs j).length = n := by rw [mixL_len _ _ _ (by rw [marksI_len]; exact unhide HN)]; exact (unhide HN).symm
        have HMS := hide (mixL_succ (marksI k n) xs j (by rw [marksI_len]; exact unhide HN) (by rw [← unhide HN]; exact hlt))
        rw [marksI_at k n j hlt] at HMS
        obtain ⟨z, hz⟩ : ∃ z : Int, (k : Int) + (j : Int) = z := ⟨_, rfl⟩
        rw [hz] at HMS ⊢
        have z0 : 0 ≤ z := by omega
        have z1 : z ≤ 17825793 := by omega
        have HZ := hide hz
        have p1 := cell_rowO ho j (by omega)
        have p2 := free_rowO ho j
        have p3 := set_rowO ho j z (by omega)
        have l1 := hlo.trans (lone_setCell g j wr (.int .i64 z))
        rw [unhide HMS] at p3
        have HJ := hide hlt
        have HO := hide p3
        have HL := hide l1
        clear hlt hj ho hlo HC p3 l1 hl HMS hz
        generalize (mixL (marksI k n) xs j).getD j 0 = m at *
        go_wp2
        go_roundw
        case rel => exact ⟨j + 1, unhide HJ, by go_num, by rw [← unhide HZ]; go_num, unhide HO, unhide HL⟩
        case measure => have := unhide HJ; simp [intOf]; omega
      · obtain rfl : j = n := by omega
        have hm := mixL_all (marksI k j) xs (by rw [marksI_len]; exact unhide HN)
        rw [← unhide HN] at hm
        rw [hm] at ho
        have HO := hide ho
        have HL := hide hlo
        clear hm ho hlo hlt
        go_wp2
        go_ret
        refine ⟨rfl, .inr ⟨g, cap, rest, by rw [marksI_len], unhide HG, unhide HH, unhide HO, by rw [marksI_len]; exact unhide HCP⟩, ⟨(unhide HL).os, (unhide HL).tape, (unhide HL).output, (unhide HL).size, fun k hk hne => (unhide HL).block k hk (fun e => hne (by rw [e]; rfl))⟩⟩
/-- an own row of ints, as own ints -/
theorem rowI {w : World} {base n : Nat} {v : Value} {xs : List Int} (h : w.ownsRow base 3 1 v n (xs.map (Value.int .i64))) (hx : xs.length = n) : ownI base w.heap.size w v xs := by
  rcases h.2 with ⟨rfl, h0⟩ | ⟨g, cap, cur, rfl, hb, hg, h1, _, _, ht⟩
  · exact .inl ⟨rfl, List.length_eq_zero_iff.1 (by omega)⟩
  · subst hx
    refine .inr ⟨g, cap, cur.toList.drop (xs.length * 1), rfl, hb, (Array.getElem?_eq_some_iff.1 hg).1, ?_, h1⟩
    rw [hg]
    unfold rowObj
    congr 2
    show cur = (xs.map (Value.int .i64) ++ _).toArray
    rw [← ht, List.take_append_drop]
theorem drop_at {xs : List Int} {j : Nat} (h : j < xs.length) : xs.drop j = xs.getD j 0 :: xs.drop (j + 1) := by
  rw [List.drop_eq_getElem_cons h, List.getD_eq_getElem?_getD, List.getElem?_eq_getElem h]; rfl
def bolO (xs : List Bool) (rest : List Value) : Obj := .cells (xs.map Value.bool ++ rest).toArray 4 (0, 0)
theorem cell_bolO {w : World} {g : Nat} {xs : List Bool} {rest : List Value} (h : w.heap[g]? = some (bolO xs rest)) (i : Nat) (hi : i < xs.length) : w.cell? ⟨g, i, none⟩ = some (.bool (xs.getD i false)) := by
  unfold World.cell?
  rw [show (⟨g, i, none⟩ : Addr).block = g from rfl, h]
  simp only [bolO]
  rw [List.getD_eq_getElem?_getD, List.getElem?_eq_getElem hi]
  simp [List.getElem?_append_left, hi]
theorem free_bolO {w : World} {g : Nat} {xs : List Bool} {rest : List Value} (h : w.heap[g]? = some (bolO xs rest)) (i : Nat) : w.frozen? ⟨g, i, none⟩ = false := by
  unfold World.frozen?
  rw [show (⟨g, i, none⟩ : Addr).block = g from rfl, h]
  simp [bolO]
theorem set_bolO {w : World} {g : Nat} {xs : List Bool} {rest : List Value} (h : w.heap[g]? = some (bolO xs rest)) (i : Nat) (x : Bool) (hi : i < xs.length) : (w.setCell ⟨g, i, none⟩ (.bool x)).heap[g]? = some (bolO (xs.set i x) rest) := by
  simp only [World.setCell, Array.getElem?_modify, if_true, h, Option.map_some, bolO]
  have e : (xs.map Value.bool ++ rest).set i (.bool x) = (xs.set i x).map Value.bool ++ rest := by
    rw [List.set_append_left _ _ (by simpa using hi), List.map_set]
  simp [e]
theorem info4 : (Tryd.prog.info? 4).map (fun i => (i.zero, i.size, i.bytes)) = some (some (.bool false), 1, 1) := by kernel_rfl
theorem make_bools (n : Nat) (hn : n ≤ 2097152) (w : World) : (Instr.makeSlice 40 (.int .i64 (n : Int)) (.int .i64 (n : Int))).run Tryd.prog w = .ok (.slice (some ⟨w.heap.size, 0, none⟩) n n) (w.alloc (bolO (List.replicate n false) [])) := by
  obtain ⟨k0, hk0, kz0, kz1, kz2⟩ := info_parts info4
  have h := run_makeSlice w (P := Tryd.prog) 40 4 k0 (.bool false) Tryd.underlying40 hk0 kz0 .i64 .i64 (n : Int) (n : Int) (by omega) (Int.le_refl _) (by rw [kz1]; omega) (by rw [kz2]; omega) (by omega)
  rw [kz1, Int.toNat_natCast, Nat.mul_one] at h
  rw [h, bolO]
  congr 3
  apply Array.ext_getElem?
  intro i
  by_cases hi : i < n
  · simp [madeCells, Value.cells, hi, Nat.mod_one]
  · simp [madeCells, Value.cells, hi]
theorem diff44 (v : Value) (ps : List Int) (n : Nat) (w : World) (hv : intsV w v ps) (hl : ps.length ≤ 1048576) (hn : n ≤ 4096) : Calls Tryd.prog 35 #[v, .int .i64 (n : Int)] w fun e w' => e = .returned (.bool (disB n ps (List.replicate n false))) ∧ Below w.heap.size w w' := by
  obtain ⟨A, cap, rfl, hcell⟩ := hv
  have HC := hide hcell
  have mk := make_bools n (by omega)
  have n0 : (0 : Int) ≤ (ps.length : Int) := by omega
  have n1 : (ps.length : Int) ≤ 1048576 := by omega
  clear hcell hl
  go_enter Tryd.func35, Tryd.ntmps35
  go_wp2
  clear mk
  go_loopw [12] (fun i wr => ∃ (j : Nat) (s : List Bool), j ≤ ps.length ∧ i = .int .i64 j ∧ s.length = n ∧ disB n (ps.drop j) s = disB n ps (List.replicate n false) ∧ wr.heap[w.heap.size]? = some (bolO s []) ∧ Below w.heap.size w wr) (fun i _ => ps.length - (intOf i).toNat)
  case atStart => exact ⟨0, _, by omega, rfl, by simp, rfl, heap_at _ _ _ rfl, bl_al (Below.refl _ _)⟩
  case round =>
    obtain ⟨j, s, hj, rfl, hs, hd, hrow, hbl⟩ := hrel
    by_cases hlt : j < ps.length
    · obtain ⟨b, off, hA, hbb, hcell⟩ := unhide HC (by omega)
      subst hA
      have q1 : (j : Int) < (ps.length : Int) := by omega
      have q0 : (0 : Int) ≤ (j : Int) := by omega
      have p0 : wr.cell? ⟨b, off + j, none⟩ = some (.int .i64 (ps.getD j 0)) := (cell_below hbl hbb).trans (hcell j hlt)
      rw [drop_at hlt, disB] at hd
      have HJ := hide hlt
      have HB := hide hbl
      clear hcell hlt hj hbb hbl
      generalize ps.getD j 0 = c at *
      by_cases hc0 : c < 0
      · have HF : Hid (disB n ps (List.replicate n false) = false) := hide (by rw [← hd, decide_eq_false (by omega)]; rfl)
        clear hd hrow hs
        go_wp2
        go_ret
        exact ⟨ret_bool (unhide HF).symm, unhide HB⟩
      by_cases hc1 : (n : Int) ≤ c
      · have HF : Hid (disB n ps (List.replicate n false) = false) := hide (by rw [← hd, decide_eq_false (show ¬ c < _ by omega), Bool.and_false]; rfl)
        have hc2 : 0 ≤ c := by omega
        clear hd hc0 hrow hs
        go_wp2
        go_ret
        exact ⟨ret_bool (unhide HF).symm, unhide HB⟩
      obtain ⟨m, rfl⟩ : ∃ m : Nat, c = (m : Int) := ⟨c.toNat, by omega⟩
      have m1 : (m : Int) < (n : Int) := by omega
      have m0 : (0 : Int) ≤ (m : Int) := by omega
      have p1 := cell_bolO hrow m (by omega)
      have p2 := free_bolO hrow m
      have p3 := set_bolO hrow m true (by omega)
      rw [Int.toNat_natCast, decide_eq_true m0, decide_eq_true m1] at hd
      have HS := hide (show (s.set m true).length = n by rw [List.length_set]; exact hs)
      have HP := hide p3
      clear hc0 hc1 hrow p3 hs
      generalize s.set m true = s2 at *
      generalize s.getD m false = x at *
      cases x
      · have HF : Hid (disB n (ps.drop (j + 1)) s2 = disB n ps (List.replicate n false)) := hide (by rw [← hd]; rfl)
        clear hd
        go_wp2
        go_roundw
        case rel => exact ⟨j + 1, s2, unhide HJ, by go_num, unhide HS, unhide HF, unhide HP, bl_set (unhide HB) (Nat.le_refl _)⟩
        case measure => have := unhide HJ; simp [intOf]; omega
      · have HF : Hid (disB n ps (List.replicate n false) = false) := hide (by rw [← hd]; rfl)
        clear hd
        go_wp2
        go_ret
        exact ⟨ret_bool (unhide HF).symm, unhide HB⟩
    · obtain rfl : j = ps.length := by omega
      rw [List.drop_length, disB] at hd
      have HF := hide hd.symm
      have HB := hide hbl
      clear hd hlt hbl hrow
      go_wp2
      go_ret
      exact ⟨ret_bool (unhide HF).symm, unhide HB⟩
end Go.Proofs.YtggiijlgdpkkfaaDoor
