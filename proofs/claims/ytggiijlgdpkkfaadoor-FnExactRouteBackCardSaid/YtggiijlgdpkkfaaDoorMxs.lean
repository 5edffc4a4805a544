/- What a mix has made, as a value: the laws' helpers over it. -/
import Derived.Test.YtggiijlgdpkkfaaDoorBas
namespace Go.Proofs.YtggiijlgdpkkfaaDoor
open Go.RowKit
set_option maxHeartbeats 4000000
set_option maxRecDepth 20000
/-- what a mix has made -/
structure Mx where
  i : List ByteArray
  r : List ByteArray
  f : List Int
  s : List ByteArray
  b : Int
  a : Int
abbrev mxo (i r f s : Value) (b a : Int) : Value := .agg #[i, r, f, s, .int .i64 b, .int .i64 a]
/-- its cells in block q -/
structure MC (q : Nat) (i r f s : Value) (b a : Int) (W : World) : Prop where
  lt : q < W.heap.size
  c0 : W.cell? ⟨q, 0, none⟩ = some i
  c1 : W.cell? ⟨q, 1, none⟩ = some r
  c2 : W.cell? ⟨q, 2, none⟩ = some f
  c3 : W.cell? ⟨q, 3, none⟩ = some s
  c4 : W.cell? ⟨q, 4, none⟩ = some (.int .i64 b)
  c5 : W.cell? ⟨q, 5, none⟩ = some (.int .i64 a)
theorem mc_row {W : World} {q : Nat} {i r f s : Value} {b a : Int} {ty : TypeId} (h : W.heap[q]? = some (.cells #[i, r, f, s, .int .i64 b, .int .i64 a] ty (0, 0))) : MC q i r f s b a W :=
  ⟨(Array.getElem?_eq_some_iff.1 h).1, row_cell h, row_cell h, row_cell h, row_cell h, row_cell h, row_cell h⟩
theorem mc_new (w : World) (i r f s : Value) (b a : Int) (ty : TypeId) : MC w.heap.size i r f s b a (w.alloc (.cells #[i, r, f, s, .int .i64 b, .int .i64 a] ty)) :=
  mc_row (heap_alloc_new w _)
theorem MC.below {q : Nat} {i r f s : Value} {b a : Int} {W W' : World} (h : MC q i r f s b a W) (hb : Below W.heap.size W W') : MC q i r f s b a W' :=
  ⟨Nat.lt_of_lt_of_le h.lt hb.size, (cell_below hb h.lt).trans h.c0, (cell_below hb h.lt).trans h.c1, (cell_below hb h.lt).trans h.c2, (cell_below hb h.lt).trans h.c3, (cell_below hb h.lt).trans h.c4, (cell_below hb h.lt).trans h.c5⟩
theorem MC.at {q : Nat} {i r f s : Value} {b a : Int} {W W' : World} (h : MC q i r f s b a W) (hz : W.heap.size ≤ W'.heap.size) (hb : W'.heap[q]? = W.heap[q]?) : MC q i r f s b a W' := by
  have hc : ∀ k, W'.cell? ⟨q, k, none⟩ = W.cell? ⟨q, k, none⟩ := fun k => by
    unfold World.cell?
    rw [show (⟨q, k, none⟩ : Addr).block = q from rfl, hb]
  exact ⟨Nat.lt_of_lt_of_le h.lt hz, (hc 0).trans h.c0, (hc 1).trans h.c1, (hc 2).trans h.c2, (hc 3).trans h.c3, (hc 4).trans h.c4, (hc 5).trans h.c5⟩
/-- a value that reads as this -/
def mxV (w : World) (v : Value) (x : Mx) : Prop := ∃ i r f s, v = mxo i r f s x.b x.a ∧ strsV w i x.i ∧ strsV w r x.r ∧ intsV w f x.f ∧ strsV w s x.s
/-- one whose lists lie in blocks of their own, one behind the other, between lo and hi -/
def ownM (lo hi : Nat) (w : World) (v : Value) (x : Mx) : Prop :=
  ∃ i r f s m1 m2 m3, v = mxo i r f s x.b x.a ∧ lo ≤ m1 ∧ m1 ≤ m2 ∧ m2 ≤ m3 ∧ m3 ≤ hi ∧ ownS lo m1 w i x.i ∧ ownS m1 m2 w r x.r ∧ ownI m2 m3 w f x.f ∧ ownS m3 hi w s x.s
/-- nothing that was there has turned but what lies between lo and hi -/
structure TouchR (lo hi : Nat) (w w' : World) : Prop where
  os : w'.os = w.os
  tape : w'.tape = w.tape
  output : w'.output = w.output
  size : w.heap.size ≤ w'.heap.size
  block : ∀ k, k < w.heap.size → k < lo ∨ hi ≤ k → w'.heap[k]? = w.heap[k]?
theorem TouchR.trans {lo hi : Nat} {a b c : World} (h : TouchR lo hi a b) (g : TouchR lo hi b c) : TouchR lo hi a c :=
  ⟨g.os.trans h.os, g.tape.trans h.tape, g.output.trans h.output, Nat.le_trans h.size g.size, fun k hk hq => (g.block k (Nat.lt_of_lt_of_le hk h.size) hq).trans (h.block k hk hq)⟩
theorem TouchR.of_below {lo hi : Nat} {a b : World} (h : Below a.heap.size a b) : TouchR lo hi a b := ⟨h.os, h.tape, h.output, h.size, fun k hk _ => h.block k hk⟩
theorem TouchR.of_touch {lo hi lo' hi' : Nat} {v : Value} {a b : World} (h : TouchS v a b) (hl : liesIn lo' hi' v) (h1 : lo ≤ lo') (h2 : hi' ≤ hi) : TouchR lo hi a b :=
  ⟨h.os, h.tape, h.output, h.size, fun k hk hq => h.block k hk fun e => by have := hl k e; omega⟩
theorem belowR {B lo hi : Nat} {a w w' : World} (h : Below B a w) (ht : TouchR lo hi w w') (hB : B ≤ lo) (hw : B ≤ w.heap.size) : Below B a w' :=
  ⟨ht.os.trans h.os, ht.tape.trans h.tape, ht.output.trans h.output, Nat.le_trans h.size ht.size, fun k hk => by
    rw [ht.block k (by omega) (by omega)]; exact h.block k hk⟩
theorem ownS.touchR {lo hi lo' hi' : Nat} {w w' : World} {u : Value} {xs : List ByteArray} (h : ownS lo hi w u xs) (ht : TouchR lo' hi' w w') (hd : hi ≤ lo' ∨ hi' ≤ lo) : ownS lo hi w' u xs := by
  obtain h | ⟨g, cap, rest, rfl, hg, hh, hc, hcp⟩ := h
  · exact .inl h
  · exact .inr ⟨g, cap, rest, rfl, hg, hh, (ht.block g (Array.getElem?_eq_some_iff.1 hc).1 (by omega)).trans hc, hcp⟩
theorem ownI.touchR {lo hi lo' hi' : Nat} {w w' : World} {u : Value} {xs : List Int} (h : ownI lo hi w u xs) (ht : TouchR lo' hi' w w') (hd : hi ≤ lo' ∨ hi' ≤ lo) : ownI lo hi w' u xs := by
  obtain h | ⟨g, cap, rest, rfl, hg, hh, hc, hcp⟩ := h
  · exact .inl h
  · exact .inr ⟨g, cap, rest, rfl, hg, hh, (ht.block g (Array.getElem?_eq_some_iff.1 hc).1 (by omega)).trans hc, hcp⟩
theorem ownS.wide {lo hi lo' hi' : Nat} {w : World} {v : Value} {xs : List ByteArray} (h : ownS lo hi w v xs) (h1 : lo' ≤ lo) (h2 : hi ≤ hi') : ownS lo' hi' w v xs := by
  obtain h | ⟨g, cap, rest, rfl, hg, hh, hc, hcp⟩ := h
  · exact .inl h
  · exact .inr ⟨g, cap, rest, rfl, by omega, by omega, hc, hcp⟩
theorem ownM.mx {lo hi : Nat} {w : World} {v : Value} {x : Mx} (h : ownM lo hi w v x) : mxV w v x := by
  obtain ⟨i, r, f, s, _, _, _, rfl, _, _, _, _, h1, h2, h3, h4⟩ := h
  exact ⟨i, r, f, s, rfl, h1.strs, h2.strs, h3.ints, h4.strs⟩
theorem mxV.below {w w' : World} {v : Value} {x : Mx} (h : mxV w v x) (hb : Below w.heap.size w w') : mxV w' v x := by
  obtain ⟨i, r, f, s, rfl, h1, h2, h3, h4⟩ := h
  exact ⟨i, r, f, s, rfl, h1.below hb, h2.below hb, h3.below hb, h4.below hb⟩
theorem ownM.below {lo hi : Nat} {w w' : World} {v : Value} {x : Mx} (h : ownM lo hi w v x) (hb : Below w.heap.size w w') : ownM lo hi w' v x := by
  obtain ⟨i, r, f, s, m1, m2, m3, rfl, a1, a2, a3, a4, h1, h2, h3, h4⟩ := h
  exact ⟨i, r, f, s, m1, m2, m3, rfl, a1, a2, a3, a4, h1.below hb, h2.below hb, h3.below hb, h4.below hb⟩
theorem strsV.slice {w : World} {v : Value} {xs : List ByteArray} (h : strsV w v xs) : ∃ A c, v = .slice A xs.length c := by
  obtain ⟨A, c, e, _⟩ := h; exact ⟨A, c, e⟩
theorem intsV.slice {w : World} {v : Value} {xs : List Int} (h : intsV w v xs) : ∃ A c, v = .slice A xs.length c := by
  obtain ⟨A, c, e, _⟩ := h; exact ⟨A, c, e⟩
theorem szS (v : Value) (ts : List ByteArray) (L : Int) (w : World) (hv : strsV w v ts) (hl : ts.length ≤ maxLen) (hs : ∀ t ∈ ts, t.size ≤ maxLen) (hL : 0 ≤ L) (hL' : L ≤ 1048576) :
    Calls Tryd.prog 5 #[v, .int .i64 L] w fun e w' => ∃ z : Int, e = .returned (.int .i64 z) ∧ (z < 0 ∨ 0 ≤ z ∧ z + (ts.length : Int) ≤ L) ∧ w' = w := by
  obtain ⟨A, cap, rfl, hc⟩ := hv
  have HC := hide hc
  have HS := hide hs
  clear hc hs
  obtain ⟨n, hnx⟩ : ∃ n, n = ts.length := ⟨_, rfl⟩
  rw [← hnx] at hl HC ⊢
  have HN := hide hnx
  unfold maxLen at hl
  have n0 : (0 : Int) ≤ (n : Int) := by omega
  have n1 : (n : Int) ≤ 9223372036854775807 := by omega
  clear hnx
  by_cases hb : L < (n : Int)
  · clear hl
    go_enter Tryd.func5, Tryd.ntmps5
    go_wp2
    go_ret
    exact ⟨_, rfl, .inl (by omega), rfl⟩
  · have q : (n : Int) ≤ L := by omega
    clear hb hl n1
    go_enter Tryd.func5, Tryd.ntmps5
    go_wp2
    go_loopw [1, 5] (fun left i wr => ∃ (j : Nat) (l : Int), j ≤ n ∧ i = .int .i64 j ∧ left = .int .i64 l ∧ 0 ≤ l ∧ l + (n : Int) ≤ L ∧ wr = w) (fun _ i _ => n - (intOf i).toNat)
    case atStart => exact ⟨0, _, by omega, rfl, rfl, by omega, by omega, rfl⟩
    case round =>
      obtain ⟨j, l, hj, rfl, rfl, l0, l1, rfl⟩ := hrel
      by_cases hlt : j < n
      · obtain ⟨b, off, hA, _, hcell⟩ := unhide HC (by omega)
        subst hA
        have q1 : (j : Int) < (n : Int) := by omega
        have q0 : (0 : Int) ≤ (j : Int) := by omega
        have p0 := hcell j hlt
        have sz : (ts.getD j noS).size ≤ maxLen := unhide HS _ (by rw [List.getD_eq_getElem?_getD, List.getElem?_eq_getElem (by rw [← unhide HN]; exact hlt)]; exact List.getElem_mem _)
        unfold maxLen at sz
        have z0 : (0 : Int) ≤ ((ts.getD j noS).size : Int) := by omega
        have z1 : ((ts.getD j noS).size : Int) ≤ 9223372036854775807 := by omega
        have HJ := hide hlt
        clear hcell hlt hj sz
        generalize ts.getD j noS = t at *
        by_cases hneg : l < (t.size : Int)
        · go_wp2
          go_ret
          exact ⟨_, rfl, .inl (by omega), rfl⟩
        · have hge : (t.size : Int) ≤ l := by omega
          clear hneg
          go_wp2
          go_roundw
          case rel => exact ⟨j + 1, _, unhide HJ, by go_num, rfl, by omega, by omega, by first | rfl | trivial⟩
          case measure => have := unhide HJ; simp [intOf]; omega
      · obtain rfl : j = n := by omega
        clear hlt
        go_wp2
        go_ret
        exact ⟨_, rfl, .inr ⟨l0, l1⟩, rfl⟩
theorem szI (v : Value) (xs : List Int) (L : Int) (w : World) (hv : intsV w v xs) (hl : xs.length ≤ maxLen) (hL : 0 ≤ L) (hL' : L ≤ 1048576) :
    Calls Tryd.prog 15 #[v, .int .i64 L] w fun e w' => ∃ z : Int, e = .returned (.int .i64 z) ∧ (z < 0 ∨ 0 ≤ z ∧ z + (xs.length : Int) ≤ L) ∧ w' = w := by
  obtain ⟨A, cap, rfl, hc⟩ := hv
  clear hc
  unfold maxLen at hl
  have n0 : (0 : Int) ≤ (xs.length : Int) := by omega
  have n1 : (xs.length : Int) ≤ 9223372036854775807 := by omega
  by_cases h : (xs.length : Int) ≤ L
  · go_enter Tryd.func15, Tryd.ntmps15
    go_wp2
    go_ret
    exact ⟨_, rfl, .inr ⟨by omega, by omega⟩, rfl⟩
  · have h' : L < (xs.length : Int) := by omega
    clear h
    go_enter Tryd.func15, Tryd.ntmps15
    go_wp2
    go_ret
    exact ⟨_, rfl, .inl (by omega), rfl⟩
def mxFits (x : Mx) : Prop := x.i.length ≤ maxLen ∧ (∀ t ∈ x.i, t.size ≤ maxLen) ∧ x.r.length ≤ maxLen ∧ (∀ t ∈ x.r, t.size ≤ maxLen) ∧ x.f.length ≤ maxLen ∧ x.s.length ≤ maxLen ∧ (∀ t ∈ x.s, t.size ≤ maxLen)
abbrev mxN (x : Mx) : Nat := x.i.length + x.r.length + x.f.length + x.s.length
theorem szM (v : Value) (x : Mx) (w : World) (hv : mxV w v x) (hf : mxFits x) :
    Calls Tryd.prog 4 #[v, .int .i64 1048576] w fun e w' => ∃ z : Int, e = .returned (.int .i64 z) ∧ (z < 0 ∨ 0 ≤ z ∧ z + (mxN x : Int) ≤ 1048576) ∧ Below w.heap.size w w' := by
  obtain ⟨i, r, f, s, rfl, hi, hr, hff, hss⟩ := hv
  obtain ⟨f1, f2, f3, f4, f5, f6, f7⟩ := hf
  have B0 : Below w.heap.size w (w.alloc (.cells #[i, r, f, s, .int .i64 x.b, .int .i64 x.a] 25)) := bl_al (Below.refl _ _)
  have K1 := hide (fun (L : Int) hL hL' => szS i x.i L _ (hi.below B0) f1 f2 hL hL')
  have K2 := hide (fun (L : Int) hL hL' => szS r x.r L _ (hr.below B0) f3 f4 hL hL')
  have K3 := hide (fun (L : Int) hL hL' => szI f x.f L _ (hff.below B0) f5 hL hL')
  have K4 := hide (fun (L : Int) hL hL' => szS s x.s L _ (hss.below B0) f6 f7 hL hL')
  obtain ⟨_, c0, c1, c2, c3, c4, c5⟩ := mc_new w i r f s x.b x.a 25
  have HB0 := hide B0
  have n1 : (0 : Int) ≤ (x.i.length : Int) := by omega
  have n2 : (0 : Int) ≤ (x.r.length : Int) := by omega
  have n3 : (0 : Int) ≤ (x.f.length : Int) := by omega
  have n4 : (0 : Int) ≤ (x.s.length : Int) := by omega
  have HM : Hid ((mxN x : Int) = (x.i.length : Int) + x.r.length + x.f.length + x.s.length) := hide (by unfold mxN; omega)
  obtain ⟨A1, d1, rfl⟩ := hi.slice
  obtain ⟨A2, d2, rfl⟩ := hr.slice
  obtain ⟨A3, d3, rfl⟩ := hff.slice
  obtain ⟨A4, d4, rfl⟩ := hss.slice
  clear B0 hi hr hff hss f1 f2 f3 f4 f5 f6 f7
  have J1 := hide (unhide K1 1048576 (by omega) (by omega))
  clear K1
  go_enter Tryd.func4, Tryd.ntmps4
  go_wp2_with fail
  refine (unhide J1).mono ?_
  rintro e w1 ⟨z1, rfl, hz1, hw⟩
  have hw2 := hw.symm
  subst hw2
  clear J1
  by_cases nz1 : z1 < 0
  · go_wp2
    go_ret
    exact ⟨_, rfl, .inl (by omega), unhide HB0⟩
  have gz1 := Or.resolve_left hz1 nz1
  clear hz1 nz1
  have pz1 := gz1.1
  have J2 := hide (unhide K2 z1 (by omega) (by omega))
  clear K2
  go_wp2_with fail
  refine (unhide J2).mono ?_
  rintro e w1 ⟨z2, rfl, hz2, hw⟩
  have hw2 := hw.symm
  subst hw2
  clear J2
  by_cases nz2 : z2 < 0
  · go_wp2
    go_ret
    exact ⟨_, rfl, .inl (by omega), unhide HB0⟩
  have gz2 := Or.resolve_left hz2 nz2
  clear hz2 nz2
  have pz2 := gz2.1
  have J3 := hide (unhide K3 z2 (by omega) (by omega))
  clear K3
  go_wp2_with fail
  refine (unhide J3).mono ?_
  rintro e w1 ⟨z3, rfl, hz3, hw⟩
  have hw2 := hw.symm
  subst hw2
  clear J3
  by_cases nz3 : z3 < 0
  · go_wp2
    go_ret
    exact ⟨_, rfl, .inl (by omega), unhide HB0⟩
  have gz3 := Or.resolve_left hz3 nz3
  clear hz3 nz3
  have pz3 := gz3.1
  have J4 := hide (unhide K4 z3 (by omega) (by omega))
  clear K4
  go_wp2_with fail
  refine (unhide J4).mono ?_
  rintro e w1 ⟨z4, rfl, hz4, hw⟩
  have hw2 := hw.symm
  subst hw2
  clear J4
  by_cases nz4 : z4 < 0
  · go_wp2
    go_ret
    exact ⟨_, rfl, .inl (by omega), unhide HB0⟩
  have gz4 := Or.resolve_left hz4 nz4
  clear hz4 nz4
  have pz4 := gz4.1
  go_wp2
  go_ret
  exact ⟨_, rfl, .inr ⟨gz4.1, by have := unhide HM; omega⟩, unhide HB0⟩
end Go.Proofs.YtggiijlgdpkkfaaDoor
