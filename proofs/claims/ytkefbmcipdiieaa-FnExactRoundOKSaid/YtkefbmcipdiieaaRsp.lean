/- What a round is told, as a value: the laws' helpers over it. -/
import Derived.Test.YtkefbmcipdiieaaStr
import Derived.OwnWalk
namespace Go.Proofs.Ytkefbmcipdiieaa
open Go.RowKit
set_option maxHeartbeats 4000000
set_option maxRecDepth 20000
/-- what a round is told -/
structure Rs where
  s : ByteArray
  rd : Int
  ly : Int
  p : List Int
  b : List ByteArray
  m : Int
  a : Int
  d : Int
  c : Int
  t : Int
abbrev rsA (s : ByteArray) (rd ly : Int) (p b : Value) (m a d c t : Int) : Value := .agg #[.string s, .int .i64 rd, .int .i64 ly, p, b, .int .i64 m, .int .i64 a, .int .i64 d, .int .i64 c, .int .i64 t]
/-- its cells in block q -/
structure RC (q : Nat) (s : ByteArray) (rd ly : Int) (p b : Value) (m a d c t : Int) (W : World) : Prop where
  lt : q < W.heap.size
  c0 : W.cell? ⟨q, 0, none⟩ = some (.string s)
  c1 : W.cell? ⟨q, 1, none⟩ = some (.int .i64 rd)
  c2 : W.cell? ⟨q, 2, none⟩ = some (.int .i64 ly)
  c3 : W.cell? ⟨q, 3, none⟩ = some (p)
  c4 : W.cell? ⟨q, 4, none⟩ = some (b)
  c5 : W.cell? ⟨q, 5, none⟩ = some (.int .i64 m)
  c6 : W.cell? ⟨q, 6, none⟩ = some (.int .i64 a)
  c7 : W.cell? ⟨q, 7, none⟩ = some (.int .i64 d)
  c8 : W.cell? ⟨q, 8, none⟩ = some (.int .i64 c)
  c9 : W.cell? ⟨q, 9, none⟩ = some (.int .i64 t)
theorem rc_row {W : World} {q : Nat} {s : ByteArray} {rd ly : Int} {p b : Value} {m a d c t : Int} {ty : TypeId} (h : W.heap[q]? = some (.cells #[.string s, .int .i64 rd, .int .i64 ly, p, b, .int .i64 m, .int .i64 a, .int .i64 d, .int .i64 c, .int .i64 t] ty (0, 0))) : RC q s rd ly p b m a d c t W :=
  ⟨(Array.getElem?_eq_some_iff.1 h).1, row_cell h, row_cell h, row_cell h, row_cell h, row_cell h, row_cell h, row_cell h, row_cell h, row_cell h, row_cell h⟩
theorem rc_new (w : World) (s : ByteArray) (rd ly : Int) (p b : Value) (m a d c t : Int) (ty : TypeId) : RC w.heap.size s rd ly p b m a d c t (w.alloc (.cells #[.string s, .int .i64 rd, .int .i64 ly, p, b, .int .i64 m, .int .i64 a, .int .i64 d, .int .i64 c, .int .i64 t] ty)) :=
  rc_row (heap_alloc_new w _)
theorem RC.below {q : Nat} {s : ByteArray} {rd ly : Int} {p b : Value} {m a d c t : Int} {W W' : World} (h : RC q s rd ly p b m a d c t W) (hb : Below W.heap.size W W') : RC q s rd ly p b m a d c t W' :=
  ⟨Nat.lt_of_lt_of_le h.lt hb.size, (cell_below hb h.lt).trans h.c0, (cell_below hb h.lt).trans h.c1, (cell_below hb h.lt).trans h.c2, (cell_below hb h.lt).trans h.c3, (cell_below hb h.lt).trans h.c4, (cell_below hb h.lt).trans h.c5, (cell_below hb h.lt).trans h.c6, (cell_below hb h.lt).trans h.c7, (cell_below hb h.lt).trans h.c8, (cell_below hb h.lt).trans h.c9⟩
/-- a value that reads as this -/
def rsV (w : World) (v : Value) (x : Rs) : Prop := ∃ p b, v = rsA x.s x.rd x.ly p b x.m x.a x.d x.c x.t ∧ intsV w p x.p ∧ strsV w b x.b
theorem rsV.below {w w' : World} {v : Value} {x : Rs} (h : rsV w v x) (hb : Below w.heap.size w w') : rsV w' v x := by
  obtain ⟨p, b, rfl, h1, h2⟩ := h
  exact ⟨p, b, rfl, h1.below hb, h2.below hb⟩
def rsFits (x : Rs) : Prop := x.s.size ≤ maxLen ∧ x.p.length ≤ maxLen ∧ x.b.length ≤ maxLen ∧ ∀ t ∈ x.b, t.size ≤ maxLen
theorem sz4 (v : Value) (x : Rs) (w : World) (hv : rsV w v x) (hf : rsFits x) :
    Calls Try.prog 4 #[v, .int .i64 1048576] w fun e w' => ∃ z : Int, e = .returned (.int .i64 z) ∧ (z < 0 ∨ x.p.length ≤ 1048576 ∧ x.b.length ≤ 1048576) ∧ Below w.heap.size w w' := by
  obtain ⟨p, b, rfl, hp, hb⟩ := hv
  obtain ⟨f0, f1, f2, f3⟩ := hf
  obtain ⟨s, rd, ly, xp, xb, m, a, d, c, t⟩ := x
  dsimp only at *
  have B0 : Below w.heap.size w (w.alloc (.cells #[.string s, .int .i64 rd, .int .i64 ly, p, b, .int .i64 m, .int .i64 a, .int .i64 d, .int .i64 c, .int .i64 t] 25)) := bl_al (Below.refl _ _)
  have K1 := hide (fun (L : Int) hL hL' => szI p xp L _ (hp.below B0) f1 hL hL')
  have K2 := hide (fun (L : Int) hL hL' => szS b xb L _ (hb.below B0) f2 f3 hL hL')
  obtain ⟨_, c0, c1, c2, c3, c4, c5, c6, c7, c8, c9⟩ := rc_new w s rd ly p b m a d c t 25
  have HB0 := hide B0
  unfold maxLen at f0
  have n0 : (0 : Int) ≤ (s.size : Int) := by omega
  have n1 : (s.size : Int) ≤ 9223372036854775807 := by omega
  obtain ⟨A1, d1, rfl⟩ := hp.slice
  obtain ⟨A2, d2, rfl⟩ := hb.slice
  clear B0 hp hb f1 f2 f3
  by_cases h0 : (1048576 : Int) < (s.size : Int)
  · clear K1 K2
    go_enter Try.func4, Try.ntmps4
    go_wp2
    go_ret
    exact ⟨_, rfl, .inl (by omega), unhide HB0⟩
  have h1 : (s.size : Int) ≤ 1048576 := by omega
  clear h0
  have J1 := hide (unhide K1 (1048576 - (s.size : Int)) (by omega) (by omega))
  clear K1 f0
  go_enter Try.func4, Try.ntmps4
  go_wp2_with fail
  refine (unhide J1).mono ?_
  rintro e w1 ⟨z1, rfl, hz1, hw⟩
  have hw2 := hw.symm
  subst hw2
  clear J1
  by_cases nz1 : z1 < 0
  · go_wp2
    go_ret
    exact ⟨_, rfl, .inl (by omega), unhide HB0⟩
  have gz1 := Or.resolve_left hz1 nz1
  clear hz1 nz1
  have pz1 := gz1.1
  have J2 := hide (unhide K2 z1 (by omega) (by omega))
  clear K2
  have HG1 := hide gz1
  clear gz1
  go_wp2_with fail
  refine (unhide J2).mono ?_
  rintro e w1 ⟨z2, rfl, hz2, hw⟩
  have hw2 := hw.symm
  subst hw2
  clear J2
  by_cases nz2 : z2 < 0
  · go_wp2
    go_ret
    exact ⟨_, rfl, .inl (by omega), unhide HB0⟩
  have gz2 := Or.resolve_left hz2 nz2
  have HG2 := hide gz2
  have pz2 := gz2.1
  clear hz2 nz2 gz2
  go_wp2
  go_ret
  exact ⟨_, rfl, .inr ⟨by have := unhide HG1; have := unhide HG2; omega, by have := unhide HG1; have := unhide HG2; omega⟩, unhide HB0⟩
theorem eq8r (u v : Value) (x : Rs) (w : World) (hu : rsV w u x) (hv : rsV w v x) (h1 : x.p.length ≤ 1048576) (h2 : x.b.length ≤ 1048576) :
    Calls Try.prog 8 #[u, v] w fun e w' => e = .returned (.bool true) ∧ Below w.heap.size w w' := by
  obtain ⟨p, b, rfl, hp, hb⟩ := hu
  obtain ⟨p', b', rfl, hp', hb'⟩ := hv
  obtain ⟨s, rd, ly, xp, xb, m, a, d, c, t⟩ := x
  dsimp only at *
  have B0 : Below w.heap.size w ((w.alloc (.cells #[.string s, .int .i64 rd, .int .i64 ly, p, b, .int .i64 m, .int .i64 a, .int .i64 d, .int .i64 c, .int .i64 t] 28)).alloc (.cells #[.string s, .int .i64 rd, .int .i64 ly, p', b', .int .i64 m, .int .i64 a, .int .i64 d, .int .i64 c, .int .i64 t] 28)) := bl_al (bl_al (Below.refl _ _))
  have R1 := (rc_new w s rd ly p b m a d c t 28).below (bl_al (o := .cells #[.string s, .int .i64 rd, .int .i64 ly, p', b', .int .i64 m, .int .i64 a, .int .i64 d, .int .i64 c, .int .i64 t] 28) (Below.refl _ _))
  have R2 := rc_new (w.alloc (.cells #[.string s, .int .i64 rd, .int .i64 ly, p, b, .int .i64 m, .int .i64 a, .int .i64 d, .int .i64 c, .int .i64 t] 28)) s rd ly p' b' m a d c t 28
  have K1 := hide (fun W (g : intsV W p xp) (g' : intsV W p' xp) => eq8 p p' xp W g g' (by omega))
  have K2 := hide (fun W (g : strsV W b xb) (g' : strsV W b' xb) => eq33 b b' xb W g g' (by omega))
  have HP := hide (hp.below B0)
  have HQ := hide (hp'.below B0)
  have HS := hide (hb.below B0)
  have HT := hide (hb'.below B0)
  obtain ⟨A1, d1, rfl⟩ := hp.slice
  obtain ⟨A2, d2, rfl⟩ := hp'.slice
  obtain ⟨A3, d3, rfl⟩ := hb.slice
  obtain ⟨A4, d4, rfl⟩ := hb'.slice
  have HB0 := hide B0
  have HR1 := hide R1
  have HR2 := hide R2
  clear B0 hp hb hp' hb' h1 h2
  obtain ⟨_, c0, c1, c2, c3, c4, c5, c6, c7, c8, c9⟩ := R1
  obtain ⟨_, e0, e1, e2, e3, e4, e5, e6, e7, e8, e9⟩ := R2
  go_enter Try.func8, Try.ntmps8
  go_wp2_with fail
  refine (unhide K1 _ (unhide HP) (unhide HQ)).mono ?_
  rintro e w1 ⟨rfl, k, hw⟩
  have b1 := Below.refl ((w.alloc (.cells #[.string s, .int .i64 rd, .int .i64 ly, .slice A1 xp.length d1, .slice A3 xb.length d3, .int .i64 m, .int .i64 a, .int .i64 d, .int .i64 c, .int .i64 t] 28)).alloc (.cells #[.string s, .int .i64 rd, .int .i64 ly, .slice A2 xp.length d2, .slice A4 xb.length d4, .int .i64 m, .int .i64 a, .int .i64 d, .int .i64 c, .int .i64 t] 28)).heap.size ((w.alloc (.cells #[.string s, .int .i64 rd, .int .i64 ly, .slice A1 xp.length d1, .slice A3 xb.length d3, .int .i64 m, .int .i64 a, .int .i64 d, .int .i64 c, .int .i64 t] 28)).alloc (.cells #[.string s, .int .i64 rd, .int .i64 ly, .slice A2 xp.length d2, .slice A4 xb.length d4, .int .i64 m, .int .i64 a, .int .i64 d, .int .i64 c, .int .i64 t] 28))
  have b1 := below_drewN b1 k
  rw [← hw] at b1
  have B1 := hide (bl_st b1 (unhide HB0))
  have R1 := (unhide HR1).below b1
  have R2 := (unhide HR2).below b1
  have HR1 := hide R1
  have HR2 := hide R2
  have HS := hide ((unhide HS).below b1)
  have HT := hide ((unhide HT).below b1)
  clear hw b1 K1 HP HQ c0 c1 c2 c3 c4 c5 c6 c7 c8 c9 e0 e1 e2 e3 e4 e5 e6 e7 e8 e9 HB0
  have HSZ : Hid ((w.alloc (.cells #[.string s, .int .i64 rd, .int .i64 ly, .slice A1 xp.length d1, .slice A3 xb.length d3, .int .i64 m, .int .i64 a, .int .i64 d, .int .i64 c, .int .i64 t] 28)).heap.size = w.heap.size + 1) := hide (by simp)
  obtain ⟨_, c0, c1, c2, c3, c4, c5, c6, c7, c8, c9⟩ := R1
  rw [unhide HSZ] at R2
  obtain ⟨_, e0, e1, e2, e3, e4, e5, e6, e7, e8, e9⟩ := R2
  go_wp2_with fail
  refine (unhide K2 _ (unhide HS) (unhide HT)).mono ?_
  rintro e w2 ⟨rfl, k2, hw⟩
  have b2 := below_drewN (Below.refl w1.heap.size w1) k2
  rw [← hw] at b2
  have B2 := hide (bl_st b2 (unhide B1))
  have R1 := (unhide HR1).below b2
  have R2 := (unhide HR2).below b2
  clear hw b2 K2 HS HT c0 c1 c2 c3 c4 c5 c6 c7 c8 c9 e0 e1 e2 e3 e4 e5 e6 e7 e8 e9 B1 HR1 HR2
  obtain ⟨_, c0, c1, c2, c3, c4, c5, c6, c7, c8, c9⟩ := R1
  rw [unhide HSZ] at R2
  obtain ⟨_, e0, e1, e2, e3, e4, e5, e6, e7, e8, e9⟩ := R2
  go_wp2
  go_ret
  exact ⟨rfl, unhide B2⟩
end Go.Proofs.Ytkefbmcipdiieaa
