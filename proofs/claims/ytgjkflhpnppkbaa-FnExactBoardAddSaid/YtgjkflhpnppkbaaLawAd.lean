/- The law of BoardAdd, walked. -/
import Derived.Test.YtgjkflhpnppkbaaAddI
namespace Go.Proofs.Ytgjkflhpnppkbaa
open Go.RowKit
set_option maxHeartbeats 4000000
set_option maxRecDepth 20000
theorem aR_len (ps : List Pst) (p : Pst) : (aR ps p).1.length ≤ ps.length + 1 := by
  unfold aR
  (repeat' split) <;> simp
theorem law_ad_at (w : World) (v : Value) (ps : List Pst) (hv : postsV w v ps) (hl : ps.length ≤ maxLen) (hs : ∀ p ∈ ps, p.2.2.size ≤ maxLen) (r l : Int) (t : ByteArray) (ht : t.size ≤ maxLen) :
    Calls Try.prog 4 #[v, postV (r, l, t)] w fun e w' => e = .returned (.bool true) ∧ Below w.heap.size w w' := by
  have HB0 := hide (show Below w.heap.size w (w.alloc (.cells #[.int .i64 r, .int .i64 l, .string t] 30)) from bl_al (Below.refl _ _))
  have PP := hide (pc_new w r l t 30)
  have LP := hide (show w.heap.size < (w.alloc (.cells #[.int .i64 r, .int .i64 l, .string t] 30)).heap.size by simp)
  have HV0 := hide (hv.below (unhide HB0))
  have h6 := hide (sz6 v ps _ (unhide HV0) hl hs)
  have HT := hide ht
  have HLN := hide (aR_len ps (r, l, t))
  obtain ⟨A, cap, rfl, x0⟩ := hv
  clear hl hs x0 ht
  have H13 := hide (fun W => to13 r l t W)
  have HTO : Hid (ps.length ≤ 1048576 → ∀ u W, postsV W u ps → Calls Try.prog 8 #[u] W fun e w' => ∃ r, e = .returned r ∧ ownP W.heap.size w'.heap.size w' r ps ∧ Below W.heap.size W w') := hide fun hn u W hu => to8 u ps W hu (by omega)
  have HSP : Hid (ps.length ≤ 1048576 → ∀ u W, postsV W u ps → Calls Try.prog 12 #[u, postV (r, l, t)] W fun e w' => ∃ x, e = .returned (.tuple #[x, .int .i64 (aR ps (r, l, t)).2]) ∧ ownP W.heap.size w'.heap.size w' x (aR ps (r, l, t)).1 ∧ Below W.heap.size W w') := hide fun hn u W hu => add12 u ps r l t W hu (by omega)
  have HIM : Hid (ps.length ≤ 1048576 → ∀ u W, postsV W u ps → Calls Try.prog 14 #[u, postV (r, l, t)] W fun e w' => ∃ x, e = .returned (.tuple #[x, .int .i64 (aR ps (r, l, t)).2]) ∧ ownP W.heap.size w'.heap.size w' x (aR ps (r, l, t)).1 ∧ Below W.heap.size W w') := hide fun hn u W hu => add14 u ps r l t W hu (by omega)
  generalize aR ps (r, l, t) = rr at *
  obtain ⟨L, C⟩ := rr
  dsimp only at *
  have l0 : (0 : Int) ≤ (L.length : Int) := by omega
  have n0 : (0 : Int) ≤ (ps.length : Int) := by omega
  obtain ⟨c0, c1, c2⟩ := unhide PP
  dsimp only [Nat.zero_add] at c0 c1 c2
  go_enter Try.func4, Try.ntmps4
  go_wp2_with fail
  generalize w.alloc (.cells #[.int .i64 r, .int .i64 l, .string t] 30) = w0 at *
  refine (unhide h6).mono ?_
  rintro e w1 ⟨z, rfl, hz, b1⟩
  have B1 := hide b1
  have HZ := hide hz
  clear hz b1 h6 c0 c1 c2
  by_cases hneg : z < 0
  · go_wp2
    go_ret
    exact ⟨rfl, bl_st (unhide B1) (unhide HB0)⟩
  obtain ⟨z0, z1, hn⟩ := Or.resolve_left (unhide HZ) hneg
  have HN := hide hn
  clear hneg hn
  obtain ⟨c0, c1, c2⟩ := (unhide PP).below (unhide LP) (unhide B1)
  dsimp only [Nat.zero_add] at c0 c1 c2
  have h11 := hide (sz11 r l z t w1 z0 z1 (unhide HT))
  go_wp2_with fail
  refine (unhide h11).mono ?_
  rintro e w3 ⟨y, rfl, hy, b3⟩
  have Bw3 := hide (bl_st b3 (unhide B1))
  clear b3 h11 c0 c1 c2 B1 HZ
  by_cases hneg : y < 0
  · clear hy
    go_wp2
    go_ret
    exact ⟨rfl, bl_st (unhide Bw3) (unhide HB0)⟩
  have hge : 0 ≤ y := by omega
  clear hneg hy z0 z1
  go_wp2
  refine wp_region_held (S := fun W' => Below w3.heap.size w3 W') (by kernel_rfl) ?_
  have hS0 : Below w3.heap.size w3 { w3 with drawn := w3.drawn + 1 } := below_drewN (Below.refl _ _) 1
  refine wpAnyH_take (i := 0) (oi := { dst := some 27, op := Op.move (Operand.tmp 0), type := 22, pos := "exact.go:2443", after := #[], guard := none }) (v := ?_) rfl (by kernel_rfl) (by kernel_rfl) (by kernel_rfl) (fun _ _ _ h => h) (Or.inl ⟨by rfl, ?_⟩) hS0 ?_
  rotate_left
  · intro W hSw
    obtain ⟨c0, c1, c2⟩ := (unhide PP).below (unhide LP) (bl_st hSw (unhide Bw3))
    dsimp only [Nat.zero_add] at c0 c1 c2
    go_simp
    try with_reducible rfl
  simp only [Act.put, List.setIfInBounds_toArray, List.set_cons_zero, List.set_cons_succ]
  refine wpAnyH_take (i := 2) (oi := { dst := some 29, op := Op.load 30 (Operand.tmp 3), type := 30, pos := "exact.go:2443", after := #[], guard := none }) (v := ?_) rfl (by kernel_rfl) (by kernel_rfl) (by kernel_rfl) (fun _ _ _ h => h) (Or.inl ⟨by rfl, ?_⟩) hS0 ?_
  rotate_left
  · intro W hSw
    obtain ⟨c0, c1, c2⟩ := (unhide PP).below (unhide LP) (bl_st hSw (unhide Bw3))
    dsimp only [Nat.zero_add] at c0 c1 c2
    go_simp
    try with_reducible rfl
  simp only [Act.put, List.setIfInBounds_toArray, List.set_cons_zero, List.set_cons_succ]
  refine wpAnyH_one (i := 1) (by kernel_rfl) ?_
  refine wpOp_step (o := { dst := some 28, op := Op.call { callee := Callee.value (Operand.func 8), args := #[Operand.tmp 27], argTypes := #[22] }, type := 25, pos := "exact.go:2443", after := #[{ on := 0, ground := Ground.data }], guard := none }) rfl fun K' hK => step_enterW (by rfl) 8 #[.slice A ps.length cap] (by go_simp) ((unhide HTO (unhide HN) _ _ ((unhide HV0).below (bl_st hS0 (unhide Bw3)))).mono ?_)
  rintro e y1 ⟨uy, rfl, oy1, by1⟩
  have sy1 := bl_st by1 hS0
  have Uy := hide oy1.posts
  clear oy1 by1
  refine ⟨_, rfl, hK _ _ ⟨sy1, ?_⟩⟩
  simp only [Act.put, List.setIfInBounds_toArray, List.set_cons_zero, List.set_cons_succ]
  refine wpAnyH_one (i := 3) (by kernel_rfl) ?_
  refine wpOp_step (o := { dst := some 30, op := Op.call { callee := Callee.value (Operand.func 13), args := #[Operand.tmp 29], argTypes := #[30] }, type := 34, pos := "exact.go:2443", after := #[{ on := 2, ground := Ground.data }, { on := 1, ground := Ground.chain }], guard := none }) rfl fun K' hK => step_enterW (by rfl) 13 #[postV (r, l, t)] (by go_simp) ((unhide H13 _).mono ?_)
  rintro e y2 ⟨rfl, by2⟩
  have sy2 := bl_st by2 sy1
  refine ⟨_, rfl, hK _ _ ⟨sy2, ?_⟩⟩
  simp only [Act.put, List.setIfInBounds_toArray, List.set_cons_zero, List.set_cons_succ]
  refine wpAnyH_one (i := 4) (by kernel_rfl) ?_
  refine wpOp_step (o := { dst := some 31, op := Op.call { callee := Callee.value (Operand.func 12), args := #[Operand.tmp 28, Operand.tmp 30], argTypes := #[25, 34] }, type := 32, pos := "exact.go:2443", after := #[{ on := 1, ground := Ground.data }, { on := 3, ground := Ground.data }, { on := 3, ground := Ground.chain }], guard := none }) rfl fun K' hK => step_enterW (by rfl) 12 #[uy, postV (r, l, t)] (by go_simp) ((unhide HSP (unhide HN) _ _ ((unhide Uy).below by2)).mono ?_)
  rintro e y3 ⟨gy, rfl, oy3, by3⟩
  have sy3 := bl_st by3 sy2
  refine ⟨_, rfl, hK _ _ ⟨sy3, ?_⟩⟩
  simp only [Act.put, List.setIfInBounds_toArray, List.set_cons_zero, List.set_cons_succ]
  refine wpAnyH_take (i := 5) (oi := { dst := some 26, op := Op.move (Operand.tmp 31), type := 32, pos := "exact.go:2443", after := #[{ on := 4, ground := Ground.data }], guard := none }) (v := ?_) rfl (by kernel_rfl) (by kernel_rfl) (by kernel_rfl) (fun _ _ _ h => h) (Or.inl ⟨by rfl, ?_⟩) sy3 ?_
  rotate_left
  · intro W hSw
    go_simp
    try with_reducible rfl
  simp only [Act.put, List.setIfInBounds_toArray, List.set_cons_zero, List.set_cons_succ]
  refine wpAnyH_take (i := 6) (oi := { dst := some 32, op := Op.extract (Operand.tmp 26) 0, type := 25, pos := "exact.go:2443", after := #[{ on := 5, ground := Ground.data }], guard := none }) (v := ?_) rfl (by kernel_rfl) (by kernel_rfl) (by kernel_rfl) (fun _ _ _ h => h) (Or.inl ⟨by rfl, ?_⟩) sy3 ?_
  rotate_left
  · intro W hSw
    go_simp
    try with_reducible rfl
  simp only [Act.put, List.setIfInBounds_toArray, List.set_cons_zero, List.set_cons_succ]
  refine wpAnyH_take (i := 7) (oi := { dst := some 33, op := Op.extract (Operand.tmp 26) 1, type := 3, pos := "exact.go:2443", after := #[{ on := 5, ground := Ground.data }, { on := 8, ground := Ground.gcOnly Departure.lateStores }], guard := none }) (v := ?_) rfl (by kernel_rfl) (by kernel_rfl) (by kernel_rfl) (fun _ _ _ h => h) (Or.inl ⟨by rfl, ?_⟩) sy3 ?_
  rotate_left
  · intro W hSw
    go_simp
    try with_reducible rfl
  simp only [Act.put, List.setIfInBounds_toArray, List.set_cons_zero, List.set_cons_succ]
  refine wpAnyH_take (i := 8) (oi := { dst := some 6, op := Op.assign (Operand.tmp 32), type := 25, pos := "exact.go:2443", after := #[{ on := 6, ground := Ground.data }, { on := 4, ground := Ground.chain }, { on := 0, ground := Ground.phase }, { on := 1, ground := Ground.phase }, { on := 2, ground := Ground.phase }, { on := 3, ground := Ground.phase }, { on := 4, ground := Ground.phase }, { on := 5, ground := Ground.phase }, { on := 6, ground := Ground.phase }, { on := 7, ground := Ground.textOnly Departure.lateStores }], guard := none }) (v := ?_) rfl (by kernel_rfl) (by kernel_rfl) (by kernel_rfl) (fun _ _ _ h => h) (Or.inl ⟨by rfl, ?_⟩) sy3 ?_
  rotate_left
  · intro W hSw
    go_simp
    try with_reducible rfl
  simp only [Act.put, List.setIfInBounds_toArray, List.set_cons_zero, List.set_cons_succ]
  refine wpAnyH_take (i := 9) (oi := { dst := some 7, op := Op.assign (Operand.tmp 33), type := 3, pos := "exact.go:2443", after := #[{ on := 7, ground := Ground.data }, { on := 8, ground := Ground.chain }, { on := 0, ground := Ground.phase }, { on := 1, ground := Ground.phase }, { on := 2, ground := Ground.phase }, { on := 3, ground := Ground.phase }, { on := 4, ground := Ground.phase }, { on := 5, ground := Ground.phase }, { on := 6, ground := Ground.phase }, { on := 7, ground := Ground.phase }, { on := 8, ground := Ground.phase }], guard := none }) (v := ?_) rfl (by kernel_rfl) (by kernel_rfl) (by kernel_rfl) (fun _ _ _ h => h) (Or.inl ⟨by rfl, ?_⟩) sy3 ?_
  rotate_left
  · intro W hSw
    go_simp
    try with_reducible rfl
  simp only [Act.put, List.setIfInBounds_toArray, List.set_cons_zero, List.set_cons_succ]
  refine wpAnyH_done (by kernel_rfl) ?_ _
  have B4 := hide (bl_st sy3 (unhide Bw3))
  have SW4 := hide oy3
  have LO4 := hide (unhide B4).size
  clear sy1 sy2 sy3 by2 by3 oy3 Uy hS0 Bw3
  generalize y3 = w4 at *
  go_wp2_with fail
  refine (unhide HTO (unhide HN) _ w4 ((unhide HV0).below (unhide B4))).mono ?_
  rintro e w5 ⟨u5, rfl, o5, b5⟩
  have B5 := hide (bl_st b5 (unhide B4))
  have U5 := hide o5
  have SW5 := hide ((unhide SW4).below b5)
  have LO5 := hide b5.size
  clear o5 b5 B4 SW4
  obtain ⟨c0, c1, c2⟩ := (unhide PP).below (unhide LP) (unhide B5)
  dsimp only [Nat.zero_add] at c0 c1 c2
  go_wp2_with fail
  refine (unhide H13 _).mono ?_
  rintro e w6 ⟨rfl, b6⟩
  have B6 := hide (bl_st b6 (unhide B5))
  have U6 := hide ((unhide U5).below b6)
  have SW6 := hide ((unhide SW5).below b6)
  have LO6 := hide b6.size
  clear b6 B5 U5 SW5 c0 c1 c2
  go_wp2_with fail
  refine (unhide HIM (unhide HN) _ w6 (unhide U6).posts).mono ?_
  rintro e w7 ⟨g0, rfl, o7, b7⟩
  have B7 := hide (bl_st b7 (unhide B6))
  have U7 := hide ((unhide U6).below b7)
  have SW7 := hide ((unhide SW6).below b7)
  have SG7 := hide o7
  have LB6 := hide (unhide B6).size
  clear o7 b7 B6 U6 SW6
  go_wp2_with fail
  refine (eq10 _ _ L w7 (unhide SG7).posts (unhide SW7).posts (by have := unhide HLN; have := unhide HN; omega)).mono ?_
  rintro e w8 ⟨rfl, b8⟩
  have B8 := hide (bl_st b8 (unhide B7))
  have U8 := hide ((unhide U7).below b8)
  have SW8 := hide ((unhide SW7).below b8)
  have SG8 := hide ((unhide SG7).below b8)
  clear b8 B7 U7 SW7 SG7
  go_wp2_with fail
  refine (unhide HTO (unhide HN) _ w8 ((unhide HV0).below (unhide B8))).mono ?_
  rintro e w9 ⟨u9, rfl, o9, b9⟩
  have B9 := hide (bl_st b9 (unhide B8))
  have U9 := hide ((unhide U8).below b9)
  have SW9 := hide ((unhide SW8).below b9)
  have SG9 := hide ((unhide SG8).below b9)
  have V9 := hide o9.posts
  clear b9 o9 B8 U8 SW8 SG8
  go_wp2_with fail
  refine (eq10 _ _ ps w9 (unhide U9).posts (unhide V9) (by have := unhide HN; omega)).mono ?_
  rintro e wa ⟨rfl, ba⟩
  have Ba := hide (bl_st ba (unhide B9))
  have Ua := hide ((unhide U9).below ba)
  have SWa := hide ((unhide SW9).below ba)
  have SGa := hide ((unhide SG9).below ba)
  clear ba B9 U9 SW9 SG9 V9
  go_wp2_with fail
  refine (mark15 _ _ _ ps wa (unhide Ua) (by have := unhide HN; omega)).mono ?_
  rintro e wb ⟨rfl, _, tb⟩
  have Bb := hide (belowS (unhide Ba) tb (unhide Ua).lies (unhide LO4) (unhide Ba).size)
  have SWb := hide ((unhide SWa).touchS tb (unhide Ua).lies (.inl (Nat.le_refl _)))
  have SGb := hide ((unhide SGa).touchS tb (unhide Ua).lies (.inr (unhide LO6)))
  clear tb Ba Ua SWa SGa
  go_wp2_with fail
  refine (eq10 _ _ L wb (unhide SGb).posts (unhide SWb).posts (by have := unhide HLN; have := unhide HN; omega)).mono ?_
  rintro e wc ⟨rfl, bc⟩
  have Bc := hide (bl_st bc (unhide Bb))
  have SWc := hide ((unhide SWb).below bc)
  have SGc := hide ((unhide SGb).below bc)
  clear bc Bb SWb SGb
  go_wp2_with fail
  refine (mark15 _ _ _ L wc (unhide SGc) (by have := unhide HLN; have := unhide HN; omega)).mono ?_
  rintro e wd ⟨rfl, od, td⟩
  have Bd := hide (belowS (unhide Bc) td (unhide SGc).lies (unhide LB6) (unhide Bc).size)
  have SWd := hide ((unhide SWc).touchS td (unhide SGc).lies (.inl (Nat.le_trans (unhide LO5) (unhide LO6))))
  have SMd := hide od
  clear td od Bc SWc SGc
  go_wp2_with fail
  refine (held16 g0 L.length wd (unhide SMd).posts (by have := unhide HLN; have := unhide HN; omega)).mono ?_
  rintro e w11 ⟨rfl, be⟩
  have Bw11 := hide (bl_st be (unhide Bd))
  have SWe := hide ((unhide SWd).below be)
  have SMe := hide ((unhide SMd).below be)
  clear be Bd SWd SMd
  go_wp2
  refine wp_region_held (S := fun W' => Below w11.heap.size w11 W') (by kernel_rfl) ?_
  have hS0 : Below w11.heap.size w11 { w11 with drawn := w11.drawn + 1 } := below_drewN (Below.refl _ _) 1
  refine wpAnyH_take (i := 0) (oi := { dst := some 85, op := Op.move (Operand.tmp 0), type := 22, pos := "exact.go:2467", after := #[], guard := none }) (v := ?_) rfl (by kernel_rfl) (by kernel_rfl) (by kernel_rfl) (fun _ _ _ h => h) (Or.inl ⟨by rfl, ?_⟩) hS0 ?_
  rotate_left
  · intro W hSw
    obtain ⟨c0, c1, c2⟩ := (unhide PP).below (unhide LP) (bl_st hSw (unhide Bw11))
    dsimp only [Nat.zero_add] at c0 c1 c2
    go_simp
    try with_reducible rfl
  simp only [Act.put, List.setIfInBounds_toArray, List.set_cons_zero, List.set_cons_succ]
  refine wpAnyH_take (i := 2) (oi := { dst := some 87, op := Op.load 30 (Operand.tmp 3), type := 30, pos := "exact.go:2467", after := #[], guard := none }) (v := ?_) rfl (by kernel_rfl) (by kernel_rfl) (by kernel_rfl) (fun _ _ _ h => h) (Or.inl ⟨by rfl, ?_⟩) hS0 ?_
  rotate_left
  · intro W hSw
    obtain ⟨c0, c1, c2⟩ := (unhide PP).below (unhide LP) (bl_st hSw (unhide Bw11))
    dsimp only [Nat.zero_add] at c0 c1 c2
    go_simp
    try with_reducible rfl
  simp only [Act.put, List.setIfInBounds_toArray, List.set_cons_zero, List.set_cons_succ]
  refine wpAnyH_one (i := 1) (by kernel_rfl) ?_
  refine wpOp_step (o := { dst := some 86, op := Op.call { callee := Callee.value (Operand.func 8), args := #[Operand.tmp 85], argTypes := #[22] }, type := 25, pos := "exact.go:2467", after := #[{ on := 0, ground := Ground.data }], guard := none }) rfl fun K' hK => step_enterW (by rfl) 8 #[.slice A ps.length cap] (by go_simp) ((unhide HTO (unhide HN) _ _ ((unhide HV0).below (bl_st hS0 (unhide Bw11)))).mono ?_)
  rintro e z1 ⟨uz, rfl, oz1, bz1⟩
  have sz1 := bl_st bz1 hS0
  have Uz := hide oz1.posts
  clear oz1 bz1
  refine ⟨_, rfl, hK _ _ ⟨sz1, ?_⟩⟩
  simp only [Act.put, List.setIfInBounds_toArray, List.set_cons_zero, List.set_cons_succ]
  refine wpAnyH_one (i := 3) (by kernel_rfl) ?_
  refine wpOp_step (o := { dst := some 88, op := Op.call { callee := Callee.value (Operand.func 13), args := #[Operand.tmp 87], argTypes := #[30] }, type := 34, pos := "exact.go:2467", after := #[{ on := 2, ground := Ground.data }, { on := 1, ground := Ground.chain }], guard := none }) rfl fun K' hK => step_enterW (by rfl) 13 #[postV (r, l, t)] (by go_simp) ((unhide H13 _).mono ?_)
  rintro e z2 ⟨rfl, bz2⟩
  have sz2 := bl_st bz2 sz1
  refine ⟨_, rfl, hK _ _ ⟨sz2, ?_⟩⟩
  simp only [Act.put, List.setIfInBounds_toArray, List.set_cons_zero, List.set_cons_succ]
  refine wpAnyH_one (i := 4) (by kernel_rfl) ?_
  refine wpOp_step (o := { dst := some 89, op := Op.call { callee := Callee.value (Operand.func 14), args := #[Operand.tmp 86, Operand.tmp 88], argTypes := #[25, 34] }, type := 32, pos := "exact.go:2467", after := #[{ on := 1, ground := Ground.data }, { on := 3, ground := Ground.data }, { on := 3, ground := Ground.chain }], guard := none }) rfl fun K' hK => step_enterW (by rfl) 14 #[uz, postV (r, l, t)] (by go_simp) ((unhide HIM (unhide HN) _ _ ((unhide Uz).below bz2)).mono ?_)
  rintro e z3 ⟨gz, rfl, oz3, bz3⟩
  have sz3 := bl_st bz3 sz2
  refine ⟨_, rfl, hK _ _ ⟨sz3, ?_⟩⟩
  simp only [Act.put, List.setIfInBounds_toArray, List.set_cons_zero, List.set_cons_succ]
  refine wpAnyH_take (i := 5) (oi := { dst := some 84, op := Op.move (Operand.tmp 89), type := 32, pos := "exact.go:2467", after := #[{ on := 4, ground := Ground.data }], guard := none }) (v := ?_) rfl (by kernel_rfl) (by kernel_rfl) (by kernel_rfl) (fun _ _ _ h => h) (Or.inl ⟨by rfl, ?_⟩) sz3 ?_
  rotate_left
  · intro W hSw
    go_simp
    try with_reducible rfl
  simp only [Act.put, List.setIfInBounds_toArray, List.set_cons_zero, List.set_cons_succ]
  refine wpAnyH_take (i := 6) (oi := { dst := some 90, op := Op.extract (Operand.tmp 84) 0, type := 25, pos := "exact.go:2467", after := #[{ on := 5, ground := Ground.data }], guard := none }) (v := ?_) rfl (by kernel_rfl) (by kernel_rfl) (by kernel_rfl) (fun _ _ _ h => h) (Or.inl ⟨by rfl, ?_⟩) sz3 ?_
  rotate_left
  · intro W hSw
    go_simp
    try with_reducible rfl
  simp only [Act.put, List.setIfInBounds_toArray, List.set_cons_zero, List.set_cons_succ]
  refine wpAnyH_take (i := 7) (oi := { dst := some 91, op := Op.extract (Operand.tmp 84) 1, type := 3, pos := "exact.go:2467", after := #[{ on := 5, ground := Ground.data }, { on := 8, ground := Ground.gcOnly Departure.lateStores }], guard := none }) (v := ?_) rfl (by kernel_rfl) (by kernel_rfl) (by kernel_rfl) (fun _ _ _ h => h) (Or.inl ⟨by rfl, ?_⟩) sz3 ?_
  rotate_left
  · intro W hSw
    go_simp
    try with_reducible rfl
  simp only [Act.put, List.setIfInBounds_toArray, List.set_cons_zero, List.set_cons_succ]
  refine wpAnyH_take (i := 8) (oi := { dst := some 14, op := Op.assign (Operand.tmp 90), type := 25, pos := "exact.go:2467", after := #[{ on := 6, ground := Ground.data }, { on := 4, ground := Ground.chain }, { on := 0, ground := Ground.phase }, { on := 1, ground := Ground.phase }, { on := 2, ground := Ground.phase }, { on := 3, ground := Ground.phase }, { on := 4, ground := Ground.phase }, { on := 5, ground := Ground.phase }, { on := 6, ground := Ground.phase }, { on := 7, ground := Ground.textOnly Departure.lateStores }], guard := none }) (v := ?_) rfl (by kernel_rfl) (by kernel_rfl) (by kernel_rfl) (fun _ _ _ h => h) (Or.inl ⟨by rfl, ?_⟩) sz3 ?_
  rotate_left
  · intro W hSw
    go_simp
    try with_reducible rfl
  simp only [Act.put, List.setIfInBounds_toArray, List.set_cons_zero, List.set_cons_succ]
  refine wpAnyH_take (i := 9) (oi := { dst := some 15, op := Op.assign (Operand.tmp 91), type := 3, pos := "exact.go:2467", after := #[{ on := 7, ground := Ground.data }, { on := 8, ground := Ground.chain }, { on := 0, ground := Ground.phase }, { on := 1, ground := Ground.phase }, { on := 2, ground := Ground.phase }, { on := 3, ground := Ground.phase }, { on := 4, ground := Ground.phase }, { on := 5, ground := Ground.phase }, { on := 6, ground := Ground.phase }, { on := 7, ground := Ground.phase }, { on := 8, ground := Ground.phase }], guard := none }) (v := ?_) rfl (by kernel_rfl) (by kernel_rfl) (by kernel_rfl) (fun _ _ _ h => h) (Or.inl ⟨by rfl, ?_⟩) sz3 ?_
  rotate_left
  · intro W hSw
    go_simp
    try with_reducible rfl
  simp only [Act.put, List.setIfInBounds_toArray, List.set_cons_zero, List.set_cons_succ]
  refine wpAnyH_done (by kernel_rfl) ?_ _
  have Bf := hide (bl_st sz3 (unhide Bw11))
  have SHf := hide oz3.posts
  have SWf := hide ((unhide SWe).below sz3)
  have SMf := hide ((unhide SMe).below sz3)
  clear sz1 sz2 sz3 bz2 bz3 oz3 Uz hS0 Bw11 SWe SMe
  go_wp2_with fail
  refine (eq10 _ _ L z3 (unhide SHf) (unhide SWf).posts (by have := unhide HLN; have := unhide HN; omega)).mono ?_
  rintro e wg ⟨rfl, bg⟩
  have Bg := hide (bl_st bg (unhide Bf))
  have SMg := hide ((unhide SMf).below bg)
  clear bg Bf SMf SHf SWf
  go_wp2_with fail
  refine (held16 g0 L.length wg (unhide SMg).posts (by have := unhide HLN; have := unhide HN; omega)).mono ?_
  rintro e wh ⟨rfl, bh⟩
  have Bh := hide (bl_st bh (unhide Bg))
  clear bh
  go_wp2
  go_ret
  exact ⟨rfl, bl_st (unhide Bh) (unhide HB0)⟩
end Go.Proofs.Ytgjkflhpnppkbaa
