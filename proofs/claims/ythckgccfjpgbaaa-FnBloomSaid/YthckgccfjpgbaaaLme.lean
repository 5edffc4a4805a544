/- The law of BloomMerge, walked. -/
import Derived.Test.YthckgccfjpgbaaaMrs
import Derived.Test.YthckgccfjpgbaaaLad
namespace Go.Proofs.Ythckgccfjpgbaaa
open Go.RowKit
set_option maxHeartbeats 4000000
set_option maxRecDepth 20000
theorem ownX.liesX {lo hi : Nat} {w : World} {p wd : Int} {a b : Value} {x : Blm} (h : ownX lo hi w (bloV p wd a b) x) : ∀ g, (a.ownBlock = some g ∨ b.ownBlock = some g) → lo ≤ g ∧ g < hi := by
  intro g hg
  obtain ⟨a', b', e, h1, h2, _⟩ := h
  simp at e
  obtain ⟨_, _, rfl, rfl⟩ := e
  rcases hg with hg | hg
  · exact h1.lies g hg
  · exact h2.lies g hg
theorem ownX.loneX {q lo hi : Nat} {w w' : World} {p wd : Int} {a b : Value} {x : Blm} (h : ownX lo hi w (bloV p wd a b) x) (hl : Lone q w w') (hq : ∀ g, (a.ownBlock = some g ∨ b.ownBlock = some g) → q ≠ g) : ownX lo hi w' (bloV p wd a b) x := by
  obtain ⟨a', b', e, h1, h2, h3⟩ := h
  have e' := e
  simp at e'
  obtain ⟨_, _, rfl, rfl⟩ := e'
  refine ⟨a, b, e, h1.loneN hl (fun g hg => hq g (.inl hg)), ?_, h3⟩
  obtain h | ⟨g, cap, rest, rfl, hg, hh, hc, hcp⟩ := h2
  · exact .inl h
  · exact .inr ⟨g, cap, rest, rfl, hg, hh, (hl.block g (Array.getElem?_eq_some_iff.1 hc).1 (fun e => hq g (.inr rfl) e.symm)).trans hc, hcp⟩
theorem mergeR_len (x y : Blm) : (mergeR x y).1.s.length ≤ 4 ∧ (mergeR x y).1.b.length ≤ 256 := by
  unfold mergeR
  split
  · rename_i h
    rw [Bool.and_eq_true] at h
    have hr := right_of h.1
    split
    · refine ⟨hr.s4, ?_⟩
      show (bitsOf _ _ _).length ≤ 256
      rw [bitsOf_len]
      have h1 := hr.s4
      have h2 := hr.w64
      have : x.s.length * x.w.toNat ≤ 4 * 64 := Nat.mul_le_mul h1 (by omega)
      omega
    · exact ⟨Nat.zero_le _, Nat.zero_le _⟩
  · exact ⟨Nat.zero_le _, Nat.zero_le _⟩
theorem law_merge (w : World) (v : Value) (x : Blm) (hv : blmV w v x) (hl : x.s.length ≤ maxLen) (hl' : x.b.length ≤ maxLen) (v' : Value) (x' : Blm) (hv' : blmV w v' x') (hm : x'.s.length ≤ maxLen) (hm' : x'.b.length ≤ maxLen) :
    Calls Try.prog 11 #[v, v'] w fun e w' => e = .returned (.bool true) ∧ Below w.heap.size w w' := by
  obtain ⟨a, b, rfl, ha, hb⟩ := hv
  obtain ⟨a', b', rfl, ha', hb'⟩ := hv'
  have B0 : Below w.heap.size w (w.alloc (.cells #[.int .i64 x.p, .int .i64 x.w, a, b] 52)) := bl_al (Below.refl _ _)
  have BA : Below (w.alloc (.cells #[.int .i64 x.p, .int .i64 x.w, a, b] 52)).heap.size (w.alloc (.cells #[.int .i64 x.p, .int .i64 x.w, a, b] 52)) ((w.alloc (.cells #[.int .i64 x.p, .int .i64 x.w, a, b] 52)).alloc (.cells #[.int .i64 x'.p, .int .i64 x'.w, a', b'] 52)) := bl_al (Below.refl _ _)
  have hv : blmV w (bloV x.p x.w a b) x := ⟨a, b, rfl, ha, hb⟩
  have hv' : blmV w (bloV x'.p x'.w a' b') x' := ⟨a', b', rfl, ha', hb'⟩
  have B1 := bl_st BA B0
  have h6 := hide (sz36 (bloV x.p x.w a b) x 1048576 _ (hv.below B1) hl hl' (by omega) (by omega))
  have h7 := hide (fun L W (h : blmV W (bloV x'.p x'.w a' b') x') h0 h1 => sz36 (bloV x'.p x'.w a' b') x' L W h hm hm' h0 h1)
  have C := (bc_new w x.p x.w a b 52).below BA
  have D := bc_new (w.alloc (.cells #[.int .i64 x.p, .int .i64 x.w, a, b] 52)) x'.p x'.w a' b' 52
  rw [show (w.alloc (.cells #[.int .i64 x.p, .int .i64 x.w, a, b] 52)).heap.size = w.heap.size + 1 by simp] at D
  have HC := hide C
  have HD := hide D
  have HV := hide hv
  have HV' := hide hv'
  have HB := hide B1
  have SZ : Hid (((w.alloc (.cells #[.int .i64 x.p, .int .i64 x.w, a, b] 52)).alloc (.cells #[.int .i64 x'.p, .int .i64 x'.w, a', b'] 52)).heap.size = w.heap.size + 1 + 1) := hide (by simp)
  have HTO : Hid (x.s.length + x.b.length ≤ 1048576 → ∀ W, blmV W (bloV x.p x.w a b) x → Calls Try.prog 38 #[bloV x.p x.w a b] W fun e w' => ∃ r, e = .returned r ∧ ownX W.heap.size w'.heap.size w' r x ∧ Below W.heap.size W w') := hide fun hn W hu => to38 _ x W hu (by omega) (by omega)
  have HTO' : Hid (x'.s.length + x'.b.length ≤ 1048576 → ∀ W, blmV W (bloV x'.p x'.w a' b') x' → Calls Try.prog 38 #[bloV x'.p x'.w a' b'] W fun e w' => ∃ r, e = .returned r ∧ ownX W.heap.size w'.heap.size w' r x' ∧ Below W.heap.size W w') := hide fun hn W hu => to38 _ x' W hu (by omega) (by omega)
  have HSP : Hid (x.s.length + x.b.length ≤ 1048576 → x'.s.length + x'.b.length ≤ 1048576 → ∀ u u' W, blmV W u x → blmV W u' x' → Calls Try.prog 40 #[u, u'] W fun e w' => outX W (mergeR x x').1 (mergeR x x').2 e w') := hide fun hn hn' u u' W hu hu' => merge40 u u' x x' W hu hu' (by omega) (by omega) (by omega) (by omega)
  have HIM : Hid (x.s.length + x.b.length ≤ 1048576 → x'.s.length + x'.b.length ≤ 1048576 → ∀ u u' W, blmV W u x → blmV W u' x' → Calls Try.prog 20 #[u, u'] W fun e w' => outX W (mergeR x x').1 (mergeR x x').2 e w') := hide fun hn hn' u u' W hu hu' => merge20 u u' x x' W hu hu' (by omega) (by omega) (by omega) (by omega)
  have HEQ : Hid (x.s.length + x.b.length ≤ 1048576 → ∀ u u' W, blmV W u x → blmV W u' x → Calls Try.prog 31 #[u, u'] W fun e w' => e = .returned (.bool true) ∧ Below W.heap.size W w') := hide fun hn u u' W hu hu' => eq31 u u' x W hu hu' (by omega) (by omega)
  have HEQ' : Hid (x'.s.length + x'.b.length ≤ 1048576 → ∀ u u' W, blmV W u x' → blmV W u' x' → Calls Try.prog 31 #[u, u'] W fun e w' => e = .returned (.bool true) ∧ Below W.heap.size W w') := hide fun hn u u' W hu hu' => eq31 u u' x' W hu hu' (by omega) (by omega)
  have HMX : Hid (x.s.length + x.b.length ≤ 1048576 → ∃ k : Nat, k ≤ 3145729 ∧ ∀ lo hi u W, ownX lo hi W u x → hi ≤ W.heap.size → Calls Try.prog 34 #[u, .int .i64 1] W fun e w' => e = .returned (.int .i64 (k : Int)) ∧ ownX lo hi w' u (markX x 1) ∧ TouchR lo hi W w') := hide fun hn => ⟨_, by omega, fun lo hi u W hu hh => mark34 lo hi u x 1 W hu (by omega) (by omega) (by omega) hh⟩
  have HMX' : Hid (x'.s.length + x'.b.length ≤ 1048576 → ∀ k : Nat, k ≤ 3145729 → ∃ k' : Int, 0 ≤ k' ∧ ∀ lo hi u W, ownX lo hi W u x' → hi ≤ W.heap.size → Calls Try.prog 34 #[u, .int .i64 (k : Int)] W fun e w' => e = .returned (.int .i64 k') ∧ ownX lo hi w' u (markX x' k) ∧ TouchR lo hi W w') := hide fun hn k hk => ⟨_, Int.natCast_nonneg _, fun lo hi u W hu hh => mark34 lo hi u x' k W hu (by omega) (by omega) (by omega) hh⟩
  have hlen := mergeR_len x x'
  generalize mergeR x x' = rr at *
  obtain ⟨y, c⟩ := rr
  dsimp only at *
  have HEY : Hid (∀ u u' W, blmV W u y → blmV W u' y → Calls Try.prog 31 #[u, u'] W fun e w' => e = .returned (.bool true) ∧ Below W.heap.size W w') := hide fun u u' W hu hu' => eq31 u u' y W hu hu' (by omega) (by omega)
  obtain ⟨km, hkm⟩ : ∃ k : Nat, k = 1 + y.s.length * 2 + y.b.length := ⟨_, rfl⟩
  have HMY : Hid (∀ lo hi u W, ownX lo hi W u y → hi ≤ W.heap.size → Calls Try.prog 34 #[u, .int .i64 1] W fun e w' => e = .returned (.int .i64 (km : Int)) ∧ ownX lo hi w' u (markX y 1) ∧ TouchR lo hi W w') := hide fun lo hi u W hu hh => by rw [hkm]; exact mark34 lo hi u y 1 W hu (by omega) (by omega) (by omega) hh
  have HHY : Hid (∀ u W, blmV W u (markX y 1) → Calls Try.prog 35 #[u, .int .i64 1] W fun e w' => e = .returned (.int .i64 (km : Int)) ∧ Below W.heap.size W w') := hide fun u W hu => by rw [hkm]; exact held35 u y 1 W hu (by omega) (by omega) (by omega)
  have k0 : (0 : Int) ≤ (km : Int) := Int.natCast_nonneg _
  clear hkm
  clear hl hl' hm hm' hv hv' ha hb ha' hb' B0 B1 BA hlen
  obtain ⟨p, wd, ss, bs⟩ := x
  obtain ⟨p', wd', ss', bs'⟩ := x'
  dsimp only at *
  obtain ⟨_, c0, c1, c2, c3⟩ := C
  obtain ⟨_, d0, d1, d2, d3⟩ := D
  go_enter Try.func11, Try.ntmps11
  go_wp2_with fail
  generalize (w.alloc (.cells #[.int .i64 p, .int .i64 wd, a, b] 52)).alloc (.cells #[.int .i64 p', .int .i64 wd', a', b'] 52) = w0 at *
  refine (unhide h6).mono ?_
  rintro e w1 ⟨z, rfl, hz, b1⟩
  have B_1 := hide (bl_st b1 (unhide HB))
  have Q_2 := hide ((unhide HC).below b1)
  have P_3 := hide ((unhide HD).below b1)
  have Z4 := hide b1.size
  clear HB HC HD
  have HZ := hide hz
  clear hz b1 h6 c0 c1 c2 c3 d0 d1 d2 d3
  by_cases hneg : z < 0
  · go_wp2
    go_ret
    exact ⟨rfl, unhide B_1⟩
  obtain ⟨z0, z1, hn⟩ := Or.resolve_left (unhide HZ) hneg
  have HN := hide hn
  have h8 := hide (unhide h7 z w1 ((unhide HV').below (unhide B_1)) z0 z1)
  clear hneg HZ hn h7
  have HMX2 := hide (unhide HMX (unhide HN))
  clear HMX
  obtain ⟨_, c5, c6, c7, c8⟩ := unhide P_3
  go_wp2_with fail
  refine (unhide h8).mono ?_
  rintro e w2 ⟨zz, rfl, hz, b2⟩
  clear c5 c6 c7 c8
  have B_9 := hide (bl_st b2 (unhide B_1))
  have Q_10 := hide ((unhide Q_2).below b2)
  have P_11 := hide ((unhide P_3).below b2)
  have Z12 := hide b2.size
  clear B_1 Q_2 P_3
  have HZ := hide hz
  clear hz b2 h8 z0 z1
  by_cases hneg : zz < 0
  · go_wp2
    go_ret
    exact ⟨rfl, unhide B_9⟩
  have HN' := hide (Or.resolve_left (unhide HZ) hneg).2.2
  have hge : 0 ≤ zz := by omega
  clear hneg HZ
  have HMX3 := hide (unhide HMX' (unhide HN'))
  clear HMX'
  go_wp2

  refine Code.wp_mono (Q := fun e aQ W5 => ∃ (X1 : Option Addr) (X2 X3 : Nat) (X4 : Option Addr) (X5 X6 : Nat) (u1 u2 : Value) (gW : Nat), e = .normal ∧ aQ = { tmps := #[bloV p wd a b, bloV p' wd' a' b', .pointer (some ⟨w.heap.size, 0, none⟩), .pointer (some ⟨w.heap.size + 1, 0, none⟩), .bool false, .int .i64 zz, .pointer (some ⟨gW, 0, none⟩), .int .i64 c, undef, undef, undef, undef, undef, undef, undef, undef, undef, bloV p wd a b, .int .i64 1048576, .int .i64 z, .int .i64 z, .bool (decide (z < 0)), bloV p' wd' a' b', .int .i64 z, .int .i64 zz, .int .i64 zz, .bool (decide (zz < 0)), .tuple #[bloV y.p y.w (.slice X1 X2 X3) (.slice X4 X5 X6), .int .i64 c], bloV p wd a b, u1, bloV p' wd' a' b', u2, .tuple #[bloV y.p y.w (.slice X1 X2 X3) (.slice X4 X5 X6), .int .i64 c], bloV y.p y.w (.slice X1 X2 X3) (.slice X4 X5 X6), .int .i64 c, undef, undef, undef, undef, undef, undef, undef, undef, undef, undef, undef, undef, undef, undef, undef, undef, undef, undef, undef, undef, undef, undef, undef, undef, undef, undef, undef, undef, undef, undef, undef, undef, undef, undef, undef, undef, undef, undef, undef, undef, undef, undef, undef, undef, undef, undef, undef, undef, undef, undef, undef, undef, undef, undef, undef, undef, undef, undef, undef, undef, undef, undef, undef, undef, undef, undef, undef, undef, undef, undef, undef, undef, undef, undef, undef, undef, undef, undef, undef, undef, undef, undef, undef, undef], defers := [] } ∧ ownX w2.heap.size W5.heap.size W5 (bloV y.p y.w (.slice X1 X2 X3) (.slice X4 X5 X6)) y ∧ BC gW y.p y.w (.slice X1 X2 X3) (.slice X4 X5 X6) W5 ∧ w2.heap.size ≤ gW ∧ gW < W5.heap.size ∧ Below w2.heap.size w2 W5) ?_ ?_
  rotate_left
  · refine wp_region_held (S := fun W' => Below w2.heap.size w2 W') (by kernel_rfl) ?_
    have hS0 : Below w2.heap.size w2 { w2 with drawn := w2.drawn + 1 } := below_drewN (Below.refl _ _) 1
    refine wpAnyH_take (i := 0) (oi := { dst := some 28, op := Op.load 52 (Operand.tmp 2), type := 52, pos := "exact.go:3259", after := #[], guard := none }) (v := ?_) rfl (by kernel_rfl) (by kernel_rfl) (by kernel_rfl) (fun _ _ _ h => by obtain ⟨_, _, _, _, _, _, _, _, _, h, _⟩ := h; cases h) (Or.inl ⟨by rfl, ?_⟩) hS0 ?_
    rotate_left
    · intro W hSw
      obtain ⟨_, c0, c1, c2, c3⟩ := (unhide Q_10).below hSw
      obtain ⟨_, d0, d1, d2, d3⟩ := (unhide P_11).below hSw
      go_simp
      try with_reducible rfl
    simp only [Act.put, List.setIfInBounds_toArray, List.set_cons_zero, List.set_cons_succ]
    refine wpAnyH_take (i := 2) (oi := { dst := some 30, op := Op.load 52 (Operand.tmp 3), type := 52, pos := "exact.go:3259", after := #[], guard := none }) (v := ?_) rfl (by kernel_rfl) (by kernel_rfl) (by kernel_rfl) (fun _ _ _ h => by obtain ⟨_, _, _, _, _, _, _, _, _, h, _⟩ := h; cases h) (Or.inl ⟨by rfl, ?_⟩) hS0 ?_
    rotate_left
    · intro W hSw
      obtain ⟨_, c0, c1, c2, c3⟩ := (unhide Q_10).below hSw
      obtain ⟨_, d0, d1, d2, d3⟩ := (unhide P_11).below hSw
      go_simp
      try with_reducible rfl
    simp only [Act.put, List.setIfInBounds_toArray, List.set_cons_zero, List.set_cons_succ]
    obtain ⟨v0, hv0⟩ : ∃ v0, v0 = ({ w2 with drawn := w2.drawn + 1 } : World) := ⟨_, rfl⟩
    have s0 : Below w2.heap.size w2 v0 := by rw [hv0]; exact hS0
    rw [← hv0]
    clear hv0 hS0
    refine wpAnyH_two (i := 1) (j := 8) (by kernel_rfl) ?_ ?_
    · refine wpOp_step (o := { dst := some 29, op := Op.call { callee := Callee.value (Operand.func 38), args := #[Operand.tmp 28], argTypes := #[52] }, type := 26, pos := "exact.go:3259", after := #[{ on := 0, ground := Ground.data }], guard := none }) rfl fun K' hK => step_enterW (by rfl) 38 #[bloV p wd a b] (by go_simp) ((unhide HTO (unhide HN) v0 (((unhide HV).below (unhide B_9)).below s0)).mono ?_)
      rintro e v1 ⟨u1, rfl, o1, b⟩
      have s1 := bl_st b s0
      have U1 := o1.blm
      clear o1
      clear b
      refine ⟨_, rfl, hK _ _ ⟨s1, ?_⟩⟩
      simp only [Act.put, List.setIfInBounds_toArray, List.set_cons_zero, List.set_cons_succ]
      refine wpAnyH_two (i := 3) (j := 8) (by kernel_rfl) ?_ ?_
      · refine wpOp_step (o := { dst := some 31, op := Op.call { callee := Callee.value (Operand.func 38), args := #[Operand.tmp 30], argTypes := #[52] }, type := 26, pos := "exact.go:3259", after := #[{ on := 2, ground := Ground.data }, { on := 1, ground := Ground.chain }], guard := none }) rfl fun K' hK => step_enterW (by rfl) 38 #[bloV p' wd' a' b'] (by go_simp) ((unhide HTO' (unhide HN') v1 (((unhide HV').below (unhide B_9)).below s1)).mono ?_)
        rintro e v2 ⟨u2, rfl, o2, b⟩
        have s2 := bl_st b s1
        have U1 := U1.below b
        have U2 := o2.blm
        clear o2
        clear b
        refine ⟨_, rfl, hK _ _ ⟨s2, ?_⟩⟩
        simp only [Act.put, List.setIfInBounds_toArray, List.set_cons_zero, List.set_cons_succ]
        refine wpAnyH_two (i := 4) (j := 8) (by kernel_rfl) ?_ ?_
        · refine wpOp_step (o := { dst := some 32, op := Op.call { callee := Callee.value (Operand.func 40), args := #[Operand.tmp 29, Operand.tmp 31], argTypes := #[26, 26] }, type := 28, pos := "exact.go:3259", after := #[{ on := 1, ground := Ground.data }, { on := 3, ground := Ground.data }, { on := 3, ground := Ground.chain }], guard := none }) rfl fun K' hK => step_enterW (by rfl) 40 #[u1, u2] (by go_simp) ((unhide HSP (unhide HN) (unhide HN') u1 u2 v2 U1 U2).mono ?_)
          rintro e v3 ⟨r3, rfl, oR, b⟩
          have s3 := bl_st b s2
          obtain ⟨X1, X2, X3, X4, X5, X6, hre⟩ := oR.slices
          subst hre
          have lR : w2.heap.size ≤ v2.heap.size := s2.size
          have hR : v3.heap.size ≤ v3.heap.size := Nat.le_refl _
          clear b U1 U2
          refine ⟨_, rfl, hK _ _ ⟨s3, ?_⟩⟩
          simp only [Act.put, List.setIfInBounds_toArray, List.set_cons_zero, List.set_cons_succ]
          refine wpAnyH_take (i := 5) (oi := { dst := some 27, op := Op.move (Operand.tmp 32), type := 28, pos := "exact.go:3259", after := #[{ on := 4, ground := Ground.data }], guard := none }) (v := ?_) rfl (by kernel_rfl) (by kernel_rfl) (by kernel_rfl) (fun _ _ _ h => by obtain ⟨_, _, _, _, _, _, _, _, _, h, _⟩ := h; cases h) (Or.inl ⟨by rfl, ?_⟩) s3 ?_
          rotate_left
          · intro W hSw
            go_simp
            try with_reducible rfl
          simp only [Act.put, List.setIfInBounds_toArray, List.set_cons_zero, List.set_cons_succ]
          refine wpAnyH_take (i := 6) (oi := { dst := some 33, op := Op.extract (Operand.tmp 27) 0, type := 26, pos := "exact.go:3259", after := #[{ on := 5, ground := Ground.data }], guard := none }) (v := ?_) rfl (by kernel_rfl) (by kernel_rfl) (by kernel_rfl) (fun _ _ _ h => by obtain ⟨_, _, _, _, _, _, _, _, _, h, _⟩ := h; cases h) (Or.inl ⟨by rfl, ?_⟩) s3 ?_
          rotate_left
          · intro W hSw
            go_simp
            try with_reducible rfl
          simp only [Act.put, List.setIfInBounds_toArray, List.set_cons_zero, List.set_cons_succ]
          refine wpAnyH_take (i := 7) (oi := { dst := some 34, op := Op.extract (Operand.tmp 27) 1, type := 3, pos := "exact.go:3259", after := #[{ on := 5, ground := Ground.data }, { on := 9, ground := Ground.gcOnly Departure.lateStores }], guard := none }) (v := ?_) rfl (by kernel_rfl) (by kernel_rfl) (by kernel_rfl) (fun _ _ _ h => by obtain ⟨_, _, _, _, _, _, _, _, _, h, _⟩ := h; cases h) (Or.inl ⟨by rfl, ?_⟩) s3 ?_
          rotate_left
          · intro W hSw
            go_simp
            try with_reducible rfl
          simp only [Act.put, List.setIfInBounds_toArray, List.set_cons_zero, List.set_cons_succ]
          refine wpAnyH_one (i := 8) (by kernel_rfl) ?_
          have s4 : Below w2.heap.size w2 (v3.alloc (.cells #[.int .i64 0, .int .i64 0, .slice none 0 0, .slice none 0 0] 26)) := bl_al s3
          have b : Below v3.heap.size v3 (v3.alloc (.cells #[.int .i64 0, .int .i64 0, .slice none 0 0, .slice none 0 0] 26)) := bl_al (Below.refl _ _)
          have hW := heap_alloc_new v3 (.cells #[.int .i64 0, .int .i64 0, .slice none 0 0, .slice none 0 0] 26)
          have lW : w2.heap.size ≤ v3.heap.size := s3.size
          have nR : ∀ g, ((Value.slice X1 X2 X3).ownBlock = some g ∨ (Value.slice X4 X5 X6).ownBlock = some g) → v3.heap.size ≠ g := fun g h => by have := oR.liesX g h; omega
          have oR := oR.below b
          have hR := Nat.le_trans hR b.size
          clear b
          refine wpOp_step (o := { dst := some 6, op := Op.alloc 26, type := 0, pos := "exact.go:3259", after := #[], guard := none }) rfl fun K' hK => step_valueW (by rfl) (.pointer (some ⟨v3.heap.size, 0, none⟩)) (v3.alloc (.cells #[.int .i64 0, .int .i64 0, .slice none 0 0, .slice none 0 0] 26)) (by go_simp) ?_
          refine hK _ _ ⟨s4, ?_⟩
          simp only [Act.put, List.setIfInBounds_toArray, List.set_cons_zero, List.set_cons_succ]
          obtain ⟨gW, hgW⟩ : ∃ gW, gW = v3.heap.size := ⟨_, rfl⟩
          rw [← hgW] at hW lW ⊢
          rw [← hgW] at nR
          generalize v3.alloc (.cells #[.int .i64 0, .int .i64 0, .slice none 0 0, .slice none 0 0] 26) = v4 at *
          clear hgW
          have x0 : v4.cell? ⟨gW, 0, none⟩ = some (.int .i64 0) := row_cell hW
          have x1 : v4.cell? ⟨gW, 1, none⟩ = some (.int .i64 0) := row_cell hW
          have x2 : v4.cell? ⟨gW, 2, none⟩ = some (.slice none 0 0) := row_cell hW
          have x3 : v4.cell? ⟨gW, 3, none⟩ = some (.slice none 0 0) := row_cell hW
          have y0 : v4.frozen? ⟨gW, 0, none⟩ = false := row_free hW
          have y1 : v4.frozen? ⟨gW, 1, none⟩ = false := row_free hW
          have y2 : v4.frozen? ⟨gW, 2, none⟩ = false := row_free hW
          have y3 : v4.frozen? ⟨gW, 3, none⟩ = false := row_free hW
          have z5 : Below w2.heap.size w2 (put4 v4 gW y.p y.w (.slice X1 X2 X3) (.slice X4 X5 X6)) := bl_put4 s4 lW
          refine wpAnyH_one (i := 9) (by kernel_rfl) ?_
          refine wpOp_step (o := { dst := none, op := Op.store 26 (Operand.tmp 6) (Operand.tmp 33), type := 0, pos := "exact.go:3259", after := #[{ on := 8, ground := Ground.data }, { on := 6, ground := Ground.data }, { on := 4, ground := Ground.chain }, { on := 0, ground := Ground.phase }, { on := 1, ground := Ground.phase }, { on := 2, ground := Ground.phase }, { on := 3, ground := Ground.phase }, { on := 4, ground := Ground.phase }, { on := 5, ground := Ground.phase }, { on := 6, ground := Ground.phase }, { on := 7, ground := Ground.textOnly Departure.lateStores }, { on := 8, ground := Ground.phase }], guard := none }) rfl fun K' hK => step_skipW (by rfl) (put4 v4 gW y.p y.w (.slice X1 X2 X3) (.slice X4 X5 X6)) (by go_simp) ?_
          refine hK _ _ ⟨z5, ?_⟩
          try simp only [Act.put]
          refine wpAnyH_take (i := 10) (oi := { dst := some 7, op := Op.assign (Operand.tmp 34), type := 3, pos := "exact.go:3259", after := #[{ on := 7, ground := Ground.data }, { on := 9, ground := Ground.chain }, { on := 0, ground := Ground.phase }, { on := 1, ground := Ground.phase }, { on := 2, ground := Ground.phase }, { on := 3, ground := Ground.phase }, { on := 4, ground := Ground.phase }, { on := 5, ground := Ground.phase }, { on := 6, ground := Ground.phase }, { on := 7, ground := Ground.phase }, { on := 8, ground := Ground.phase }, { on := 9, ground := Ground.phase }], guard := none }) (v := ?_) rfl (by kernel_rfl) (by kernel_rfl) (by kernel_rfl) (fun _ _ _ h => by obtain ⟨_, _, _, _, _, _, _, _, _, h, _⟩ := h; cases h) (Or.inl ⟨by rfl, ?_⟩) z5 ?_
          rotate_left
          · intro W hSw
            go_simp
            try with_reducible rfl
          simp only [Act.put, List.setIfInBounds_toArray, List.set_cons_zero, List.set_cons_succ]
          refine wpAnyH_done (by kernel_rfl) ?_ _
          refine ⟨X1, X2, X3, X4, X5, X6, u1, u2, gW, rfl, rfl, ?_, ?_, lW, ?_, z5⟩
          · refine (oR.loneX (lone_put4 v4 gW y.p y.w _ _) nR).wide lR ?_
            rw [size_put4]; exact hR
          · exact bc_row (row_put4 hW y.p y.w _ _)
          · rw [size_put4]; exact (Array.getElem?_eq_some_iff.1 hW).1
        · have s3 : Below w2.heap.size w2 (v2.alloc (.cells #[.int .i64 0, .int .i64 0, .slice none 0 0, .slice none 0 0] 26)) := bl_al s2
          have b : Below v2.heap.size v2 (v2.alloc (.cells #[.int .i64 0, .int .i64 0, .slice none 0 0, .slice none 0 0] 26)) := bl_al (Below.refl _ _)
          have hW := heap_alloc_new v2 (.cells #[.int .i64 0, .int .i64 0, .slice none 0 0, .slice none 0 0] 26)
          have lW : w2.heap.size ≤ v2.heap.size := s2.size
          have U1 := U1.below b
          have U2 := U2.below b
          clear b
          refine wpOp_step (o := { dst := some 6, op := Op.alloc 26, type := 0, pos := "exact.go:3259", after := #[], guard := none }) rfl fun K' hK => step_valueW (by rfl) (.pointer (some ⟨v2.heap.size, 0, none⟩)) (v2.alloc (.cells #[.int .i64 0, .int .i64 0, .slice none 0 0, .slice none 0 0] 26)) (by go_simp) ?_
          refine hK _ _ ⟨s3, ?_⟩
          simp only [Act.put, List.setIfInBounds_toArray, List.set_cons_zero, List.set_cons_succ]
          obtain ⟨gW, hgW⟩ : ∃ gW, gW = v2.heap.size := ⟨_, rfl⟩
          rw [← hgW] at hW lW ⊢
          generalize v2.alloc (.cells #[.int .i64 0, .int .i64 0, .slice none 0 0, .slice none 0 0] 26) = v3 at *
          clear hgW
          refine wpAnyH_one (i := 4) (by kernel_rfl) ?_
          refine wpOp_step (o := { dst := some 32, op := Op.call { callee := Callee.value (Operand.func 40), args := #[Operand.tmp 29, Operand.tmp 31], argTypes := #[26, 26] }, type := 28, pos := "exact.go:3259", after := #[{ on := 1, ground := Ground.data }, { on := 3, ground := Ground.data }, { on := 3, ground := Ground.chain }], guard := none }) rfl fun K' hK => step_enterW (by rfl) 40 #[u1, u2] (by go_simp) ((unhide HSP (unhide HN) (unhide HN') u1 u2 v3 U1 U2).mono ?_)
          rintro e v4 ⟨r3, rfl, oR, b⟩
          have s4 := bl_st b s3
          obtain ⟨X1, X2, X3, X4, X5, X6, hre⟩ := oR.slices
          subst hre
          have lR : w2.heap.size ≤ v3.heap.size := s3.size
          have hR : v4.heap.size ≤ v4.heap.size := Nat.le_refl _
          have jW := (Array.getElem?_eq_some_iff.1 hW).1
          have nR : ∀ g, ((Value.slice X1 X2 X3).ownBlock = some g ∨ (Value.slice X4 X5 X6).ownBlock = some g) → gW ≠ g := fun g h => by have := oR.liesX g h; omega
          have hW := (b.block _ (Array.getElem?_eq_some_iff.1 hW).1).trans hW
          clear b U1 U2
          refine ⟨_, rfl, hK _ _ ⟨s4, ?_⟩⟩
          simp only [Act.put, List.setIfInBounds_toArray, List.set_cons_zero, List.set_cons_succ]
          refine wpAnyH_take (i := 5) (oi := { dst := some 27, op := Op.move (Operand.tmp 32), type := 28, pos := "exact.go:3259", after := #[{ on := 4, ground := Ground.data }], guard := none }) (v := ?_) rfl (by kernel_rfl) (by kernel_rfl) (by kernel_rfl) (fun _ _ _ h => by obtain ⟨_, _, _, _, _, _, _, _, _, h, _⟩ := h; cases h) (Or.inl ⟨by rfl, ?_⟩) s4 ?_
          rotate_left
          · intro W hSw
            go_simp
            try with_reducible rfl
          simp only [Act.put, List.setIfInBounds_toArray, List.set_cons_zero, List.set_cons_succ]
          refine wpAnyH_take (i := 6) (oi := { dst := some 33, op := Op.extract (Operand.tmp 27) 0, type := 26, pos := "exact.go:3259", after := #[{ on := 5, ground := Ground.data }], guard := none }) (v := ?_) rfl (by kernel_rfl) (by kernel_rfl) (by kernel_rfl) (fun _ _ _ h => by obtain ⟨_, _, _, _, _, _, _, _, _, h, _⟩ := h; cases h) (Or.inl ⟨by rfl, ?_⟩) s4 ?_
          rotate_left
          · intro W hSw
            go_simp
            try with_reducible rfl
          simp only [Act.put, List.setIfInBounds_toArray, List.set_cons_zero, List.set_cons_succ]
          refine wpAnyH_take (i := 7) (oi := { dst := some 34, op := Op.extract (Operand.tmp 27) 1, type := 3, pos := "exact.go:3259", after := #[{ on := 5, ground := Ground.data }, { on := 9, ground := Ground.gcOnly Departure.lateStores }], guard := none }) (v := ?_) rfl (by kernel_rfl) (by kernel_rfl) (by kernel_rfl) (fun _ _ _ h => by obtain ⟨_, _, _, _, _, _, _, _, _, h, _⟩ := h; cases h) (Or.inl ⟨by rfl, ?_⟩) s4 ?_
          rotate_left
          · intro W hSw
            go_simp
            try with_reducible rfl
          simp only [Act.put, List.setIfInBounds_toArray, List.set_cons_zero, List.set_cons_succ]
          have x0 : v4.cell? ⟨gW, 0, none⟩ = some (.int .i64 0) := row_cell hW
          have x1 : v4.cell? ⟨gW, 1, none⟩ = some (.int .i64 0) := row_cell hW
          have x2 : v4.cell? ⟨gW, 2, none⟩ = some (.slice none 0 0) := row_cell hW
          have x3 : v4.cell? ⟨gW, 3, none⟩ = some (.slice none 0 0) := row_cell hW
          have y0 : v4.frozen? ⟨gW, 0, none⟩ = false := row_free hW
          have y1 : v4.frozen? ⟨gW, 1, none⟩ = false := row_free hW
          have y2 : v4.frozen? ⟨gW, 2, none⟩ = false := row_free hW
          have y3 : v4.frozen? ⟨gW, 3, none⟩ = false := row_free hW
          have z5 : Below w2.heap.size w2 (put4 v4 gW y.p y.w (.slice X1 X2 X3) (.slice X4 X5 X6)) := bl_put4 s4 lW
          refine wpAnyH_one (i := 9) (by kernel_rfl) ?_
          refine wpOp_step (o := { dst := none, op := Op.store 26 (Operand.tmp 6) (Operand.tmp 33), type := 0, pos := "exact.go:3259", after := #[{ on := 8, ground := Ground.data }, { on := 6, ground := Ground.data }, { on := 4, ground := Ground.chain }, { on := 0, ground := Ground.phase }, { on := 1, ground := Ground.phase }, { on := 2, ground := Ground.phase }, { on := 3, ground := Ground.phase }, { on := 4, ground := Ground.phase }, { on := 5, ground := Ground.phase }, { on := 6, ground := Ground.phase }, { on := 7, ground := Ground.textOnly Departure.lateStores }, { on := 8, ground := Ground.phase }], guard := none }) rfl fun K' hK => step_skipW (by rfl) (put4 v4 gW y.p y.w (.slice X1 X2 X3) (.slice X4 X5 X6)) (by go_simp) ?_
          refine hK _ _ ⟨z5, ?_⟩
          try simp only [Act.put]
          refine wpAnyH_take (i := 10) (oi := { dst := some 7, op := Op.assign (Operand.tmp 34), type := 3, pos := "exact.go:3259", after := #[{ on := 7, ground := Ground.data }, { on := 9, ground := Ground.chain }, { on := 0, ground := Ground.phase }, { on := 1, ground := Ground.phase }, { on := 2, ground := Ground.phase }, { on := 3, ground := Ground.phase }, { on := 4, ground := Ground.phase }, { on := 5, ground := Ground.phase }, { on := 6, ground := Ground.phase }, { on := 7, ground := Ground.phase }, { on := 8, ground := Ground.phase }, { on := 9, ground := Ground.phase }], guard := none }) (v := ?_) rfl (by kernel_rfl) (by kernel_rfl) (by kernel_rfl) (fun _ _ _ h => by obtain ⟨_, _, _, _, _, _, _, _, _, h, _⟩ := h; cases h) (Or.inl ⟨by rfl, ?_⟩) z5 ?_
          rotate_left
          · intro W hSw
            go_simp
            try with_reducible rfl
          simp only [Act.put, List.setIfInBounds_toArray, List.set_cons_zero, List.set_cons_succ]
          refine wpAnyH_done (by kernel_rfl) ?_ _
          refine ⟨X1, X2, X3, X4, X5, X6, u1, u2, gW, rfl, rfl, ?_, ?_, lW, ?_, z5⟩
          · refine (oR.loneX (lone_put4 v4 gW y.p y.w _ _) nR).wide lR ?_
            rw [size_put4]; exact hR
          · exact bc_row (row_put4 hW y.p y.w _ _)
          · rw [size_put4]; exact (Array.getElem?_eq_some_iff.1 hW).1
      · have s2 : Below w2.heap.size w2 (v1.alloc (.cells #[.int .i64 0, .int .i64 0, .slice none 0 0, .slice none 0 0] 26)) := bl_al s1
        have b : Below v1.heap.size v1 (v1.alloc (.cells #[.int .i64 0, .int .i64 0, .slice none 0 0, .slice none 0 0] 26)) := bl_al (Below.refl _ _)
        have hW := heap_alloc_new v1 (.cells #[.int .i64 0, .int .i64 0, .slice none 0 0, .slice none 0 0] 26)
        have lW : w2.heap.size ≤ v1.heap.size := s1.size
        have U1 := U1.below b
        clear b
        refine wpOp_step (o := { dst := some 6, op := Op.alloc 26, type := 0, pos := "exact.go:3259", after := #[], guard := none }) rfl fun K' hK => step_valueW (by rfl) (.pointer (some ⟨v1.heap.size, 0, none⟩)) (v1.alloc (.cells #[.int .i64 0, .int .i64 0, .slice none 0 0, .slice none 0 0] 26)) (by go_simp) ?_
        refine hK _ _ ⟨s2, ?_⟩
        simp only [Act.put, List.setIfInBounds_toArray, List.set_cons_zero, List.set_cons_succ]
        obtain ⟨gW, hgW⟩ : ∃ gW, gW = v1.heap.size := ⟨_, rfl⟩
        rw [← hgW] at hW lW ⊢
        generalize v1.alloc (.cells #[.int .i64 0, .int .i64 0, .slice none 0 0, .slice none 0 0] 26) = v2 at *
        clear hgW
        refine wpAnyH_one (i := 3) (by kernel_rfl) ?_
        refine wpOp_step (o := { dst := some 31, op := Op.call { callee := Callee.value (Operand.func 38), args := #[Operand.tmp 30], argTypes := #[52] }, type := 26, pos := "exact.go:3259", after := #[{ on := 2, ground := Ground.data }, { on := 1, ground := Ground.chain }], guard := none }) rfl fun K' hK => step_enterW (by rfl) 38 #[bloV p' wd' a' b'] (by go_simp) ((unhide HTO' (unhide HN') v2 (((unhide HV').below (unhide B_9)).below s2)).mono ?_)
        rintro e v3 ⟨u2, rfl, o2, b⟩
        have s3 := bl_st b s2
        have U1 := U1.below b
        have U2 := o2.blm
        clear o2
        have hW := (b.block _ (Array.getElem?_eq_some_iff.1 hW).1).trans hW
        clear b
        refine ⟨_, rfl, hK _ _ ⟨s3, ?_⟩⟩
        simp only [Act.put, List.setIfInBounds_toArray, List.set_cons_zero, List.set_cons_succ]
        refine wpAnyH_one (i := 4) (by kernel_rfl) ?_
        refine wpOp_step (o := { dst := some 32, op := Op.call { callee := Callee.value (Operand.func 40), args := #[Operand.tmp 29, Operand.tmp 31], argTypes := #[26, 26] }, type := 28, pos := "exact.go:3259", after := #[{ on := 1, ground := Ground.data }, { on := 3, ground := Ground.data }, { on := 3, ground := Ground.chain }], guard := none }) rfl fun K' hK => step_enterW (by rfl) 40 #[u1, u2] (by go_simp) ((unhide HSP (unhide HN) (unhide HN') u1 u2 v3 U1 U2).mono ?_)
        rintro e v4 ⟨r3, rfl, oR, b⟩
        have s4 := bl_st b s3
        obtain ⟨X1, X2, X3, X4, X5, X6, hre⟩ := oR.slices
        subst hre
        have lR : w2.heap.size ≤ v3.heap.size := s3.size
        have hR : v4.heap.size ≤ v4.heap.size := Nat.le_refl _
        have jW := (Array.getElem?_eq_some_iff.1 hW).1
        have nR : ∀ g, ((Value.slice X1 X2 X3).ownBlock = some g ∨ (Value.slice X4 X5 X6).ownBlock = some g) → gW ≠ g := fun g h => by have := oR.liesX g h; omega
        have hW := (b.block _ (Array.getElem?_eq_some_iff.1 hW).1).trans hW
        clear b U1 U2
        refine ⟨_, rfl, hK _ _ ⟨s4, ?_⟩⟩
        simp only [Act.put, List.setIfInBounds_toArray, List.set_cons_zero, List.set_cons_succ]
        refine wpAnyH_take (i := 5) (oi := { dst := some 27, op := Op.move (Operand.tmp 32), type := 28, pos := "exact.go:3259", after := #[{ on := 4, ground := Ground.data }], guard := none }) (v := ?_) rfl (by kernel_rfl) (by kernel_rfl) (by kernel_rfl) (fun _ _ _ h => by obtain ⟨_, _, _, _, _, _, _, _, _, h, _⟩ := h; cases h) (Or.inl ⟨by rfl, ?_⟩) s4 ?_
        rotate_left
        · intro W hSw
          go_simp
          try with_reducible rfl
        simp only [Act.put, List.setIfInBounds_toArray, List.set_cons_zero, List.set_cons_succ]
        refine wpAnyH_take (i := 6) (oi := { dst := some 33, op := Op.extract (Operand.tmp 27) 0, type := 26, pos := "exact.go:3259", after := #[{ on := 5, ground := Ground.data }], guard := none }) (v := ?_) rfl (by kernel_rfl) (by kernel_rfl) (by kernel_rfl) (fun _ _ _ h => by obtain ⟨_, _, _, _, _, _, _, _, _, h, _⟩ := h; cases h) (Or.inl ⟨by rfl, ?_⟩) s4 ?_
        rotate_left
        · intro W hSw
          go_simp
          try with_reducible rfl
        simp only [Act.put, List.setIfInBounds_toArray, List.set_cons_zero, List.set_cons_succ]
        refine wpAnyH_take (i := 7) (oi := { dst := some 34, op := Op.extract (Operand.tmp 27) 1, type := 3, pos := "exact.go:3259", after := #[{ on := 5, ground := Ground.data }, { on := 9, ground := Ground.gcOnly Departure.lateStores }], guard := none }) (v := ?_) rfl (by kernel_rfl) (by kernel_rfl) (by kernel_rfl) (fun _ _ _ h => by obtain ⟨_, _, _, _, _, _, _, _, _, h, _⟩ := h; cases h) (Or.inl ⟨by rfl, ?_⟩) s4 ?_
        rotate_left
        · intro W hSw
          go_simp
          try with_reducible rfl
        simp only [Act.put, List.setIfInBounds_toArray, List.set_cons_zero, List.set_cons_succ]
        have x0 : v4.cell? ⟨gW, 0, none⟩ = some (.int .i64 0) := row_cell hW
        have x1 : v4.cell? ⟨gW, 1, none⟩ = some (.int .i64 0) := row_cell hW
        have x2 : v4.cell? ⟨gW, 2, none⟩ = some (.slice none 0 0) := row_cell hW
        have x3 : v4.cell? ⟨gW, 3, none⟩ = some (.slice none 0 0) := row_cell hW
        have y0 : v4.frozen? ⟨gW, 0, none⟩ = false := row_free hW
        have y1 : v4.frozen? ⟨gW, 1, none⟩ = false := row_free hW
        have y2 : v4.frozen? ⟨gW, 2, none⟩ = false := row_free hW
        have y3 : v4.frozen? ⟨gW, 3, none⟩ = false := row_free hW
        have z5 : Below w2.heap.size w2 (put4 v4 gW y.p y.w (.slice X1 X2 X3) (.slice X4 X5 X6)) := bl_put4 s4 lW
        refine wpAnyH_one (i := 9) (by kernel_rfl) ?_
        refine wpOp_step (o := { dst := none, op := Op.store 26 (Operand.tmp 6) (Operand.tmp 33), type := 0, pos := "exact.go:3259", after := #[{ on := 8, ground := Ground.data }, { on := 6, ground := Ground.data }, { on := 4, ground := Ground.chain }, { on := 0, ground := Ground.phase }, { on := 1, ground := Ground.phase }, { on := 2, ground := Ground.phase }, { on := 3, ground := Ground.phase }, { on := 4, ground := Ground.phase }, { on := 5, ground := Ground.phase }, { on := 6, ground := Ground.phase }, { on := 7, ground := Ground.textOnly Departure.lateStores }, { on := 8, ground := Ground.phase }], guard := none }) rfl fun K' hK => step_skipW (by rfl) (put4 v4 gW y.p y.w (.slice X1 X2 X3) (.slice X4 X5 X6)) (by go_simp) ?_
        refine hK _ _ ⟨z5, ?_⟩
        try simp only [Act.put]
        refine wpAnyH_take (i := 10) (oi := { dst := some 7, op := Op.assign (Operand.tmp 34), type := 3, pos := "exact.go:3259", after := #[{ on := 7, ground := Ground.data }, { on := 9, ground := Ground.chain }, { on := 0, ground := Ground.phase }, { on := 1, ground := Ground.phase }, { on := 2, ground := Ground.phase }, { on := 3, ground := Ground.phase }, { on := 4, ground := Ground.phase }, { on := 5, ground := Ground.phase }, { on := 6, ground := Ground.phase }, { on := 7, ground := Ground.phase }, { on := 8, ground := Ground.phase }, { on := 9, ground := Ground.phase }], guard := none }) (v := ?_) rfl (by kernel_rfl) (by kernel_rfl) (by kernel_rfl) (fun _ _ _ h => by obtain ⟨_, _, _, _, _, _, _, _, _, h, _⟩ := h; cases h) (Or.inl ⟨by rfl, ?_⟩) z5 ?_
        rotate_left
        · intro W hSw
          go_simp
          try with_reducible rfl
        simp only [Act.put, List.setIfInBounds_toArray, List.set_cons_zero, List.set_cons_succ]
        refine wpAnyH_done (by kernel_rfl) ?_ _
        refine ⟨X1, X2, X3, X4, X5, X6, u1, u2, gW, rfl, rfl, ?_, ?_, lW, ?_, z5⟩
        · refine (oR.loneX (lone_put4 v4 gW y.p y.w _ _) nR).wide lR ?_
          rw [size_put4]; exact hR
        · exact bc_row (row_put4 hW y.p y.w _ _)
        · rw [size_put4]; exact (Array.getElem?_eq_some_iff.1 hW).1
    · have s1 : Below w2.heap.size w2 (v0.alloc (.cells #[.int .i64 0, .int .i64 0, .slice none 0 0, .slice none 0 0] 26)) := bl_al s0
      have b : Below v0.heap.size v0 (v0.alloc (.cells #[.int .i64 0, .int .i64 0, .slice none 0 0, .slice none 0 0] 26)) := bl_al (Below.refl _ _)
      have hW := heap_alloc_new v0 (.cells #[.int .i64 0, .int .i64 0, .slice none 0 0, .slice none 0 0] 26)
      have lW : w2.heap.size ≤ v0.heap.size := s0.size
      clear b
      refine wpOp_step (o := { dst := some 6, op := Op.alloc 26, type := 0, pos := "exact.go:3259", after := #[], guard := none }) rfl fun K' hK => step_valueW (by rfl) (.pointer (some ⟨v0.heap.size, 0, none⟩)) (v0.alloc (.cells #[.int .i64 0, .int .i64 0, .slice none 0 0, .slice none 0 0] 26)) (by go_simp) ?_
      refine hK _ _ ⟨s1, ?_⟩
      simp only [Act.put, List.setIfInBounds_toArray, List.set_cons_zero, List.set_cons_succ]
      obtain ⟨gW, hgW⟩ : ∃ gW, gW = v0.heap.size := ⟨_, rfl⟩
      rw [← hgW] at hW lW ⊢
      generalize v0.alloc (.cells #[.int .i64 0, .int .i64 0, .slice none 0 0, .slice none 0 0] 26) = v1 at *
      clear hgW
      refine wpAnyH_one (i := 1) (by kernel_rfl) ?_
      refine wpOp_step (o := { dst := some 29, op := Op.call { callee := Callee.value (Operand.func 38), args := #[Operand.tmp 28], argTypes := #[52] }, type := 26, pos := "exact.go:3259", after := #[{ on := 0, ground := Ground.data }], guard := none }) rfl fun K' hK => step_enterW (by rfl) 38 #[bloV p wd a b] (by go_simp) ((unhide HTO (unhide HN) v1 (((unhide HV).below (unhide B_9)).below s1)).mono ?_)
      rintro e v2 ⟨u1, rfl, o1, b⟩
      have s2 := bl_st b s1
      have U1 := o1.blm
      clear o1
      have hW := (b.block _ (Array.getElem?_eq_some_iff.1 hW).1).trans hW
      clear b
      refine ⟨_, rfl, hK _ _ ⟨s2, ?_⟩⟩
      simp only [Act.put, List.setIfInBounds_toArray, List.set_cons_zero, List.set_cons_succ]
      refine wpAnyH_one (i := 3) (by kernel_rfl) ?_
      refine wpOp_step (o := { dst := some 31, op := Op.call { callee := Callee.value (Operand.func 38), args := #[Operand.tmp 30], argTypes := #[52] }, type := 26, pos := "exact.go:3259", after := #[{ on := 2, ground := Ground.data }, { on := 1, ground := Ground.chain }], guard := none }) rfl fun K' hK => step_enterW (by rfl) 38 #[bloV p' wd' a' b'] (by go_simp) ((unhide HTO' (unhide HN') v2 (((unhide HV').below (unhide B_9)).below s2)).mono ?_)
      rintro e v3 ⟨u2, rfl, o2, b⟩
      have s3 := bl_st b s2
      have U1 := U1.below b
      have U2 := o2.blm
      clear o2
      have hW := (b.block _ (Array.getElem?_eq_some_iff.1 hW).1).trans hW
      clear b
      refine ⟨_, rfl, hK _ _ ⟨s3, ?_⟩⟩
      simp only [Act.put, List.setIfInBounds_toArray, List.set_cons_zero, List.set_cons_succ]
      refine wpAnyH_one (i := 4) (by kernel_rfl) ?_
      refine wpOp_step (o := { dst := some 32, op := Op.call { callee := Callee.value (Operand.func 40), args := #[Operand.tmp 29, Operand.tmp 31], argTypes := #[26, 26] }, type := 28, pos := "exact.go:3259", after := #[{ on := 1, ground := Ground.data }, { on := 3, ground := Ground.data }, { on := 3, ground := Ground.chain }], guard := none }) rfl fun K' hK => step_enterW (by rfl) 40 #[u1, u2] (by go_simp) ((unhide HSP (unhide HN) (unhide HN') u1 u2 v3 U1 U2).mono ?_)
      rintro e v4 ⟨r3, rfl, oR, b⟩
      have s4 := bl_st b s3
      obtain ⟨X1, X2, X3, X4, X5, X6, hre⟩ := oR.slices
      subst hre
      have lR : w2.heap.size ≤ v3.heap.size := s3.size
      have hR : v4.heap.size ≤ v4.heap.size := Nat.le_refl _
      have jW := (Array.getElem?_eq_some_iff.1 hW).1
      have nR : ∀ g, ((Value.slice X1 X2 X3).ownBlock = some g ∨ (Value.slice X4 X5 X6).ownBlock = some g) → gW ≠ g := fun g h => by have := oR.liesX g h; omega
      have hW := (b.block _ (Array.getElem?_eq_some_iff.1 hW).1).trans hW
      clear b U1 U2
      refine ⟨_, rfl, hK _ _ ⟨s4, ?_⟩⟩
      simp only [Act.put, List.setIfInBounds_toArray, List.set_cons_zero, List.set_cons_succ]
      refine wpAnyH_take (i := 5) (oi := { dst := some 27, op := Op.move (Operand.tmp 32), type := 28, pos := "exact.go:3259", after := #[{ on := 4, ground := Ground.data }], guard := none }) (v := ?_) rfl (by kernel_rfl) (by kernel_rfl) (by kernel_rfl) (fun _ _ _ h => by obtain ⟨_, _, _, _, _, _, _, _, _, h, _⟩ := h; cases h) (Or.inl ⟨by rfl, ?_⟩) s4 ?_
      rotate_left
      · intro W hSw
        go_simp
        try with_reducible rfl
      simp only [Act.put, List.setIfInBounds_toArray, List.set_cons_zero, List.set_cons_succ]
      refine wpAnyH_take (i := 6) (oi := { dst := some 33, op := Op.extract (Operand.tmp 27) 0, type := 26, pos := "exact.go:3259", after := #[{ on := 5, ground := Ground.data }], guard := none }) (v := ?_) rfl (by kernel_rfl) (by kernel_rfl) (by kernel_rfl) (fun _ _ _ h => by obtain ⟨_, _, _, _, _, _, _, _, _, h, _⟩ := h; cases h) (Or.inl ⟨by rfl, ?_⟩) s4 ?_
      rotate_left
      · intro W hSw
        go_simp
        try with_reducible rfl
      simp only [Act.put, List.setIfInBounds_toArray, List.set_cons_zero, List.set_cons_succ]
      refine wpAnyH_take (i := 7) (oi := { dst := some 34, op := Op.extract (Operand.tmp 27) 1, type := 3, pos := "exact.go:3259", after := #[{ on := 5, ground := Ground.data }, { on := 9, ground := Ground.gcOnly Departure.lateStores }], guard := none }) (v := ?_) rfl (by kernel_rfl) (by kernel_rfl) (by kernel_rfl) (fun _ _ _ h => by obtain ⟨_, _, _, _, _, _, _, _, _, h, _⟩ := h; cases h) (Or.inl ⟨by rfl, ?_⟩) s4 ?_
      rotate_left
      · intro W hSw
        go_simp
        try with_reducible rfl
      simp only [Act.put, List.setIfInBounds_toArray, List.set_cons_zero, List.set_cons_succ]
      have x0 : v4.cell? ⟨gW, 0, none⟩ = some (.int .i64 0) := row_cell hW
      have x1 : v4.cell? ⟨gW, 1, none⟩ = some (.int .i64 0) := row_cell hW
      have x2 : v4.cell? ⟨gW, 2, none⟩ = some (.slice none 0 0) := row_cell hW
      have x3 : v4.cell? ⟨gW, 3, none⟩ = some (.slice none 0 0) := row_cell hW
      have y0 : v4.frozen? ⟨gW, 0, none⟩ = false := row_free hW
      have y1 : v4.frozen? ⟨gW, 1, none⟩ = false := row_free hW
      have y2 : v4.frozen? ⟨gW, 2, none⟩ = false := row_free hW
      have y3 : v4.frozen? ⟨gW, 3, none⟩ = false := row_free hW
      have z5 : Below w2.heap.size w2 (put4 v4 gW y.p y.w (.slice X1 X2 X3) (.slice X4 X5 X6)) := bl_put4 s4 lW
      refine wpAnyH_one (i := 9) (by kernel_rfl) ?_
      refine wpOp_step (o := { dst := none, op := Op.store 26 (Operand.tmp 6) (Operand.tmp 33), type := 0, pos := "exact.go:3259", after := #[{ on := 8, ground := Ground.data }, { on := 6, ground := Ground.data }, { on := 4, ground := Ground.chain }, { on := 0, ground := Ground.phase }, { on := 1, ground := Ground.phase }, { on := 2, ground := Ground.phase }, { on := 3, ground := Ground.phase }, { on := 4, ground := Ground.phase }, { on := 5, ground := Ground.phase }, { on := 6, ground := Ground.phase }, { on := 7, ground := Ground.textOnly Departure.lateStores }, { on := 8, ground := Ground.phase }], guard := none }) rfl fun K' hK => step_skipW (by rfl) (put4 v4 gW y.p y.w (.slice X1 X2 X3) (.slice X4 X5 X6)) (by go_simp) ?_
      refine hK _ _ ⟨z5, ?_⟩
      try simp only [Act.put]
      refine wpAnyH_take (i := 10) (oi := { dst := some 7, op := Op.assign (Operand.tmp 34), type := 3, pos := "exact.go:3259", after := #[{ on := 7, ground := Ground.data }, { on := 9, ground := Ground.chain }, { on := 0, ground := Ground.phase }, { on := 1, ground := Ground.phase }, { on := 2, ground := Ground.phase }, { on := 3, ground := Ground.phase }, { on := 4, ground := Ground.phase }, { on := 5, ground := Ground.phase }, { on := 6, ground := Ground.phase }, { on := 7, ground := Ground.phase }, { on := 8, ground := Ground.phase }, { on := 9, ground := Ground.phase }], guard := none }) (v := ?_) rfl (by kernel_rfl) (by kernel_rfl) (by kernel_rfl) (fun _ _ _ h => by obtain ⟨_, _, _, _, _, _, _, _, _, h, _⟩ := h; cases h) (Or.inl ⟨by rfl, ?_⟩) z5 ?_
      rotate_left
      · intro W hSw
        go_simp
        try with_reducible rfl
      simp only [Act.put, List.setIfInBounds_toArray, List.set_cons_zero, List.set_cons_succ]
      refine wpAnyH_done (by kernel_rfl) ?_ _
      refine ⟨X1, X2, X3, X4, X5, X6, u1, u2, gW, rfl, rfl, ?_, ?_, lW, ?_, z5⟩
      · refine (oR.loneX (lone_put4 v4 gW y.p y.w _ _) nR).wide lR ?_
        rw [size_put4]; exact hR
      · exact bc_row (row_put4 hW y.p y.w _ _)
      · rw [size_put4]; exact (Array.getElem?_eq_some_iff.1 hW).1
  rintro e aQ w5 ⟨S1, S2, S3, S4, S5, S6, t1, t2, gV, rfl, rfl, ow, cw, lW, jW, b5⟩
  have B_13 := hide (bl_st b5 (unhide B_9))
  have Q_14 := hide ((unhide Q_10).below b5)
  have P_15 := hide ((unhide P_11).below b5)
  have Z16 := hide b5.size
  clear B_9 Q_10 P_11
  have OW0 := hide ow
  have CW0 := hide cw
  have LW := hide lW
  have JW := hide jW
  clear ow cw lW jW b5
  obtain ⟨_, c17, c18, c19, c20⟩ := unhide Q_14
  go_wp2_with fail
  refine (unhide HTO (unhide HN) w5 ((unhide HV).below (unhide B_13))).mono ?_
  rintro e w6 ⟨u6, rfl, o6, b6⟩
  obtain ⟨a6, b6v, rfl, oa6, ob6, hd6⟩ := o6
  obtain ⟨A6, ca6, rfl⟩ := oa6.salts.slice
  obtain ⟨B6, cb6, rfl⟩ := ob6.bools.slice
  dsimp only at oa6 ob6
  clear c17 c18 c19 c20
  have B_21 := hide (bl_st b6 (unhide B_13))
  have Q_22 := hide ((unhide Q_14).below b6)
  have P_23 := hide ((unhide P_15).below b6)
  have OW_24 := hide ((unhide OW0).below b6)
  have WC_25 := hide ((unhide CW0).below b6)
  have Z26 := hide b6.size
  clear B_13 Q_14 P_15 OW0 CW0
  have OX0 : Hid (ownX w5.heap.size w6.heap.size w6 (bloV p wd (.slice A6 ss.length ca6) (.slice B6 bs.length cb6)) ⟨p, wd, ss, bs⟩) := hide ⟨_, _, rfl, oa6, ob6, hd6⟩
  clear oa6 ob6 hd6 b6
  have ba : Below w6.heap.size w6 (w6.alloc (.cells #[.int .i64 p, .int .i64 wd, .slice A6 ss.length ca6, .slice B6 bs.length cb6] 26)) := bl_al (Below.refl _ _)
  have C28 := hide (bc_new w6 p wd (.slice A6 ss.length ca6) (.slice B6 bs.length cb6) 26)
  have Z29 : Hid ((w6.alloc (.cells #[.int .i64 p, .int .i64 wd, .slice A6 ss.length ca6, .slice B6 bs.length cb6] 26)).heap.size = w6.heap.size + 1) := hide (by simp)
  have B_30 := hide (bl_st ba (unhide B_21))
  have Q_31 := hide ((unhide Q_22).below ba)
  have P_32 := hide ((unhide P_23).below ba)
  have OW_33 := hide ((unhide OW_24).below ba)
  have WC_34 := hide ((unhide WC_25).below ba)
  have OX_35 := hide ((unhide OX0).below ba)
  have Z36 := hide ba.size
  clear B_21 Q_22 P_23 OW_24 WC_25 OX0
  clear ba
  obtain ⟨_, c37, c38, c39, c40⟩ := unhide C28
  obtain ⟨_, c41, c42, c43, c44⟩ := unhide P_32
  go_wp2_with fail
  generalize w6.alloc (.cells #[.int .i64 p, .int .i64 wd, .slice A6 ss.length ca6, .slice B6 bs.length cb6] 26) = v27 at *
  refine (unhide HTO' (unhide HN') v27 ((unhide HV').below (unhide B_30))).mono ?_
  rintro e w7 ⟨u7, rfl, o7, b7⟩
  obtain ⟨a7, b7v, rfl, oa7, ob7, hd7⟩ := o7
  obtain ⟨A7, ca7, rfl⟩ := oa7.salts.slice
  obtain ⟨B7, cb7, rfl⟩ := ob7.bools.slice
  dsimp only at oa7 ob7
  clear c37 c38 c39 c40 c41 c42 c43 c44
  have B_45 := hide (bl_st b7 (unhide B_30))
  have Q_46 := hide ((unhide Q_31).below b7)
  have P_47 := hide ((unhide P_32).below b7)
  have OW_48 := hide ((unhide OW_33).below b7)
  have WC_49 := hide ((unhide WC_34).below b7)
  have OX_50 := hide ((unhide OX_35).below b7)
  have XC_51 := hide ((unhide C28).below b7)
  have Z52 := hide b7.size
  clear B_30 Q_31 P_32 OW_33 WC_34 OX_35 C28
  have OY0 : Hid (ownX v27.heap.size w7.heap.size w7 (bloV p' wd' (.slice A7 ss'.length ca7) (.slice B7 bs'.length cb7)) ⟨p', wd', ss', bs'⟩) := hide ⟨_, _, rfl, oa7, ob7, hd7⟩
  clear oa7 ob7 hd7 b7
  have ba : Below w7.heap.size w7 (w7.alloc (.cells #[.int .i64 p', .int .i64 wd', .slice A7 ss'.length ca7, .slice B7 bs'.length cb7] 26)) := bl_al (Below.refl _ _)
  have C54 := hide (bc_new w7 p' wd' (.slice A7 ss'.length ca7) (.slice B7 bs'.length cb7) 26)
  have Z55 : Hid ((w7.alloc (.cells #[.int .i64 p', .int .i64 wd', .slice A7 ss'.length ca7, .slice B7 bs'.length cb7] 26)).heap.size = w7.heap.size + 1) := hide (by simp)
  have B_56 := hide (bl_st ba (unhide B_45))
  have Q_57 := hide ((unhide Q_46).below ba)
  have P_58 := hide ((unhide P_47).below ba)
  have OW_59 := hide ((unhide OW_48).below ba)
  have WC_60 := hide ((unhide WC_49).below ba)
  have OX_61 := hide ((unhide OX_50).below ba)
  have XC_62 := hide ((unhide XC_51).below ba)
  have OY_63 := hide ((unhide OY0).below ba)
  have Z64 := hide ba.size
  clear B_45 Q_46 P_47 OW_48 WC_49 OX_50 XC_51 OY0
  clear ba
  obtain ⟨_, c65, c66, c67, c68⟩ := unhide C54
  obtain ⟨_, c69, c70, c71, c72⟩ := unhide XC_62
  go_wp2_with fail
  generalize w7.alloc (.cells #[.int .i64 p', .int .i64 wd', .slice A7 ss'.length ca7, .slice B7 bs'.length cb7] 26) = v53 at *
  refine (unhide HIM (unhide HN) (unhide HN') _ _ v53 (unhide OX_61).blm (unhide OY_63).blm).mono ?_
  rintro e w8 ⟨r8, rfl, o8, b8⟩
  obtain ⟨D73, D74, D75, D76, D77, D78, hre⟩ := o8.slices
  subst hre
  clear c65 c66 c67 c68 c69 c70 c71 c72
  have B_79 := hide (bl_st b8 (unhide B_56))
  have Q_80 := hide ((unhide Q_57).below b8)
  have P_81 := hide ((unhide P_58).below b8)
  have OW_82 := hide ((unhide OW_59).below b8)
  have WC_83 := hide ((unhide WC_60).below b8)
  have OX_84 := hide ((unhide OX_61).below b8)
  have XC_85 := hide ((unhide XC_62).below b8)
  have OY_86 := hide ((unhide OY_63).below b8)
  have YC_87 := hide ((unhide C54).below b8)
  have Z88 := hide b8.size
  clear B_56 Q_57 P_58 OW_59 WC_60 OX_61 XC_62 OY_63 C54
  have OG0 := hide o8
  clear o8 b8
  have ba : Below w8.heap.size w8 (w8.alloc (.cells #[.int .i64 y.p, .int .i64 y.w, .slice D73 D74 D75, .slice D76 D77 D78] 26)) := bl_al (Below.refl _ _)
  have C90 := hide (bc_new w8 y.p y.w (.slice D73 D74 D75) (.slice D76 D77 D78) 26)
  have Z91 : Hid ((w8.alloc (.cells #[.int .i64 y.p, .int .i64 y.w, .slice D73 D74 D75, .slice D76 D77 D78] 26)).heap.size = w8.heap.size + 1) := hide (by simp)
  have B_92 := hide (bl_st ba (unhide B_79))
  have Q_93 := hide ((unhide Q_80).below ba)
  have P_94 := hide ((unhide P_81).below ba)
  have OW_95 := hide ((unhide OW_82).below ba)
  have WC_96 := hide ((unhide WC_83).below ba)
  have OX_97 := hide ((unhide OX_84).below ba)
  have XC_98 := hide ((unhide XC_85).below ba)
  have OY_99 := hide ((unhide OY_86).below ba)
  have YC_100 := hide ((unhide YC_87).below ba)
  have OG_101 := hide ((unhide OG0).below ba)
  have Z102 := hide ba.size
  clear B_79 Q_80 P_81 OW_82 WC_83 OX_84 XC_85 OY_86 YC_87 OG0
  clear ba
  obtain ⟨_, c103, c104, c105, c106⟩ := unhide C90
  obtain ⟨_, c107, c108, c109, c110⟩ := unhide WC_96
  go_wp2_with fail
  generalize w8.alloc (.cells #[.int .i64 y.p, .int .i64 y.w, .slice D73 D74 D75, .slice D76 D77 D78] 26) = v89 at *
  refine (unhide HEY _ _ v89 (unhide OG_101).blm (unhide OW_95).blm).mono ?_
  rintro e w9 ⟨rfl, b9⟩
  clear c103 c104 c105 c106 c107 c108 c109 c110
  have B_111 := hide (bl_st b9 (unhide B_92))
  have Q_112 := hide ((unhide Q_93).below b9)
  have P_113 := hide ((unhide P_94).below b9)
  have OW_114 := hide ((unhide OW_95).below b9)
  have WC_115 := hide ((unhide WC_96).below b9)
  have OX_116 := hide ((unhide OX_97).below b9)
  have XC_117 := hide ((unhide XC_98).below b9)
  have OY_118 := hide ((unhide OY_99).below b9)
  have YC_119 := hide ((unhide YC_100).below b9)
  have OG_120 := hide ((unhide OG_101).below b9)
  have GC_121 := hide ((unhide C90).below b9)
  have Z122 := hide b9.size
  clear B_92 Q_93 P_94 OW_95 WC_96 OX_97 XC_98 OY_99 YC_100 OG_101 C90
  clear b9
  go_wp2
  refine wp_region_held (S := fun W' => Below w9.heap.size w9 W') (by kernel_rfl) ?_
  have hS0 : Below w9.heap.size w9 { w9 with drawn := w9.drawn + 1 } := below_drewN (Below.refl _ _) 1
  refine wpAnyH_take (i := 0) (oi := { dst := some 54, op := Op.load 26 (Operand.tmp 8), type := 26, pos := "exact.go:3266", after := #[], guard := none }) (v := ?_) rfl (by kernel_rfl) (by kernel_rfl) (by kernel_rfl) (fun _ _ _ h => h) (Or.inl ⟨by rfl, ?_⟩) hS0 ?_
  rotate_left
  · intro W hSw
    obtain ⟨_, c0, c1, c2, c3⟩ := (unhide Q_112).below hSw
    obtain ⟨_, d0, d1, d2, d3⟩ := (unhide XC_117).below hSw
    go_simp
    try with_reducible rfl
  simp only [Act.put, List.setIfInBounds_toArray, List.set_cons_zero, List.set_cons_succ]
  refine wpAnyH_take (i := 1) (oi := { dst := some 55, op := Op.load 52 (Operand.tmp 2), type := 52, pos := "exact.go:3266", after := #[], guard := none }) (v := ?_) rfl (by kernel_rfl) (by kernel_rfl) (by kernel_rfl) (fun _ _ _ h => h) (Or.inl ⟨by rfl, ?_⟩) hS0 ?_
  rotate_left
  · intro W hSw
    obtain ⟨_, c0, c1, c2, c3⟩ := (unhide Q_112).below hSw
    obtain ⟨_, d0, d1, d2, d3⟩ := (unhide XC_117).below hSw
    go_simp
    try with_reducible rfl
  simp only [Act.put, List.setIfInBounds_toArray, List.set_cons_zero, List.set_cons_succ]
  refine wpAnyH_one (i := 2) (by kernel_rfl) ?_
  refine wpOp_step (o := { dst := some 56, op := Op.call { callee := Callee.value (Operand.func 38), args := #[Operand.tmp 55], argTypes := #[52] }, type := 26, pos := "exact.go:3266", after := #[{ on := 1, ground := Ground.data }], guard := none }) rfl fun K' hK => step_enterW (by rfl) 38 #[bloV p wd a b] (by go_simp) ((unhide HTO (unhide HN) _ (((unhide HV).below (unhide B_111)).below hS0)).mono ?_)
  rintro e w10 ⟨q14, rfl, o7, b7⟩
  have s7 := bl_st b7 hS0
  have U7 := hide ((unhide OX_116).below s7).blm
  have V7 := hide o7.blm
  clear b7 o7
  refine ⟨_, rfl, hK _ _ ⟨s7, ?_⟩⟩
  simp only [Act.put, List.setIfInBounds_toArray, List.set_cons_zero, List.set_cons_succ]
  refine wpAnyH_one (i := 3) (by kernel_rfl) ?_
  refine wpOp_step (o := { dst := some 57, op := Op.call { callee := Callee.value (Operand.func 31), args := #[Operand.tmp 54, Operand.tmp 56], argTypes := #[26, 26] }, type := 4, pos := "exact.go:3266", after := #[{ on := 0, ground := Ground.data }, { on := 2, ground := Ground.data }, { on := 2, ground := Ground.chain }], guard := none }) rfl fun K' hK => step_enterW (by rfl) 31 #[bloV p wd (.slice A6 ss.length ca6) (.slice B6 bs.length cb6), q14] (by go_simp) ((unhide HEQ (unhide HN) _ _ _ (unhide U7) (unhide V7)).mono ?_)
  rintro e w11 ⟨rfl, b8⟩
  have s8 := bl_st b8 s7
  clear b8
  refine ⟨_, rfl, hK _ _ ⟨s8, ?_⟩⟩
  simp only [Act.put, List.setIfInBounds_toArray, List.set_cons_zero, List.set_cons_succ]
  refine wpAnyH_take (i := 4) (oi := { dst := some 58, op := Op.unOp UnOp.not 4 (Operand.tmp 57), type := 4, pos := "exact.go:3266", after := #[{ on := 3, ground := Ground.data }], guard := none }) (v := ?_) rfl (by kernel_rfl) (by kernel_rfl) (by kernel_rfl) (fun _ _ _ h => h) (Or.inl ⟨by rfl, ?_⟩) s8 ?_
  rotate_left
  · intro W hSw
    go_simp
    try with_reducible rfl
  simp only [Act.put, List.setIfInBounds_toArray, List.set_cons_zero, List.set_cons_succ]
  refine wpAnyH_done (by kernel_rfl) ?_ _
  have B_123 := hide (bl_st s8 (unhide B_111))
  have Q_124 := hide ((unhide Q_112).below s8)
  have P_125 := hide ((unhide P_113).below s8)
  have OW_126 := hide ((unhide OW_114).below s8)
  have WC_127 := hide ((unhide WC_115).below s8)
  have OX_128 := hide ((unhide OX_116).below s8)
  have XC_129 := hide ((unhide XC_117).below s8)
  have OY_130 := hide ((unhide OY_118).below s8)
  have YC_131 := hide ((unhide YC_119).below s8)
  have OG_132 := hide ((unhide OG_120).below s8)
  have GC_133 := hide ((unhide GC_121).below s8)
  have Z134 := hide s8.size
  clear B_111 Q_112 P_113 OW_114 WC_115 OX_116 XC_117 OY_118 YC_119 OG_120 GC_121
  clear s8 s7 hS0 U7 V7
  go_wp2
  refine wp_region_held (S := fun W' => Below w11.heap.size w11 W') (by kernel_rfl) ?_
  have hS0 : Below w11.heap.size w11 { w11 with drawn := w11.drawn + 1 } := below_drewN (Below.refl _ _) 1
  refine wpAnyH_take (i := 0) (oi := { dst := some 59, op := Op.load 26 (Operand.tmp 9), type := 26, pos := "exact.go:3269", after := #[], guard := none }) (v := ?_) rfl (by kernel_rfl) (by kernel_rfl) (by kernel_rfl) (fun _ _ _ h => h) (Or.inl ⟨by rfl, ?_⟩) hS0 ?_
  rotate_left
  · intro W hSw
    obtain ⟨_, c0, c1, c2, c3⟩ := (unhide P_125).below hSw
    obtain ⟨_, d0, d1, d2, d3⟩ := (unhide YC_131).below hSw
    go_simp
    try with_reducible rfl
  simp only [Act.put, List.setIfInBounds_toArray, List.set_cons_zero, List.set_cons_succ]
  refine wpAnyH_take (i := 1) (oi := { dst := some 60, op := Op.load 52 (Operand.tmp 3), type := 52, pos := "exact.go:3269", after := #[], guard := none }) (v := ?_) rfl (by kernel_rfl) (by kernel_rfl) (by kernel_rfl) (fun _ _ _ h => h) (Or.inl ⟨by rfl, ?_⟩) hS0 ?_
  rotate_left
  · intro W hSw
    obtain ⟨_, c0, c1, c2, c3⟩ := (unhide P_125).below hSw
    obtain ⟨_, d0, d1, d2, d3⟩ := (unhide YC_131).below hSw
    go_simp
    try with_reducible rfl
  simp only [Act.put, List.setIfInBounds_toArray, List.set_cons_zero, List.set_cons_succ]
  refine wpAnyH_one (i := 2) (by kernel_rfl) ?_
  refine wpOp_step (o := { dst := some 61, op := Op.call { callee := Callee.value (Operand.func 38), args := #[Operand.tmp 60], argTypes := #[52] }, type := 26, pos := "exact.go:3269", after := #[{ on := 1, ground := Ground.data }], guard := none }) rfl fun K' hK => step_enterW (by rfl) 38 #[bloV p' wd' a' b'] (by go_simp) ((unhide HTO' (unhide HN') _ (((unhide HV').below (unhide B_123)).below hS0)).mono ?_)
  rintro e w12 ⟨q16, rfl, o7, b7⟩
  have s7 := bl_st b7 hS0
  have U7 := hide ((unhide OY_130).below s7).blm
  have V7 := hide o7.blm
  clear b7 o7
  refine ⟨_, rfl, hK _ _ ⟨s7, ?_⟩⟩
  simp only [Act.put, List.setIfInBounds_toArray, List.set_cons_zero, List.set_cons_succ]
  refine wpAnyH_one (i := 3) (by kernel_rfl) ?_
  refine wpOp_step (o := { dst := some 62, op := Op.call { callee := Callee.value (Operand.func 31), args := #[Operand.tmp 59, Operand.tmp 61], argTypes := #[26, 26] }, type := 4, pos := "exact.go:3269", after := #[{ on := 0, ground := Ground.data }, { on := 2, ground := Ground.data }, { on := 2, ground := Ground.chain }], guard := none }) rfl fun K' hK => step_enterW (by rfl) 31 #[bloV p' wd' (.slice A7 ss'.length ca7) (.slice B7 bs'.length cb7), q16] (by go_simp) ((unhide HEQ' (unhide HN') _ _ _ (unhide U7) (unhide V7)).mono ?_)
  rintro e w13 ⟨rfl, b8⟩
  have s8 := bl_st b8 s7
  clear b8
  refine ⟨_, rfl, hK _ _ ⟨s8, ?_⟩⟩
  simp only [Act.put, List.setIfInBounds_toArray, List.set_cons_zero, List.set_cons_succ]
  refine wpAnyH_take (i := 4) (oi := { dst := some 63, op := Op.unOp UnOp.not 4 (Operand.tmp 62), type := 4, pos := "exact.go:3269", after := #[{ on := 3, ground := Ground.data }], guard := none }) (v := ?_) rfl (by kernel_rfl) (by kernel_rfl) (by kernel_rfl) (fun _ _ _ h => h) (Or.inl ⟨by rfl, ?_⟩) s8 ?_
  rotate_left
  · intro W hSw
    go_simp
    try with_reducible rfl
  simp only [Act.put, List.setIfInBounds_toArray, List.set_cons_zero, List.set_cons_succ]
  refine wpAnyH_done (by kernel_rfl) ?_ _
  have B_135 := hide (bl_st s8 (unhide B_123))
  have Q_136 := hide ((unhide Q_124).below s8)
  have P_137 := hide ((unhide P_125).below s8)
  have OW_138 := hide ((unhide OW_126).below s8)
  have WC_139 := hide ((unhide WC_127).below s8)
  have OX_140 := hide ((unhide OX_128).below s8)
  have XC_141 := hide ((unhide XC_129).below s8)
  have OY_142 := hide ((unhide OY_130).below s8)
  have YC_143 := hide ((unhide YC_131).below s8)
  have OG_144 := hide ((unhide OG_132).below s8)
  have GC_145 := hide ((unhide GC_133).below s8)
  have Z146 := hide s8.size
  clear B_123 Q_124 P_125 OW_126 WC_127 OX_128 XC_129 OY_130 YC_131 OG_132 GC_133
  clear s8 s7 hS0 U7 V7
  obtain ⟨kx, kx1, hmx⟩ := unhide HMX2
  have HMX4 := hide hmx
  obtain ⟨ky, ky0, hmy⟩ := unhide HMX3 kx kx1
  have HMX5 := hide hmy
  have kx0 : (0 : Int) ≤ (kx : Int) := Int.natCast_nonneg _
  clear HMX2 hmx HMX3 hmy kx1
  obtain ⟨_, c147, c148, c149, c150⟩ := unhide XC_141
  go_wp2_with fail
  refine (unhide HMX4 _ _ _ w13 (unhide OX_140) (by have := unhide SZ; have := unhide Z4; have := unhide Z12; have := unhide Z16; have := unhide LW; have := unhide JW; have := unhide Z26; have := unhide Z36; have := unhide Z29; have := unhide Z52; have := unhide Z64; have := unhide Z55; have := unhide Z88; have := unhide Z102; have := unhide Z91; have := unhide Z122; have := unhide Z134; have := unhide Z146; omega)).mono ?_
  rintro e w14 ⟨rfl, o14, t14⟩
  clear c147 c148 c149 c150
  clear o14
  have B_151 := hide (belowR (unhide B_135) t14 (by have := unhide SZ; have := unhide Z4; have := unhide Z12; have := unhide Z16; have := unhide LW; have := unhide JW; have := unhide Z26; have := unhide Z36; have := unhide Z29; have := unhide Z52; have := unhide Z64; have := unhide Z55; have := unhide Z88; have := unhide Z102; have := unhide Z91; have := unhide Z122; have := unhide Z134; have := unhide Z146; omega) (by have := unhide SZ; have := unhide Z4; have := unhide Z12; have := unhide Z16; have := unhide LW; have := unhide JW; have := unhide Z26; have := unhide Z36; have := unhide Z29; have := unhide Z52; have := unhide Z64; have := unhide Z55; have := unhide Z88; have := unhide Z102; have := unhide Z91; have := unhide Z122; have := unhide Z134; have := unhide Z146; omega))
  have Q_152 := hide ((unhide Q_136).touchR t14 (by have := unhide SZ; have := unhide Z4; have := unhide Z12; have := unhide Z16; have := unhide LW; have := unhide JW; have := unhide Z26; have := unhide Z36; have := unhide Z29; have := unhide Z52; have := unhide Z64; have := unhide Z55; have := unhide Z88; have := unhide Z102; have := unhide Z91; have := unhide Z122; have := unhide Z134; have := unhide Z146; omega))
  have P_153 := hide ((unhide P_137).touchR t14 (by have := unhide SZ; have := unhide Z4; have := unhide Z12; have := unhide Z16; have := unhide LW; have := unhide JW; have := unhide Z26; have := unhide Z36; have := unhide Z29; have := unhide Z52; have := unhide Z64; have := unhide Z55; have := unhide Z88; have := unhide Z102; have := unhide Z91; have := unhide Z122; have := unhide Z134; have := unhide Z146; omega))
  have OW_154 := hide ((unhide OW_138).touchR t14 (by have := unhide SZ; have := unhide Z4; have := unhide Z12; have := unhide Z16; have := unhide LW; have := unhide JW; have := unhide Z26; have := unhide Z36; have := unhide Z29; have := unhide Z52; have := unhide Z64; have := unhide Z55; have := unhide Z88; have := unhide Z102; have := unhide Z91; have := unhide Z122; have := unhide Z134; have := unhide Z146; omega))
  have WC_155 := hide ((unhide WC_139).touchR t14 (by have := unhide SZ; have := unhide Z4; have := unhide Z12; have := unhide Z16; have := unhide LW; have := unhide JW; have := unhide Z26; have := unhide Z36; have := unhide Z29; have := unhide Z52; have := unhide Z64; have := unhide Z55; have := unhide Z88; have := unhide Z102; have := unhide Z91; have := unhide Z122; have := unhide Z134; have := unhide Z146; omega))
  have XC_156 := hide ((unhide XC_141).touchR t14 (by have := unhide SZ; have := unhide Z4; have := unhide Z12; have := unhide Z16; have := unhide LW; have := unhide JW; have := unhide Z26; have := unhide Z36; have := unhide Z29; have := unhide Z52; have := unhide Z64; have := unhide Z55; have := unhide Z88; have := unhide Z102; have := unhide Z91; have := unhide Z122; have := unhide Z134; have := unhide Z146; omega))
  have OY_157 := hide ((unhide OY_142).touchR t14 (by have := unhide SZ; have := unhide Z4; have := unhide Z12; have := unhide Z16; have := unhide LW; have := unhide JW; have := unhide Z26; have := unhide Z36; have := unhide Z29; have := unhide Z52; have := unhide Z64; have := unhide Z55; have := unhide Z88; have := unhide Z102; have := unhide Z91; have := unhide Z122; have := unhide Z134; have := unhide Z146; omega))
  have YC_158 := hide ((unhide YC_143).touchR t14 (by have := unhide SZ; have := unhide Z4; have := unhide Z12; have := unhide Z16; have := unhide LW; have := unhide JW; have := unhide Z26; have := unhide Z36; have := unhide Z29; have := unhide Z52; have := unhide Z64; have := unhide Z55; have := unhide Z88; have := unhide Z102; have := unhide Z91; have := unhide Z122; have := unhide Z134; have := unhide Z146; omega))
  have OG_159 := hide ((unhide OG_144).touchR t14 (by have := unhide SZ; have := unhide Z4; have := unhide Z12; have := unhide Z16; have := unhide LW; have := unhide JW; have := unhide Z26; have := unhide Z36; have := unhide Z29; have := unhide Z52; have := unhide Z64; have := unhide Z55; have := unhide Z88; have := unhide Z102; have := unhide Z91; have := unhide Z122; have := unhide Z134; have := unhide Z146; omega))
  have GC_160 := hide ((unhide GC_145).touchR t14 (by have := unhide SZ; have := unhide Z4; have := unhide Z12; have := unhide Z16; have := unhide LW; have := unhide JW; have := unhide Z26; have := unhide Z36; have := unhide Z29; have := unhide Z52; have := unhide Z64; have := unhide Z55; have := unhide Z88; have := unhide Z102; have := unhide Z91; have := unhide Z122; have := unhide Z134; have := unhide Z146; omega))
  have Z161 := hide t14.size
  clear B_135 Q_136 P_137 OW_138 WC_139 XC_141 OY_142 YC_143 OG_144 GC_145
  clear t14
  obtain ⟨_, c162, c163, c164, c165⟩ := unhide YC_158
  go_wp2_with fail
  refine (unhide HMX5 _ _ _ w14 (unhide OY_157) (by have := unhide SZ; have := unhide Z4; have := unhide Z12; have := unhide Z16; have := unhide LW; have := unhide JW; have := unhide Z26; have := unhide Z36; have := unhide Z29; have := unhide Z52; have := unhide Z64; have := unhide Z55; have := unhide Z88; have := unhide Z102; have := unhide Z91; have := unhide Z122; have := unhide Z134; have := unhide Z146; have := unhide Z161; omega)).mono ?_
  rintro e w15 ⟨rfl, o15, t15⟩
  clear c162 c163 c164 c165
  clear o15
  have B_166 := hide (belowR (unhide B_151) t15 (by have := unhide SZ; have := unhide Z4; have := unhide Z12; have := unhide Z16; have := unhide LW; have := unhide JW; have := unhide Z26; have := unhide Z36; have := unhide Z29; have := unhide Z52; have := unhide Z64; have := unhide Z55; have := unhide Z88; have := unhide Z102; have := unhide Z91; have := unhide Z122; have := unhide Z134; have := unhide Z146; have := unhide Z161; omega) (by have := unhide SZ; have := unhide Z4; have := unhide Z12; have := unhide Z16; have := unhide LW; have := unhide JW; have := unhide Z26; have := unhide Z36; have := unhide Z29; have := unhide Z52; have := unhide Z64; have := unhide Z55; have := unhide Z88; have := unhide Z102; have := unhide Z91; have := unhide Z122; have := unhide Z134; have := unhide Z146; have := unhide Z161; omega))
  have Q_167 := hide ((unhide Q_152).touchR t15 (by have := unhide SZ; have := unhide Z4; have := unhide Z12; have := unhide Z16; have := unhide LW; have := unhide JW; have := unhide Z26; have := unhide Z36; have := unhide Z29; have := unhide Z52; have := unhide Z64; have := unhide Z55; have := unhide Z88; have := unhide Z102; have := unhide Z91; have := unhide Z122; have := unhide Z134; have := unhide Z146; have := unhide Z161; omega))
  have P_168 := hide ((unhide P_153).touchR t15 (by have := unhide SZ; have := unhide Z4; have := unhide Z12; have := unhide Z16; have := unhide LW; have := unhide JW; have := unhide Z26; have := unhide Z36; have := unhide Z29; have := unhide Z52; have := unhide Z64; have := unhide Z55; have := unhide Z88; have := unhide Z102; have := unhide Z91; have := unhide Z122; have := unhide Z134; have := unhide Z146; have := unhide Z161; omega))
  have OW_169 := hide ((unhide OW_154).touchR t15 (by have := unhide SZ; have := unhide Z4; have := unhide Z12; have := unhide Z16; have := unhide LW; have := unhide JW; have := unhide Z26; have := unhide Z36; have := unhide Z29; have := unhide Z52; have := unhide Z64; have := unhide Z55; have := unhide Z88; have := unhide Z102; have := unhide Z91; have := unhide Z122; have := unhide Z134; have := unhide Z146; have := unhide Z161; omega))
  have WC_170 := hide ((unhide WC_155).touchR t15 (by have := unhide SZ; have := unhide Z4; have := unhide Z12; have := unhide Z16; have := unhide LW; have := unhide JW; have := unhide Z26; have := unhide Z36; have := unhide Z29; have := unhide Z52; have := unhide Z64; have := unhide Z55; have := unhide Z88; have := unhide Z102; have := unhide Z91; have := unhide Z122; have := unhide Z134; have := unhide Z146; have := unhide Z161; omega))
  have XC_171 := hide ((unhide XC_156).touchR t15 (by have := unhide SZ; have := unhide Z4; have := unhide Z12; have := unhide Z16; have := unhide LW; have := unhide JW; have := unhide Z26; have := unhide Z36; have := unhide Z29; have := unhide Z52; have := unhide Z64; have := unhide Z55; have := unhide Z88; have := unhide Z102; have := unhide Z91; have := unhide Z122; have := unhide Z134; have := unhide Z146; have := unhide Z161; omega))
  have YC_172 := hide ((unhide YC_158).touchR t15 (by have := unhide SZ; have := unhide Z4; have := unhide Z12; have := unhide Z16; have := unhide LW; have := unhide JW; have := unhide Z26; have := unhide Z36; have := unhide Z29; have := unhide Z52; have := unhide Z64; have := unhide Z55; have := unhide Z88; have := unhide Z102; have := unhide Z91; have := unhide Z122; have := unhide Z134; have := unhide Z146; have := unhide Z161; omega))
  have OG_173 := hide ((unhide OG_159).touchR t15 (by have := unhide SZ; have := unhide Z4; have := unhide Z12; have := unhide Z16; have := unhide LW; have := unhide JW; have := unhide Z26; have := unhide Z36; have := unhide Z29; have := unhide Z52; have := unhide Z64; have := unhide Z55; have := unhide Z88; have := unhide Z102; have := unhide Z91; have := unhide Z122; have := unhide Z134; have := unhide Z146; have := unhide Z161; omega))
  have GC_174 := hide ((unhide GC_160).touchR t15 (by have := unhide SZ; have := unhide Z4; have := unhide Z12; have := unhide Z16; have := unhide LW; have := unhide JW; have := unhide Z26; have := unhide Z36; have := unhide Z29; have := unhide Z52; have := unhide Z64; have := unhide Z55; have := unhide Z88; have := unhide Z102; have := unhide Z91; have := unhide Z122; have := unhide Z134; have := unhide Z146; have := unhide Z161; omega))
  have Z175 := hide t15.size
  clear B_151 Q_152 P_153 OW_154 WC_155 XC_156 YC_158 OG_159 GC_160
  clear t15
  obtain ⟨_, c176, c177, c178, c179⟩ := unhide GC_174
  obtain ⟨_, c180, c181, c182, c183⟩ := unhide WC_170
  go_wp2_with fail
  refine (unhide HEY _ _ w15 (unhide OG_173).blm (unhide OW_169).blm).mono ?_
  rintro e w16 ⟨rfl, b16⟩
  clear c176 c177 c178 c179 c180 c181 c182 c183
  have B_184 := hide (bl_st b16 (unhide B_166))
  have Q_185 := hide ((unhide Q_167).below b16)
  have P_186 := hide ((unhide P_168).below b16)
  have OW_187 := hide ((unhide OW_169).below b16)
  have WC_188 := hide ((unhide WC_170).below b16)
  have XC_189 := hide ((unhide XC_171).below b16)
  have YC_190 := hide ((unhide YC_172).below b16)
  have OG_191 := hide ((unhide OG_173).below b16)
  have GC_192 := hide ((unhide GC_174).below b16)
  have Z193 := hide b16.size
  clear B_166 Q_167 P_168 OW_169 WC_170 XC_171 YC_172 OG_173 GC_174
  clear b16
  obtain ⟨_, c194, c195, c196, c197⟩ := unhide GC_192
  go_wp2_with fail
  refine (unhide HMY _ _ _ w16 (unhide OG_191) (by have := unhide SZ; have := unhide Z4; have := unhide Z12; have := unhide Z16; have := unhide LW; have := unhide JW; have := unhide Z26; have := unhide Z36; have := unhide Z29; have := unhide Z52; have := unhide Z64; have := unhide Z55; have := unhide Z88; have := unhide Z102; have := unhide Z91; have := unhide Z122; have := unhide Z134; have := unhide Z146; have := unhide Z161; have := unhide Z175; have := unhide Z193; omega)).mono ?_
  rintro e w17 ⟨rfl, o17, t17⟩
  clear c194 c195 c196 c197
  have B_198 := hide (belowR (unhide B_184) t17 (by have := unhide SZ; have := unhide Z4; have := unhide Z12; have := unhide Z16; have := unhide LW; have := unhide JW; have := unhide Z26; have := unhide Z36; have := unhide Z29; have := unhide Z52; have := unhide Z64; have := unhide Z55; have := unhide Z88; have := unhide Z102; have := unhide Z91; have := unhide Z122; have := unhide Z134; have := unhide Z146; have := unhide Z161; have := unhide Z175; have := unhide Z193; omega) (by have := unhide SZ; have := unhide Z4; have := unhide Z12; have := unhide Z16; have := unhide LW; have := unhide JW; have := unhide Z26; have := unhide Z36; have := unhide Z29; have := unhide Z52; have := unhide Z64; have := unhide Z55; have := unhide Z88; have := unhide Z102; have := unhide Z91; have := unhide Z122; have := unhide Z134; have := unhide Z146; have := unhide Z161; have := unhide Z175; have := unhide Z193; omega))
  have Q_199 := hide ((unhide Q_185).touchR t17 (by have := unhide SZ; have := unhide Z4; have := unhide Z12; have := unhide Z16; have := unhide LW; have := unhide JW; have := unhide Z26; have := unhide Z36; have := unhide Z29; have := unhide Z52; have := unhide Z64; have := unhide Z55; have := unhide Z88; have := unhide Z102; have := unhide Z91; have := unhide Z122; have := unhide Z134; have := unhide Z146; have := unhide Z161; have := unhide Z175; have := unhide Z193; omega))
  have P_200 := hide ((unhide P_186).touchR t17 (by have := unhide SZ; have := unhide Z4; have := unhide Z12; have := unhide Z16; have := unhide LW; have := unhide JW; have := unhide Z26; have := unhide Z36; have := unhide Z29; have := unhide Z52; have := unhide Z64; have := unhide Z55; have := unhide Z88; have := unhide Z102; have := unhide Z91; have := unhide Z122; have := unhide Z134; have := unhide Z146; have := unhide Z161; have := unhide Z175; have := unhide Z193; omega))
  have OW_201 := hide ((unhide OW_187).touchR t17 (by have := unhide SZ; have := unhide Z4; have := unhide Z12; have := unhide Z16; have := unhide LW; have := unhide JW; have := unhide Z26; have := unhide Z36; have := unhide Z29; have := unhide Z52; have := unhide Z64; have := unhide Z55; have := unhide Z88; have := unhide Z102; have := unhide Z91; have := unhide Z122; have := unhide Z134; have := unhide Z146; have := unhide Z161; have := unhide Z175; have := unhide Z193; omega))
  have WC_202 := hide ((unhide WC_188).touchR t17 (by have := unhide SZ; have := unhide Z4; have := unhide Z12; have := unhide Z16; have := unhide LW; have := unhide JW; have := unhide Z26; have := unhide Z36; have := unhide Z29; have := unhide Z52; have := unhide Z64; have := unhide Z55; have := unhide Z88; have := unhide Z102; have := unhide Z91; have := unhide Z122; have := unhide Z134; have := unhide Z146; have := unhide Z161; have := unhide Z175; have := unhide Z193; omega))
  have XC_203 := hide ((unhide XC_189).touchR t17 (by have := unhide SZ; have := unhide Z4; have := unhide Z12; have := unhide Z16; have := unhide LW; have := unhide JW; have := unhide Z26; have := unhide Z36; have := unhide Z29; have := unhide Z52; have := unhide Z64; have := unhide Z55; have := unhide Z88; have := unhide Z102; have := unhide Z91; have := unhide Z122; have := unhide Z134; have := unhide Z146; have := unhide Z161; have := unhide Z175; have := unhide Z193; omega))
  have YC_204 := hide ((unhide YC_190).touchR t17 (by have := unhide SZ; have := unhide Z4; have := unhide Z12; have := unhide Z16; have := unhide LW; have := unhide JW; have := unhide Z26; have := unhide Z36; have := unhide Z29; have := unhide Z52; have := unhide Z64; have := unhide Z55; have := unhide Z88; have := unhide Z102; have := unhide Z91; have := unhide Z122; have := unhide Z134; have := unhide Z146; have := unhide Z161; have := unhide Z175; have := unhide Z193; omega))
  have GC_205 := hide ((unhide GC_192).touchR t17 (by have := unhide SZ; have := unhide Z4; have := unhide Z12; have := unhide Z16; have := unhide LW; have := unhide JW; have := unhide Z26; have := unhide Z36; have := unhide Z29; have := unhide Z52; have := unhide Z64; have := unhide Z55; have := unhide Z88; have := unhide Z102; have := unhide Z91; have := unhide Z122; have := unhide Z134; have := unhide Z146; have := unhide Z161; have := unhide Z175; have := unhide Z193; omega))
  have Z206 := hide t17.size
  clear B_184 Q_185 P_186 OW_187 WC_188 XC_189 YC_190 GC_192
  have OG17 := hide o17
  clear o17 t17
  obtain ⟨_, c207, c208, c209, c210⟩ := unhide GC_205
  go_wp2_with fail
  refine (unhide HHY _ w17 (unhide OG17).blm).mono ?_
  rintro e w18 ⟨rfl, b18⟩
  clear c207 c208 c209 c210
  have B_211 := hide (bl_st b18 (unhide B_198))
  have Q_212 := hide ((unhide Q_199).below b18)
  have P_213 := hide ((unhide P_200).below b18)
  have OW_214 := hide ((unhide OW_201).below b18)
  have WC_215 := hide ((unhide WC_202).below b18)
  have XC_216 := hide ((unhide XC_203).below b18)
  have YC_217 := hide ((unhide YC_204).below b18)
  have GC_218 := hide ((unhide GC_205).below b18)
  have OG_219 := hide ((unhide OG17).below b18)
  have Z220 := hide b18.size
  clear B_198 Q_199 P_200 OW_201 WC_202 XC_203 YC_204 GC_205 OG17
  clear b18
  go_wp2
  refine Code.wp_mono (Q := fun e aQ W5 => ∃ (X1 : Option Addr) (X2 X3 : Nat) (X4 : Option Addr) (X5 X6 : Nat) (u1 u2 : Value) (gW : Nat), e = .normal ∧ aQ = { tmps := #[bloV p wd a b, bloV p' wd' a' b', Value.pointer (some ⟨w.heap.size, 0, none⟩), Value.pointer (some ⟨w.heap.size + 1, 0, none⟩), Value.bool false, Value.int IntKind.i64 zz, Value.pointer (some ⟨gV, 0, none⟩), Value.int IntKind.i64 c, Value.pointer (some ⟨w6.heap.size, 0, none⟩), Value.pointer (some ⟨w7.heap.size, 0, none⟩), Value.pointer (some ⟨w8.heap.size, 0, none⟩), Value.int IntKind.i64 c, Value.int IntKind.i64 ky, Value.int IntKind.i64 (km : Int), Value.int IntKind.i64 (km : Int), .pointer (some ⟨gW, 0, none⟩), .int .i64 c, bloV p wd a b, Value.int IntKind.i64 1048576, Value.int IntKind.i64 z, Value.int IntKind.i64 z, Value.bool (decide (z < 0)), bloV p' wd' a' b', Value.int IntKind.i64 z, Value.int IntKind.i64 zz, Value.int IntKind.i64 zz, Value.bool (decide (zz < 0)), Value.tuple #[bloV y.p y.w (Value.slice S1 S2 S3) (Value.slice S4 S5 S6), Value.int IntKind.i64 c], bloV p wd a b, t1, bloV p' wd' a' b', t2, Value.tuple #[bloV y.p y.w (Value.slice S1 S2 S3) (Value.slice S4 S5 S6), Value.int IntKind.i64 c], bloV y.p y.w (Value.slice S1 S2 S3) (Value.slice S4 S5 S6), Value.int IntKind.i64 c, Value.agg #[Value.int IntKind.i64 p, Value.int IntKind.i64 wd, a, b], bloV p wd (Value.slice A6 ss.length ca6) (Value.slice B6 bs.length cb6), Value.agg #[Value.int IntKind.i64 p', Value.int IntKind.i64 wd', a', b'], bloV p' wd' (Value.slice A7 ss'.length ca7) (Value.slice B7 bs'.length cb7), Value.tuple #[bloV y.p y.w (Value.slice D73 D74 D75) (Value.slice D76 D77 D78), Value.int IntKind.i64 c], Value.agg #[Value.int IntKind.i64 p, Value.int IntKind.i64 wd, Value.slice A6 ss.length ca6, Value.slice B6 bs.length cb6], Value.agg #[Value.int IntKind.i64 p', Value.int IntKind.i64 wd', Value.slice A7 ss'.length ca7, Value.slice B7 bs'.length cb7], Value.tuple #[bloV y.p y.w (Value.slice D73 D74 D75) (Value.slice D76 D77 D78), Value.int IntKind.i64 c], bloV y.p y.w (Value.slice D73 D74 D75) (Value.slice D76 D77 D78), Value.int IntKind.i64 c, Value.agg #[Value.int IntKind.i64 y.p, Value.int IntKind.i64 y.w, Value.slice D73 D74 D75, Value.slice D76 D77 D78], Value.agg #[Value.int IntKind.i64 y.p, Value.int IntKind.i64 y.w, Value.slice S1 S2 S3, Value.slice S4 S5 S6], Value.bool true, Value.bool false, Value.bool false, Value.int IntKind.i64 c, Value.int IntKind.i64 c, Value.bool false, Value.bool false, Value.agg #[Value.int IntKind.i64 p, Value.int IntKind.i64 wd, Value.slice A6 ss.length ca6, Value.slice B6 bs.length cb6], Value.agg #[Value.int IntKind.i64 p, Value.int IntKind.i64 wd, a, b], q14, Value.bool true, Value.bool false, Value.agg #[Value.int IntKind.i64 p', Value.int IntKind.i64 wd', Value.slice A7 ss'.length ca7, Value.slice B7 bs'.length cb7], Value.agg #[Value.int IntKind.i64 p', Value.int IntKind.i64 wd', a', b'], q16, Value.bool true, Value.bool false, Value.agg #[Value.int IntKind.i64 p, Value.int IntKind.i64 wd, Value.slice A6 ss.length ca6, Value.slice B6 bs.length cb6], Value.int IntKind.i64 1, Value.int IntKind.i64 (kx : Int), Value.agg #[Value.int IntKind.i64 p', Value.int IntKind.i64 wd', Value.slice A7 ss'.length ca7, Value.slice B7 bs'.length cb7], Value.int IntKind.i64 (kx : Int), Value.int IntKind.i64 ky, Value.int IntKind.i64 ky, Value.bool (decide (ky < 0)), Value.bool (decide (ky < 0)), Value.agg #[Value.int IntKind.i64 y.p, Value.int IntKind.i64 y.w, Value.slice D73 D74 D75, Value.slice D76 D77 D78], Value.agg #[Value.int IntKind.i64 y.p, Value.int IntKind.i64 y.w, Value.slice S1 S2 S3, Value.slice S4 S5 S6], Value.bool true, Value.bool false, Value.bool (decide (ky < 0)), Value.bool (decide (ky < 0)), Value.int IntKind.i64 c, Value.int IntKind.i64 c, Value.bool false, Value.bool (decide (ky < 0)), Value.agg #[Value.int IntKind.i64 y.p, Value.int IntKind.i64 y.w, Value.slice D73 D74 D75, Value.slice D76 D77 D78], Value.int IntKind.i64 1, Value.int IntKind.i64 (km : Int), Value.agg #[Value.int IntKind.i64 y.p, Value.int IntKind.i64 y.w, Value.slice D73 D74 D75, Value.slice D76 D77 D78], Value.int IntKind.i64 1, Value.int IntKind.i64 (km : Int), Value.int IntKind.i64 (km : Int), Value.bool (decide ((km : Int) < 0)), Value.int IntKind.i64 (km : Int), Value.int IntKind.i64 (km : Int), Value.bool false, .tuple #[bloV y.p y.w (.slice X1 X2 X3) (.slice X4 X5 X6), .int .i64 c], bloV p wd a b, u1, bloV p' wd' a' b', u2, .tuple #[bloV y.p y.w (.slice X1 X2 X3) (.slice X4 X5 X6), .int .i64 c], bloV y.p y.w (.slice X1 X2 X3) (.slice X4 X5 X6), .int .i64 c, undef, undef, undef, undef, undef, undef, undef, undef, undef, undef, undef, undef, undef, undef, undef, undef, undef], defers := [] } ∧ ownX w18.heap.size W5.heap.size W5 (bloV y.p y.w (.slice X1 X2 X3) (.slice X4 X5 X6)) y ∧ BC gW y.p y.w (.slice X1 X2 X3) (.slice X4 X5 X6) W5 ∧ w18.heap.size ≤ gW ∧ gW < W5.heap.size ∧ Below w18.heap.size w18 W5) ?_ ?_
  rotate_left
  · refine wp_region_held (S := fun W' => Below w18.heap.size w18 W') (by kernel_rfl) ?_
    have hS0 : Below w18.heap.size w18 { w18 with drawn := w18.drawn + 1 } := below_drewN (Below.refl _ _) 1
    refine wpAnyH_take (i := 0) (oi := { dst := some 95, op := Op.load 52 (Operand.tmp 2), type := 52, pos := "exact.go:3288", after := #[], guard := none }) (v := ?_) rfl (by kernel_rfl) (by kernel_rfl) (by kernel_rfl) (fun _ _ _ h => by obtain ⟨_, _, _, _, _, _, _, _, _, h, _⟩ := h; cases h) (Or.inl ⟨by rfl, ?_⟩) hS0 ?_
    rotate_left
    · intro W hSw
      obtain ⟨_, c0, c1, c2, c3⟩ := (unhide Q_212).below hSw
      obtain ⟨_, d0, d1, d2, d3⟩ := (unhide P_213).below hSw
      go_simp
      try with_reducible rfl
    simp only [Act.put, List.setIfInBounds_toArray, List.set_cons_zero, List.set_cons_succ]
    refine wpAnyH_take (i := 2) (oi := { dst := some 97, op := Op.load 52 (Operand.tmp 3), type := 52, pos := "exact.go:3288", after := #[], guard := none }) (v := ?_) rfl (by kernel_rfl) (by kernel_rfl) (by kernel_rfl) (fun _ _ _ h => by obtain ⟨_, _, _, _, _, _, _, _, _, h, _⟩ := h; cases h) (Or.inl ⟨by rfl, ?_⟩) hS0 ?_
    rotate_left
    · intro W hSw
      obtain ⟨_, c0, c1, c2, c3⟩ := (unhide Q_212).below hSw
      obtain ⟨_, d0, d1, d2, d3⟩ := (unhide P_213).below hSw
      go_simp
      try with_reducible rfl
    simp only [Act.put, List.setIfInBounds_toArray, List.set_cons_zero, List.set_cons_succ]
    obtain ⟨v0, hv0⟩ : ∃ v0, v0 = ({ w18 with drawn := w18.drawn + 1 } : World) := ⟨_, rfl⟩
    have s0 : Below w18.heap.size w18 v0 := by rw [hv0]; exact hS0
    rw [← hv0]
    clear hv0 hS0
    refine wpAnyH_two (i := 1) (j := 8) (by kernel_rfl) ?_ ?_
    · refine wpOp_step (o := { dst := some 96, op := Op.call { callee := Callee.value (Operand.func 38), args := #[Operand.tmp 95], argTypes := #[52] }, type := 26, pos := "exact.go:3288", after := #[{ on := 0, ground := Ground.data }], guard := none }) rfl fun K' hK => step_enterW (by rfl) 38 #[bloV p wd a b] (by go_simp) ((unhide HTO (unhide HN) v0 (((unhide HV).below (unhide B_211)).below s0)).mono ?_)
      rintro e v1 ⟨u1, rfl, o1, b⟩
      have s1 := bl_st b s0
      have U1 := o1.blm
      clear o1
      clear b
      refine ⟨_, rfl, hK _ _ ⟨s1, ?_⟩⟩
      simp only [Act.put, List.setIfInBounds_toArray, List.set_cons_zero, List.set_cons_succ]
      refine wpAnyH_two (i := 3) (j := 8) (by kernel_rfl) ?_ ?_
      · refine wpOp_step (o := { dst := some 98, op := Op.call { callee := Callee.value (Operand.func 38), args := #[Operand.tmp 97], argTypes := #[52] }, type := 26, pos := "exact.go:3288", after := #[{ on := 2, ground := Ground.data }, { on := 1, ground := Ground.chain }], guard := none }) rfl fun K' hK => step_enterW (by rfl) 38 #[bloV p' wd' a' b'] (by go_simp) ((unhide HTO' (unhide HN') v1 (((unhide HV').below (unhide B_211)).below s1)).mono ?_)
        rintro e v2 ⟨u2, rfl, o2, b⟩
        have s2 := bl_st b s1
        have U1 := U1.below b
        have U2 := o2.blm
        clear o2
        clear b
        refine ⟨_, rfl, hK _ _ ⟨s2, ?_⟩⟩
        simp only [Act.put, List.setIfInBounds_toArray, List.set_cons_zero, List.set_cons_succ]
        refine wpAnyH_two (i := 4) (j := 8) (by kernel_rfl) ?_ ?_
        · refine wpOp_step (o := { dst := some 99, op := Op.call { callee := Callee.value (Operand.func 20), args := #[Operand.tmp 96, Operand.tmp 98], argTypes := #[26, 26] }, type := 28, pos := "exact.go:3288", after := #[{ on := 1, ground := Ground.data }, { on := 3, ground := Ground.data }, { on := 3, ground := Ground.chain }], guard := none }) rfl fun K' hK => step_enterW (by rfl) 20 #[u1, u2] (by go_simp) ((unhide HIM (unhide HN) (unhide HN') u1 u2 v2 U1 U2).mono ?_)
          rintro e v3 ⟨r3, rfl, oR, b⟩
          have s3 := bl_st b s2
          obtain ⟨X1, X2, X3, X4, X5, X6, hre⟩ := oR.slices
          subst hre
          have lR : w18.heap.size ≤ v2.heap.size := s2.size
          have hR : v3.heap.size ≤ v3.heap.size := Nat.le_refl _
          clear b U1 U2
          refine ⟨_, rfl, hK _ _ ⟨s3, ?_⟩⟩
          simp only [Act.put, List.setIfInBounds_toArray, List.set_cons_zero, List.set_cons_succ]
          refine wpAnyH_take (i := 5) (oi := { dst := some 94, op := Op.move (Operand.tmp 99), type := 28, pos := "exact.go:3288", after := #[{ on := 4, ground := Ground.data }], guard := none }) (v := ?_) rfl (by kernel_rfl) (by kernel_rfl) (by kernel_rfl) (fun _ _ _ h => by obtain ⟨_, _, _, _, _, _, _, _, _, h, _⟩ := h; cases h) (Or.inl ⟨by rfl, ?_⟩) s3 ?_
          rotate_left
          · intro W hSw
            go_simp
            try with_reducible rfl
          simp only [Act.put, List.setIfInBounds_toArray, List.set_cons_zero, List.set_cons_succ]
          refine wpAnyH_take (i := 6) (oi := { dst := some 100, op := Op.extract (Operand.tmp 94) 0, type := 26, pos := "exact.go:3288", after := #[{ on := 5, ground := Ground.data }], guard := none }) (v := ?_) rfl (by kernel_rfl) (by kernel_rfl) (by kernel_rfl) (fun _ _ _ h => by obtain ⟨_, _, _, _, _, _, _, _, _, h, _⟩ := h; cases h) (Or.inl ⟨by rfl, ?_⟩) s3 ?_
          rotate_left
          · intro W hSw
            go_simp
            try with_reducible rfl
          simp only [Act.put, List.setIfInBounds_toArray, List.set_cons_zero, List.set_cons_succ]
          refine wpAnyH_take (i := 7) (oi := { dst := some 101, op := Op.extract (Operand.tmp 94) 1, type := 3, pos := "exact.go:3288", after := #[{ on := 5, ground := Ground.data }, { on := 9, ground := Ground.gcOnly Departure.lateStores }], guard := none }) (v := ?_) rfl (by kernel_rfl) (by kernel_rfl) (by kernel_rfl) (fun _ _ _ h => by obtain ⟨_, _, _, _, _, _, _, _, _, h, _⟩ := h; cases h) (Or.inl ⟨by rfl, ?_⟩) s3 ?_
          rotate_left
          · intro W hSw
            go_simp
            try with_reducible rfl
          simp only [Act.put, List.setIfInBounds_toArray, List.set_cons_zero, List.set_cons_succ]
          refine wpAnyH_one (i := 8) (by kernel_rfl) ?_
          have s4 : Below w18.heap.size w18 (v3.alloc (.cells #[.int .i64 0, .int .i64 0, .slice none 0 0, .slice none 0 0] 26)) := bl_al s3
          have b : Below v3.heap.size v3 (v3.alloc (.cells #[.int .i64 0, .int .i64 0, .slice none 0 0, .slice none 0 0] 26)) := bl_al (Below.refl _ _)
          have hW := heap_alloc_new v3 (.cells #[.int .i64 0, .int .i64 0, .slice none 0 0, .slice none 0 0] 26)
          have lW : w18.heap.size ≤ v3.heap.size := s3.size
          have nR : ∀ g, ((Value.slice X1 X2 X3).ownBlock = some g ∨ (Value.slice X4 X5 X6).ownBlock = some g) → v3.heap.size ≠ g := fun g h => by have := oR.liesX g h; omega
          have oR := oR.below b
          have hR := Nat.le_trans hR b.size
          clear b
          refine wpOp_step (o := { dst := some 15, op := Op.alloc 26, type := 0, pos := "exact.go:3288", after := #[], guard := none }) rfl fun K' hK => step_valueW (by rfl) (.pointer (some ⟨v3.heap.size, 0, none⟩)) (v3.alloc (.cells #[.int .i64 0, .int .i64 0, .slice none 0 0, .slice none 0 0] 26)) (by go_simp) ?_
          refine hK _ _ ⟨s4, ?_⟩
          simp only [Act.put, List.setIfInBounds_toArray, List.set_cons_zero, List.set_cons_succ]
          obtain ⟨gW, hgW⟩ : ∃ gW, gW = v3.heap.size := ⟨_, rfl⟩
          rw [← hgW] at hW lW ⊢
          rw [← hgW] at nR
          generalize v3.alloc (.cells #[.int .i64 0, .int .i64 0, .slice none 0 0, .slice none 0 0] 26) = v4 at *
          clear hgW
          have x0 : v4.cell? ⟨gW, 0, none⟩ = some (.int .i64 0) := row_cell hW
          have x1 : v4.cell? ⟨gW, 1, none⟩ = some (.int .i64 0) := row_cell hW
          have x2 : v4.cell? ⟨gW, 2, none⟩ = some (.slice none 0 0) := row_cell hW
          have x3 : v4.cell? ⟨gW, 3, none⟩ = some (.slice none 0 0) := row_cell hW
          have y0 : v4.frozen? ⟨gW, 0, none⟩ = false := row_free hW
          have y1 : v4.frozen? ⟨gW, 1, none⟩ = false := row_free hW
          have y2 : v4.frozen? ⟨gW, 2, none⟩ = false := row_free hW
          have y3 : v4.frozen? ⟨gW, 3, none⟩ = false := row_free hW
          have z5 : Below w18.heap.size w18 (put4 v4 gW y.p y.w (.slice X1 X2 X3) (.slice X4 X5 X6)) := bl_put4 s4 lW
          refine wpAnyH_one (i := 9) (by kernel_rfl) ?_
          refine wpOp_step (o := { dst := none, op := Op.store 26 (Operand.tmp 15) (Operand.tmp 100), type := 0, pos := "exact.go:3288", after := #[{ on := 8, ground := Ground.data }, { on := 6, ground := Ground.data }, { on := 4, ground := Ground.chain }, { on := 0, ground := Ground.phase }, { on := 1, ground := Ground.phase }, { on := 2, ground := Ground.phase }, { on := 3, ground := Ground.phase }, { on := 4, ground := Ground.phase }, { on := 5, ground := Ground.phase }, { on := 6, ground := Ground.phase }, { on := 7, ground := Ground.textOnly Departure.lateStores }, { on := 8, ground := Ground.phase }], guard := none }) rfl fun K' hK => step_skipW (by rfl) (put4 v4 gW y.p y.w (.slice X1 X2 X3) (.slice X4 X5 X6)) (by go_simp) ?_
          refine hK _ _ ⟨z5, ?_⟩
          try simp only [Act.put]
          refine wpAnyH_take (i := 10) (oi := { dst := some 16, op := Op.assign (Operand.tmp 101), type := 3, pos := "exact.go:3288", after := #[{ on := 7, ground := Ground.data }, { on := 9, ground := Ground.chain }, { on := 0, ground := Ground.phase }, { on := 1, ground := Ground.phase }, { on := 2, ground := Ground.phase }, { on := 3, ground := Ground.phase }, { on := 4, ground := Ground.phase }, { on := 5, ground := Ground.phase }, { on := 6, ground := Ground.phase }, { on := 7, ground := Ground.phase }, { on := 8, ground := Ground.phase }, { on := 9, ground := Ground.phase }], guard := none }) (v := ?_) rfl (by kernel_rfl) (by kernel_rfl) (by kernel_rfl) (fun _ _ _ h => by obtain ⟨_, _, _, _, _, _, _, _, _, h, _⟩ := h; cases h) (Or.inl ⟨by rfl, ?_⟩) z5 ?_
          rotate_left
          · intro W hSw
            go_simp
            try with_reducible rfl
          simp only [Act.put, List.setIfInBounds_toArray, List.set_cons_zero, List.set_cons_succ]
          refine wpAnyH_done (by kernel_rfl) ?_ _
          refine ⟨X1, X2, X3, X4, X5, X6, u1, u2, gW, rfl, rfl, ?_, ?_, lW, ?_, z5⟩
          · refine (oR.loneX (lone_put4 v4 gW y.p y.w _ _) nR).wide lR ?_
            rw [size_put4]; exact hR
          · exact bc_row (row_put4 hW y.p y.w _ _)
          · rw [size_put4]; exact (Array.getElem?_eq_some_iff.1 hW).1
        · have s3 : Below w18.heap.size w18 (v2.alloc (.cells #[.int .i64 0, .int .i64 0, .slice none 0 0, .slice none 0 0] 26)) := bl_al s2
          have b : Below v2.heap.size v2 (v2.alloc (.cells #[.int .i64 0, .int .i64 0, .slice none 0 0, .slice none 0 0] 26)) := bl_al (Below.refl _ _)
          have hW := heap_alloc_new v2 (.cells #[.int .i64 0, .int .i64 0, .slice none 0 0, .slice none 0 0] 26)
          have lW : w18.heap.size ≤ v2.heap.size := s2.size
          have U1 := U1.below b
          have U2 := U2.below b
          clear b
          refine wpOp_step (o := { dst := some 15, op := Op.alloc 26, type := 0, pos := "exact.go:3288", after := #[], guard := none }) rfl fun K' hK => step_valueW (by rfl) (.pointer (some ⟨v2.heap.size, 0, none⟩)) (v2.alloc (.cells #[.int .i64 0, .int .i64 0, .slice none 0 0, .slice none 0 0] 26)) (by go_simp) ?_
          refine hK _ _ ⟨s3, ?_⟩
          simp only [Act.put, List.setIfInBounds_toArray, List.set_cons_zero, List.set_cons_succ]
          obtain ⟨gW, hgW⟩ : ∃ gW, gW = v2.heap.size := ⟨_, rfl⟩
          rw [← hgW] at hW lW ⊢
          generalize v2.alloc (.cells #[.int .i64 0, .int .i64 0, .slice none 0 0, .slice none 0 0] 26) = v3 at *
          clear hgW
          refine wpAnyH_one (i := 4) (by kernel_rfl) ?_
          refine wpOp_step (o := { dst := some 99, op := Op.call { callee := Callee.value (Operand.func 20), args := #[Operand.tmp 96, Operand.tmp 98], argTypes := #[26, 26] }, type := 28, pos := "exact.go:3288", after := #[{ on := 1, ground := Ground.data }, { on := 3, ground := Ground.data }, { on := 3, ground := Ground.chain }], guard := none }) rfl fun K' hK => step_enterW (by rfl) 20 #[u1, u2] (by go_simp) ((unhide HIM (unhide HN) (unhide HN') u1 u2 v3 U1 U2).mono ?_)
          rintro e v4 ⟨r3, rfl, oR, b⟩
          have s4 := bl_st b s3
          obtain ⟨X1, X2, X3, X4, X5, X6, hre⟩ := oR.slices
          subst hre
          have lR : w18.heap.size ≤ v3.heap.size := s3.size
          have hR : v4.heap.size ≤ v4.heap.size := Nat.le_refl _
          have jW := (Array.getElem?_eq_some_iff.1 hW).1
          have nR : ∀ g, ((Value.slice X1 X2 X3).ownBlock = some g ∨ (Value.slice X4 X5 X6).ownBlock = some g) → gW ≠ g := fun g h => by have := oR.liesX g h; omega
          have hW := (b.block _ (Array.getElem?_eq_some_iff.1 hW).1).trans hW
          clear b U1 U2
          refine ⟨_, rfl, hK _ _ ⟨s4, ?_⟩⟩
          simp only [Act.put, List.setIfInBounds_toArray, List.set_cons_zero, List.set_cons_succ]
          refine wpAnyH_take (i := 5) (oi := { dst := some 94, op := Op.move (Operand.tmp 99), type := 28, pos := "exact.go:3288", after := #[{ on := 4, ground := Ground.data }], guard := none }) (v := ?_) rfl (by kernel_rfl) (by kernel_rfl) (by kernel_rfl) (fun _ _ _ h => by obtain ⟨_, _, _, _, _, _, _, _, _, h, _⟩ := h; cases h) (Or.inl ⟨by rfl, ?_⟩) s4 ?_
          rotate_left
          · intro W hSw
            go_simp
            try with_reducible rfl
          simp only [Act.put, List.setIfInBounds_toArray, List.set_cons_zero, List.set_cons_succ]
          refine wpAnyH_take (i := 6) (oi := { dst := some 100, op := Op.extract (Operand.tmp 94) 0, type := 26, pos := "exact.go:3288", after := #[{ on := 5, ground := Ground.data }], guard := none }) (v := ?_) rfl (by kernel_rfl) (by kernel_rfl) (by kernel_rfl) (fun _ _ _ h => by obtain ⟨_, _, _, _, _, _, _, _, _, h, _⟩ := h; cases h) (Or.inl ⟨by rfl, ?_⟩) s4 ?_
          rotate_left
          · intro W hSw
            go_simp
            try with_reducible rfl
          simp only [Act.put, List.setIfInBounds_toArray, List.set_cons_zero, List.set_cons_succ]
          refine wpAnyH_take (i := 7) (oi := { dst := some 101, op := Op.extract (Operand.tmp 94) 1, type := 3, pos := "exact.go:3288", after := #[{ on := 5, ground := Ground.data }, { on := 9, ground := Ground.gcOnly Departure.lateStores }], guard := none }) (v := ?_) rfl (by kernel_rfl) (by kernel_rfl) (by kernel_rfl) (fun _ _ _ h => by obtain ⟨_, _, _, _, _, _, _, _, _, h, _⟩ := h; cases h) (Or.inl ⟨by rfl, ?_⟩) s4 ?_
          rotate_left
          · intro W hSw
            go_simp
            try with_reducible rfl
          simp only [Act.put, List.setIfInBounds_toArray, List.set_cons_zero, List.set_cons_succ]
          have x0 : v4.cell? ⟨gW, 0, none⟩ = some (.int .i64 0) := row_cell hW
          have x1 : v4.cell? ⟨gW, 1, none⟩ = some (.int .i64 0) := row_cell hW
          have x2 : v4.cell? ⟨gW, 2, none⟩ = some (.slice none 0 0) := row_cell hW
          have x3 : v4.cell? ⟨gW, 3, none⟩ = some (.slice none 0 0) := row_cell hW
          have y0 : v4.frozen? ⟨gW, 0, none⟩ = false := row_free hW
          have y1 : v4.frozen? ⟨gW, 1, none⟩ = false := row_free hW
          have y2 : v4.frozen? ⟨gW, 2, none⟩ = false := row_free hW
          have y3 : v4.frozen? ⟨gW, 3, none⟩ = false := row_free hW
          have z5 : Below w18.heap.size w18 (put4 v4 gW y.p y.w (.slice X1 X2 X3) (.slice X4 X5 X6)) := bl_put4 s4 lW
          refine wpAnyH_one (i := 9) (by kernel_rfl) ?_
          refine wpOp_step (o := { dst := none, op := Op.store 26 (Operand.tmp 15) (Operand.tmp 100), type := 0, pos := "exact.go:3288", after := #[{ on := 8, ground := Ground.data }, { on := 6, ground := Ground.data }, { on := 4, ground := Ground.chain }, { on := 0, ground := Ground.phase }, { on := 1, ground := Ground.phase }, { on := 2, ground := Ground.phase }, { on := 3, ground := Ground.phase }, { on := 4, ground := Ground.phase }, { on := 5, ground := Ground.phase }, { on := 6, ground := Ground.phase }, { on := 7, ground := Ground.textOnly Departure.lateStores }, { on := 8, ground := Ground.phase }], guard := none }) rfl fun K' hK => step_skipW (by rfl) (put4 v4 gW y.p y.w (.slice X1 X2 X3) (.slice X4 X5 X6)) (by go_simp) ?_
          refine hK _ _ ⟨z5, ?_⟩
          try simp only [Act.put]
          refine wpAnyH_take (i := 10) (oi := { dst := some 16, op := Op.assign (Operand.tmp 101), type := 3, pos := "exact.go:3288", after := #[{ on := 7, ground := Ground.data }, { on := 9, ground := Ground.chain }, { on := 0, ground := Ground.phase }, { on := 1, ground := Ground.phase }, { on := 2, ground := Ground.phase }, { on := 3, ground := Ground.phase }, { on := 4, ground := Ground.phase }, { on := 5, ground := Ground.phase }, { on := 6, ground := Ground.phase }, { on := 7, ground := Ground.phase }, { on := 8, ground := Ground.phase }, { on := 9, ground := Ground.phase }], guard := none }) (v := ?_) rfl (by kernel_rfl) (by kernel_rfl) (by kernel_rfl) (fun _ _ _ h => by obtain ⟨_, _, _, _, _, _, _, _, _, h, _⟩ := h; cases h) (Or.inl ⟨by rfl, ?_⟩) z5 ?_
          rotate_left
          · intro W hSw
            go_simp
            try with_reducible rfl
          simp only [Act.put, List.setIfInBounds_toArray, List.set_cons_zero, List.set_cons_succ]
          refine wpAnyH_done (by kernel_rfl) ?_ _
          refine ⟨X1, X2, X3, X4, X5, X6, u1, u2, gW, rfl, rfl, ?_, ?_, lW, ?_, z5⟩
          · refine (oR.loneX (lone_put4 v4 gW y.p y.w _ _) nR).wide lR ?_
            rw [size_put4]; exact hR
          · exact bc_row (row_put4 hW y.p y.w _ _)
          · rw [size_put4]; exact (Array.getElem?_eq_some_iff.1 hW).1
      · have s2 : Below w18.heap.size w18 (v1.alloc (.cells #[.int .i64 0, .int .i64 0, .slice none 0 0, .slice none 0 0] 26)) := bl_al s1
        have b : Below v1.heap.size v1 (v1.alloc (.cells #[.int .i64 0, .int .i64 0, .slice none 0 0, .slice none 0 0] 26)) := bl_al (Below.refl _ _)
        have hW := heap_alloc_new v1 (.cells #[.int .i64 0, .int .i64 0, .slice none 0 0, .slice none 0 0] 26)
        have lW : w18.heap.size ≤ v1.heap.size := s1.size
        have U1 := U1.below b
        clear b
        refine wpOp_step (o := { dst := some 15, op := Op.alloc 26, type := 0, pos := "exact.go:3288", after := #[], guard := none }) rfl fun K' hK => step_valueW (by rfl) (.pointer (some ⟨v1.heap.size, 0, none⟩)) (v1.alloc (.cells #[.int .i64 0, .int .i64 0, .slice none 0 0, .slice none 0 0] 26)) (by go_simp) ?_
        refine hK _ _ ⟨s2, ?_⟩
        simp only [Act.put, List.setIfInBounds_toArray, List.set_cons_zero, List.set_cons_succ]
        obtain ⟨gW, hgW⟩ : ∃ gW, gW = v1.heap.size := ⟨_, rfl⟩
        rw [← hgW] at hW lW ⊢
        generalize v1.alloc (.cells #[.int .i64 0, .int .i64 0, .slice none 0 0, .slice none 0 0] 26) = v2 at *
        clear hgW
        refine wpAnyH_one (i := 3) (by kernel_rfl) ?_
        refine wpOp_step (o := { dst := some 98, op := Op.call { callee := Callee.value (Operand.func 38), args := #[Operand.tmp 97], argTypes := #[52] }, type := 26, pos := "exact.go:3288", after := #[{ on := 2, ground := Ground.data }, { on := 1, ground := Ground.chain }], guard := none }) rfl fun K' hK => step_enterW (by rfl) 38 #[bloV p' wd' a' b'] (by go_simp) ((unhide HTO' (unhide HN') v2 (((unhide HV').below (unhide B_211)).below s2)).mono ?_)
        rintro e v3 ⟨u2, rfl, o2, b⟩
        have s3 := bl_st b s2
        have U1 := U1.below b
        have U2 := o2.blm
        clear o2
        have hW := (b.block _ (Array.getElem?_eq_some_iff.1 hW).1).trans hW
        clear b
        refine ⟨_, rfl, hK _ _ ⟨s3, ?_⟩⟩
        simp only [Act.put, List.setIfInBounds_toArray, List.set_cons_zero, List.set_cons_succ]
        refine wpAnyH_one (i := 4) (by kernel_rfl) ?_
        refine wpOp_step (o := { dst := some 99, op := Op.call { callee := Callee.value (Operand.func 20), args := #[Operand.tmp 96, Operand.tmp 98], argTypes := #[26, 26] }, type := 28, pos := "exact.go:3288", after := #[{ on := 1, ground := Ground.data }, { on := 3, ground := Ground.data }, { on := 3, ground := Ground.chain }], guard := none }) rfl fun K' hK => step_enterW (by rfl) 20 #[u1, u2] (by go_simp) ((unhide HIM (unhide HN) (unhide HN') u1 u2 v3 U1 U2).mono ?_)
        rintro e v4 ⟨r3, rfl, oR, b⟩
        have s4 := bl_st b s3
        obtain ⟨X1, X2, X3, X4, X5, X6, hre⟩ := oR.slices
        subst hre
        have lR : w18.heap.size ≤ v3.heap.size := s3.size
        have hR : v4.heap.size ≤ v4.heap.size := Nat.le_refl _
        have jW := (Array.getElem?_eq_some_iff.1 hW).1
        have nR : ∀ g, ((Value.slice X1 X2 X3).ownBlock = some g ∨ (Value.slice X4 X5 X6).ownBlock = some g) → gW ≠ g := fun g h => by have := oR.liesX g h; omega
        have hW := (b.block _ (Array.getElem?_eq_some_iff.1 hW).1).trans hW
        clear b U1 U2
        refine ⟨_, rfl, hK _ _ ⟨s4, ?_⟩⟩
        simp only [Act.put, List.setIfInBounds_toArray, List.set_cons_zero, List.set_cons_succ]
        refine wpAnyH_take (i := 5) (oi := { dst := some 94, op := Op.move (Operand.tmp 99), type := 28, pos := "exact.go:3288", after := #[{ on := 4, ground := Ground.data }], guard := none }) (v := ?_) rfl (by kernel_rfl) (by kernel_rfl) (by kernel_rfl) (fun _ _ _ h => by obtain ⟨_, _, _, _, _, _, _, _, _, h, _⟩ := h; cases h) (Or.inl ⟨by rfl, ?_⟩) s4 ?_
        rotate_left
        · intro W hSw
          go_simp
          try with_reducible rfl
        simp only [Act.put, List.setIfInBounds_toArray, List.set_cons_zero, List.set_cons_succ]
        refine wpAnyH_take (i := 6) (oi := { dst := some 100, op := Op.extract (Operand.tmp 94) 0, type := 26, pos := "exact.go:3288", after := #[{ on := 5, ground := Ground.data }], guard := none }) (v := ?_) rfl (by kernel_rfl) (by kernel_rfl) (by kernel_rfl) (fun _ _ _ h => by obtain ⟨_, _, _, _, _, _, _, _, _, h, _⟩ := h; cases h) (Or.inl ⟨by rfl, ?_⟩) s4 ?_
        rotate_left
        · intro W hSw
          go_simp
          try with_reducible rfl
        simp only [Act.put, List.setIfInBounds_toArray, List.set_cons_zero, List.set_cons_succ]
        refine wpAnyH_take (i := 7) (oi := { dst := some 101, op := Op.extract (Operand.tmp 94) 1, type := 3, pos := "exact.go:3288", after := #[{ on := 5, ground := Ground.data }, { on := 9, ground := Ground.gcOnly Departure.lateStores }], guard := none }) (v := ?_) rfl (by kernel_rfl) (by kernel_rfl) (by kernel_rfl) (fun _ _ _ h => by obtain ⟨_, _, _, _, _, _, _, _, _, h, _⟩ := h; cases h) (Or.inl ⟨by rfl, ?_⟩) s4 ?_
        rotate_left
        · intro W hSw
          go_simp
          try with_reducible rfl
        simp only [Act.put, List.setIfInBounds_toArray, List.set_cons_zero, List.set_cons_succ]
        have x0 : v4.cell? ⟨gW, 0, none⟩ = some (.int .i64 0) := row_cell hW
        have x1 : v4.cell? ⟨gW, 1, none⟩ = some (.int .i64 0) := row_cell hW
        have x2 : v4.cell? ⟨gW, 2, none⟩ = some (.slice none 0 0) := row_cell hW
        have x3 : v4.cell? ⟨gW, 3, none⟩ = some (.slice none 0 0) := row_cell hW
        have y0 : v4.frozen? ⟨gW, 0, none⟩ = false := row_free hW
        have y1 : v4.frozen? ⟨gW, 1, none⟩ = false := row_free hW
        have y2 : v4.frozen? ⟨gW, 2, none⟩ = false := row_free hW
        have y3 : v4.frozen? ⟨gW, 3, none⟩ = false := row_free hW
        have z5 : Below w18.heap.size w18 (put4 v4 gW y.p y.w (.slice X1 X2 X3) (.slice X4 X5 X6)) := bl_put4 s4 lW
        refine wpAnyH_one (i := 9) (by kernel_rfl) ?_
        refine wpOp_step (o := { dst := none, op := Op.store 26 (Operand.tmp 15) (Operand.tmp 100), type := 0, pos := "exact.go:3288", after := #[{ on := 8, ground := Ground.data }, { on := 6, ground := Ground.data }, { on := 4, ground := Ground.chain }, { on := 0, ground := Ground.phase }, { on := 1, ground := Ground.phase }, { on := 2, ground := Ground.phase }, { on := 3, ground := Ground.phase }, { on := 4, ground := Ground.phase }, { on := 5, ground := Ground.phase }, { on := 6, ground := Ground.phase }, { on := 7, ground := Ground.textOnly Departure.lateStores }, { on := 8, ground := Ground.phase }], guard := none }) rfl fun K' hK => step_skipW (by rfl) (put4 v4 gW y.p y.w (.slice X1 X2 X3) (.slice X4 X5 X6)) (by go_simp) ?_
        refine hK _ _ ⟨z5, ?_⟩
        try simp only [Act.put]
        refine wpAnyH_take (i := 10) (oi := { dst := some 16, op := Op.assign (Operand.tmp 101), type := 3, pos := "exact.go:3288", after := #[{ on := 7, ground := Ground.data }, { on := 9, ground := Ground.chain }, { on := 0, ground := Ground.phase }, { on := 1, ground := Ground.phase }, { on := 2, ground := Ground.phase }, { on := 3, ground := Ground.phase }, { on := 4, ground := Ground.phase }, { on := 5, ground := Ground.phase }, { on := 6, ground := Ground.phase }, { on := 7, ground := Ground.phase }, { on := 8, ground := Ground.phase }, { on := 9, ground := Ground.phase }], guard := none }) (v := ?_) rfl (by kernel_rfl) (by kernel_rfl) (by kernel_rfl) (fun _ _ _ h => by obtain ⟨_, _, _, _, _, _, _, _, _, h, _⟩ := h; cases h) (Or.inl ⟨by rfl, ?_⟩) z5 ?_
        rotate_left
        · intro W hSw
          go_simp
          try with_reducible rfl
        simp only [Act.put, List.setIfInBounds_toArray, List.set_cons_zero, List.set_cons_succ]
        refine wpAnyH_done (by kernel_rfl) ?_ _
        refine ⟨X1, X2, X3, X4, X5, X6, u1, u2, gW, rfl, rfl, ?_, ?_, lW, ?_, z5⟩
        · refine (oR.loneX (lone_put4 v4 gW y.p y.w _ _) nR).wide lR ?_
          rw [size_put4]; exact hR
        · exact bc_row (row_put4 hW y.p y.w _ _)
        · rw [size_put4]; exact (Array.getElem?_eq_some_iff.1 hW).1
    · have s1 : Below w18.heap.size w18 (v0.alloc (.cells #[.int .i64 0, .int .i64 0, .slice none 0 0, .slice none 0 0] 26)) := bl_al s0
      have b : Below v0.heap.size v0 (v0.alloc (.cells #[.int .i64 0, .int .i64 0, .slice none 0 0, .slice none 0 0] 26)) := bl_al (Below.refl _ _)
      have hW := heap_alloc_new v0 (.cells #[.int .i64 0, .int .i64 0, .slice none 0 0, .slice none 0 0] 26)
      have lW : w18.heap.size ≤ v0.heap.size := s0.size
      clear b
      refine wpOp_step (o := { dst := some 15, op := Op.alloc 26, type := 0, pos := "exact.go:3288", after := #[], guard := none }) rfl fun K' hK => step_valueW (by rfl) (.pointer (some ⟨v0.heap.size, 0, none⟩)) (v0.alloc (.cells #[.int .i64 0, .int .i64 0, .slice none 0 0, .slice none 0 0] 26)) (by go_simp) ?_
      refine hK _ _ ⟨s1, ?_⟩
      simp only [Act.put, List.setIfInBounds_toArray, List.set_cons_zero, List.set_cons_succ]
      obtain ⟨gW, hgW⟩ : ∃ gW, gW = v0.heap.size := ⟨_, rfl⟩
      rw [← hgW] at hW lW ⊢
      generalize v0.alloc (.cells #[.int .i64 0, .int .i64 0, .slice none 0 0, .slice none 0 0] 26) = v1 at *
      clear hgW
      refine wpAnyH_one (i := 1) (by kernel_rfl) ?_
      refine wpOp_step (o := { dst := some 96, op := Op.call { callee := Callee.value (Operand.func 38), args := #[Operand.tmp 95], argTypes := #[52] }, type := 26, pos := "exact.go:3288", after := #[{ on := 0, ground := Ground.data }], guard := none }) rfl fun K' hK => step_enterW (by rfl) 38 #[bloV p wd a b] (by go_simp) ((unhide HTO (unhide HN) v1 (((unhide HV).below (unhide B_211)).below s1)).mono ?_)
      rintro e v2 ⟨u1, rfl, o1, b⟩
      have s2 := bl_st b s1
      have U1 := o1.blm
      clear o1
      have hW := (b.block _ (Array.getElem?_eq_some_iff.1 hW).1).trans hW
      clear b
      refine ⟨_, rfl, hK _ _ ⟨s2, ?_⟩⟩
      simp only [Act.put, List.setIfInBounds_toArray, List.set_cons_zero, List.set_cons_succ]
      refine wpAnyH_one (i := 3) (by kernel_rfl) ?_
      refine wpOp_step (o := { dst := some 98, op := Op.call { callee := Callee.value (Operand.func 38), args := #[Operand.tmp 97], argTypes := #[52] }, type := 26, pos := "exact.go:3288", after := #[{ on := 2, ground := Ground.data }, { on := 1, ground := Ground.chain }], guard := none }) rfl fun K' hK => step_enterW (by rfl) 38 #[bloV p' wd' a' b'] (by go_simp) ((unhide HTO' (unhide HN') v2 (((unhide HV').below (unhide B_211)).below s2)).mono ?_)
      rintro e v3 ⟨u2, rfl, o2, b⟩
      have s3 := bl_st b s2
      have U1 := U1.below b
      have U2 := o2.blm
      clear o2
      have hW := (b.block _ (Array.getElem?_eq_some_iff.1 hW).1).trans hW
      clear b
      refine ⟨_, rfl, hK _ _ ⟨s3, ?_⟩⟩
      simp only [Act.put, List.setIfInBounds_toArray, List.set_cons_zero, List.set_cons_succ]
      refine wpAnyH_one (i := 4) (by kernel_rfl) ?_
      refine wpOp_step (o := { dst := some 99, op := Op.call { callee := Callee.value (Operand.func 20), args := #[Operand.tmp 96, Operand.tmp 98], argTypes := #[26, 26] }, type := 28, pos := "exact.go:3288", after := #[{ on := 1, ground := Ground.data }, { on := 3, ground := Ground.data }, { on := 3, ground := Ground.chain }], guard := none }) rfl fun K' hK => step_enterW (by rfl) 20 #[u1, u2] (by go_simp) ((unhide HIM (unhide HN) (unhide HN') u1 u2 v3 U1 U2).mono ?_)
      rintro e v4 ⟨r3, rfl, oR, b⟩
      have s4 := bl_st b s3
      obtain ⟨X1, X2, X3, X4, X5, X6, hre⟩ := oR.slices
      subst hre
      have lR : w18.heap.size ≤ v3.heap.size := s3.size
      have hR : v4.heap.size ≤ v4.heap.size := Nat.le_refl _
      have jW := (Array.getElem?_eq_some_iff.1 hW).1
      have nR : ∀ g, ((Value.slice X1 X2 X3).ownBlock = some g ∨ (Value.slice X4 X5 X6).ownBlock = some g) → gW ≠ g := fun g h => by have := oR.liesX g h; omega
      have hW := (b.block _ (Array.getElem?_eq_some_iff.1 hW).1).trans hW
      clear b U1 U2
      refine ⟨_, rfl, hK _ _ ⟨s4, ?_⟩⟩
      simp only [Act.put, List.setIfInBounds_toArray, List.set_cons_zero, List.set_cons_succ]
      refine wpAnyH_take (i := 5) (oi := { dst := some 94, op := Op.move (Operand.tmp 99), type := 28, pos := "exact.go:3288", after := #[{ on := 4, ground := Ground.data }], guard := none }) (v := ?_) rfl (by kernel_rfl) (by kernel_rfl) (by kernel_rfl) (fun _ _ _ h => by obtain ⟨_, _, _, _, _, _, _, _, _, h, _⟩ := h; cases h) (Or.inl ⟨by rfl, ?_⟩) s4 ?_
      rotate_left
      · intro W hSw
        go_simp
        try with_reducible rfl
      simp only [Act.put, List.setIfInBounds_toArray, List.set_cons_zero, List.set_cons_succ]
      refine wpAnyH_take (i := 6) (oi := { dst := some 100, op := Op.extract (Operand.tmp 94) 0, type := 26, pos := "exact.go:3288", after := #[{ on := 5, ground := Ground.data }], guard := none }) (v := ?_) rfl (by kernel_rfl) (by kernel_rfl) (by kernel_rfl) (fun _ _ _ h => by obtain ⟨_, _, _, _, _, _, _, _, _, h, _⟩ := h; cases h) (Or.inl ⟨by rfl, ?_⟩) s4 ?_
      rotate_left
      · intro W hSw
        go_simp
        try with_reducible rfl
      simp only [Act.put, List.setIfInBounds_toArray, List.set_cons_zero, List.set_cons_succ]
      refine wpAnyH_take (i := 7) (oi := { dst := some 101, op := Op.extract (Operand.tmp 94) 1, type := 3, pos := "exact.go:3288", after := #[{ on := 5, ground := Ground.data }, { on := 9, ground := Ground.gcOnly Departure.lateStores }], guard := none }) (v := ?_) rfl (by kernel_rfl) (by kernel_rfl) (by kernel_rfl) (fun _ _ _ h => by obtain ⟨_, _, _, _, _, _, _, _, _, h, _⟩ := h; cases h) (Or.inl ⟨by rfl, ?_⟩) s4 ?_
      rotate_left
      · intro W hSw
        go_simp
        try with_reducible rfl
      simp only [Act.put, List.setIfInBounds_toArray, List.set_cons_zero, List.set_cons_succ]
      have x0 : v4.cell? ⟨gW, 0, none⟩ = some (.int .i64 0) := row_cell hW
      have x1 : v4.cell? ⟨gW, 1, none⟩ = some (.int .i64 0) := row_cell hW
      have x2 : v4.cell? ⟨gW, 2, none⟩ = some (.slice none 0 0) := row_cell hW
      have x3 : v4.cell? ⟨gW, 3, none⟩ = some (.slice none 0 0) := row_cell hW
      have y0 : v4.frozen? ⟨gW, 0, none⟩ = false := row_free hW
      have y1 : v4.frozen? ⟨gW, 1, none⟩ = false := row_free hW
      have y2 : v4.frozen? ⟨gW, 2, none⟩ = false := row_free hW
      have y3 : v4.frozen? ⟨gW, 3, none⟩ = false := row_free hW
      have z5 : Below w18.heap.size w18 (put4 v4 gW y.p y.w (.slice X1 X2 X3) (.slice X4 X5 X6)) := bl_put4 s4 lW
      refine wpAnyH_one (i := 9) (by kernel_rfl) ?_
      refine wpOp_step (o := { dst := none, op := Op.store 26 (Operand.tmp 15) (Operand.tmp 100), type := 0, pos := "exact.go:3288", after := #[{ on := 8, ground := Ground.data }, { on := 6, ground := Ground.data }, { on := 4, ground := Ground.chain }, { on := 0, ground := Ground.phase }, { on := 1, ground := Ground.phase }, { on := 2, ground := Ground.phase }, { on := 3, ground := Ground.phase }, { on := 4, ground := Ground.phase }, { on := 5, ground := Ground.phase }, { on := 6, ground := Ground.phase }, { on := 7, ground := Ground.textOnly Departure.lateStores }, { on := 8, ground := Ground.phase }], guard := none }) rfl fun K' hK => step_skipW (by rfl) (put4 v4 gW y.p y.w (.slice X1 X2 X3) (.slice X4 X5 X6)) (by go_simp) ?_
      refine hK _ _ ⟨z5, ?_⟩
      try simp only [Act.put]
      refine wpAnyH_take (i := 10) (oi := { dst := some 16, op := Op.assign (Operand.tmp 101), type := 3, pos := "exact.go:3288", after := #[{ on := 7, ground := Ground.data }, { on := 9, ground := Ground.chain }, { on := 0, ground := Ground.phase }, { on := 1, ground := Ground.phase }, { on := 2, ground := Ground.phase }, { on := 3, ground := Ground.phase }, { on := 4, ground := Ground.phase }, { on := 5, ground := Ground.phase }, { on := 6, ground := Ground.phase }, { on := 7, ground := Ground.phase }, { on := 8, ground := Ground.phase }, { on := 9, ground := Ground.phase }], guard := none }) (v := ?_) rfl (by kernel_rfl) (by kernel_rfl) (by kernel_rfl) (fun _ _ _ h => by obtain ⟨_, _, _, _, _, _, _, _, _, h, _⟩ := h; cases h) (Or.inl ⟨by rfl, ?_⟩) z5 ?_
      rotate_left
      · intro W hSw
        go_simp
        try with_reducible rfl
      simp only [Act.put, List.setIfInBounds_toArray, List.set_cons_zero, List.set_cons_succ]
      refine wpAnyH_done (by kernel_rfl) ?_ _
      refine ⟨X1, X2, X3, X4, X5, X6, u1, u2, gW, rfl, rfl, ?_, ?_, lW, ?_, z5⟩
      · refine (oR.loneX (lone_put4 v4 gW y.p y.w _ _) nR).wide lR ?_
        rw [size_put4]; exact hR
      · exact bc_row (row_put4 hW y.p y.w _ _)
      · rw [size_put4]; exact (Array.getElem?_eq_some_iff.1 hW).1
  rintro e aQ w19 ⟨X11, X12, X13, X14, X15, X16, u11, u12, gH, rfl, rfl, oh, ch, lH, jH, b19⟩
  have B_221 := hide (bl_st b19 (unhide B_211))
  have Q_222 := hide ((unhide Q_212).below b19)
  have P_223 := hide ((unhide P_213).below b19)
  have OW_224 := hide ((unhide OW_214).below b19)
  have WC_225 := hide ((unhide WC_215).below b19)
  have XC_226 := hide ((unhide XC_216).below b19)
  have YC_227 := hide ((unhide YC_217).below b19)
  have GC_228 := hide ((unhide GC_218).below b19)
  have OG_229 := hide ((unhide OG_219).below b19)
  have Z230 := hide b19.size
  clear B_211 Q_212 P_213 OW_214 WC_215 XC_216 YC_217 GC_218 OG_219
  have OH0 := hide oh
  have CH0 := hide ch
  have LH := hide lH
  have JH := hide jH
  clear oh ch lH jH b19
  obtain ⟨_, c231, c232, c233, c234⟩ := unhide CH0
  obtain ⟨_, c235, c236, c237, c238⟩ := unhide WC_225
  go_wp2_with fail
  refine (unhide HEY _ _ w19 (unhide OH0).blm (unhide OW_224).blm).mono ?_
  rintro e w20 ⟨rfl, b20⟩
  clear c231 c232 c233 c234 c235 c236 c237 c238
  have B_239 := hide (bl_st b20 (unhide B_221))
  have Q_240 := hide ((unhide Q_222).below b20)
  have P_241 := hide ((unhide P_223).below b20)
  have OW_242 := hide ((unhide OW_224).below b20)
  have WC_243 := hide ((unhide WC_225).below b20)
  have XC_244 := hide ((unhide XC_226).below b20)
  have YC_245 := hide ((unhide YC_227).below b20)
  have GC_246 := hide ((unhide GC_228).below b20)
  have OG_247 := hide ((unhide OG_229).below b20)
  have OH_248 := hide ((unhide OH0).below b20)
  have HC_249 := hide ((unhide CH0).below b20)
  have Z250 := hide b20.size
  clear B_221 Q_222 P_223 OW_224 WC_225 XC_226 YC_227 GC_228 OG_229 OH0 CH0
  clear b20
  obtain ⟨_, c251, c252, c253, c254⟩ := unhide GC_246
  go_wp2_with fail
  refine (unhide HHY _ w20 (unhide OG_247).blm).mono ?_
  rintro e w21 ⟨rfl, b21⟩
  clear c251 c252 c253 c254
  have B_255 := hide (bl_st b21 (unhide B_239))
  have Q_256 := hide ((unhide Q_240).below b21)
  have P_257 := hide ((unhide P_241).below b21)
  have OW_258 := hide ((unhide OW_242).below b21)
  have WC_259 := hide ((unhide WC_243).below b21)
  have XC_260 := hide ((unhide XC_244).below b21)
  have YC_261 := hide ((unhide YC_245).below b21)
  have GC_262 := hide ((unhide GC_246).below b21)
  have OG_263 := hide ((unhide OG_247).below b21)
  have OH_264 := hide ((unhide OH_248).below b21)
  have HC_265 := hide ((unhide HC_249).below b21)
  have Z266 := hide b21.size
  clear B_239 Q_240 P_241 OW_242 WC_243 XC_244 YC_245 GC_246 OG_247 OH_248 HC_249
  clear b21
  go_wp2
  go_ret
  exact ⟨rfl, unhide B_255⟩
end Go.Proofs.Ythckgccfjpgbaaa
