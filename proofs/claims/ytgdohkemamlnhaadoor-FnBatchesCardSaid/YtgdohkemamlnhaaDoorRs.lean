/- The specification reads a message. -/
import Derived.Test.YtgdohkemamlnhaaDoorRz
namespace Go.Proofs.YtgdohkemamlnhaaDoor
open Go.RowKit
set_option maxHeartbeats 4000000
set_option maxRecDepth 20000
theorem slice_mid (g off l cap lo hi : Nat) (h1 : lo ≤ hi) (h2 : hi ≤ l) (h3 : l ≤ cap) (h4 : lo < cap) (W : World) : (Instr.slice 22 (.slice (some ⟨g, off, none⟩) l cap) (some (.int .i64 (lo : Int))) (some (.int .i64 (hi : Int))) none).run Tryd.prog W = .ok (.slice (some ⟨g, off + lo, none⟩) (hi - lo) (cap - lo)) W := by
  have a0 : (0 : Int) ≤ (lo : Int) := by omega
  have a1 : (lo : Int) ≤ (hi : Int) := by omega
  have a2 : (hi : Int) ≤ (cap : Int) := by omega
  have a3 : ¬ cap = lo := by omega
  clear h1 h2 h3 h4
  go_simp
theorem rowAt.only {q g off : Nat} {xs : List Int} {W W' : World} (h : rowAt W g off xs) (ho : Only q W W') (hg : g ≠ q) : rowAt W' g off xs :=
  ⟨Nat.lt_of_lt_of_le h.lt ho.size, fun i hi => by
    rw [← h.cell i hi]
    unfold World.cell?
    rw [show (⟨g, off + i, none⟩ : Addr).block = g from rfl, ho.block g h.lt hg]⟩
theorem ownB.only {q base : Nat} {W W' : World} {v : Value} {xs : List Int} (h : ownB base W v xs) (ho : Only q W W') (hq : q < base) : ownB base W' v xs := by
  obtain ⟨hb, h | ⟨g, cap, rest, rfl, hg, hc, hcp⟩⟩ := h
  · exact ⟨hb, .inl h⟩
  · exact ⟨hb, .inr ⟨g, cap, rest, rfl, hg, (ho.block g (Array.getElem?_eq_some_iff.1 hc).1 (by omega)).trans hc, hcp⟩⟩
/-- the five cells of a message, stored -/
abbrev put5 (W : World) (q : Nat) (r s a : Int) (d t : ByteArray) : World := ((((W.setCell ⟨q, 0, none⟩ (.int .i64 r)).setCell ⟨q, 1, none⟩ (.int .i64 s)).setCell ⟨q, 2, none⟩ (.int .i64 a)).setCell ⟨q, 3, none⟩ (.string d)).setCell ⟨q, 4, none⟩ (.string t)
theorem put5_only (W : World) (q : Nat) (r s a : Int) (d t : ByteArray) : Only q W (put5 W q r s a d t) :=
  ((((only_setCell q 0 W _).trans (only_setCell q 1 _ _)).trans (only_setCell q 2 _ _)).trans (only_setCell q 3 _ _)).trans (only_setCell q 4 _ _)
theorem str_eq_dec {a b : List Int} (ha : isB a) (hb : isB b) : ((strOfNums a).toList == (strOfNums b).toList) = decide (a = b) := by
  rw [beq_str, Bool.eq_iff_iff]
  simp only [decide_eq_true_eq]
  exact ⟨str_inj ha hb, fun h => by rw [h]⟩
theorem step_skipW {P : Program} {ops : Array Oper} {o : Oper} {a : Act} {w : World} {K : Act → World → Prop} {Q : Exit → Act → World → Prop} {E : Prop} (hw : Region.wanted o (yielded ops a.tmps) = true) (w' : World) (hrun : (execOp a.eval o).run P w = .ok .skip w')
    (h : K (a.put o.dst undef) w') : if Region.wanted o (yielded ops a.tmps) = true then Oper.wp P o a w K Q else E := by
  rw [if_pos hw]
  unfold Oper.wp
  rw [hrun, Oper.upon_skip]
  exact h
theorem step_enterW {P : Program} {ops : Array Oper} {o : Oper} {a : Act} {w : World} {K : Act → World → Prop} {Q : Exit → Act → World → Prop} {E : Prop} (hw : Region.wanted o (yielded ops a.tmps) = true) (f : FuncId) (args : Array Value) (hrun : (execOp a.eval o).run P w = .ok (.enter f args) w)
    (hc : Calls P f args w fun e w' => ∃ v, e = .returned v ∧ K (a.put o.dst v) w') : if Region.wanted o (yielded ops a.tmps) = true then Oper.wp P o a w K Q else E := by
  rw [if_pos hw]
  unfold Oper.wp
  rw [hrun, Oper.upon_enter]
  refine hc.mono fun e w'' hh => ?_
  obtain ⟨v, rfl, hk⟩ := hh
  exact hk
theorem step_valueW {P : Program} {ops : Array Oper} {o : Oper} {a : Act} {w : World} {K : Act → World → Prop} {Q : Exit → Act → World → Prop} {E : Prop} (hw : Region.wanted o (yielded ops a.tmps) = true) (v : Value) (w' : World) (hrun : (execOp a.eval o).run P w = .ok (.value v) w')
    (h : K (a.put o.dst v) w') : if Region.wanted o (yielded ops a.tmps) = true then Oper.wp P o a w K Q else E := by
  rw [if_pos hw]
  unfold Oper.wp
  rw [hrun, Oper.upon_value]
  exact h
theorem wpAnyH_one {P : Program} {md : Region.Mode} {ops : Array Oper} {Q : Exit → Act → World → Prop} {S : World → Prop} {fuel : Nat} {listed : Array Bool} {a : Act} {w : World} {i : Nat} (hr : Region.ready md ops listed = [i])
    (h : wpOp P ops Q i (fun a' w' => S w' ∧ wpAnyH P md ops Q S fuel (listed.setIfInBounds i true) a' w') a w) : wpAnyH P md ops Q S (fuel + 1) listed a w :=
  wpAnyH_all hr (by simp) fun k hk => by
    obtain rfl : k = i := by simpa using hk
    exact h
theorem wpAnyH_two {P : Program} {md : Region.Mode} {ops : Array Oper} {Q : Exit → Act → World → Prop} {S : World → Prop} {fuel : Nat} {listed : Array Bool} {a : Act} {w : World} {i j : Nat} (hr : Region.ready md ops listed = [i, j])
    (h1 : wpOp P ops Q i (fun a' w' => S w' ∧ wpAnyH P md ops Q S fuel (listed.setIfInBounds i true) a' w') a w)
    (h2 : wpOp P ops Q j (fun a' w' => S w' ∧ wpAnyH P md ops Q S fuel (listed.setIfInBounds j true) a' w') a w) : wpAnyH P md ops Q S (fuel + 1) listed a w :=
  wpAnyH_all hr (by simp) fun k hk => by
    rcases List.mem_cons.1 hk with rfl | hk
    · exact h1
    · obtain rfl : k = j := by simpa using hk
      exact h2
theorem rd_ok (g off cap : Nat) (hcap : 64 ≤ cap) (xs : List Int) (hl : xs.length = 64) (hB : isB xs) (k : Nat) (hk : xs.getD 16 0 = (k : Int)) (k40 : k ≤ 40) (w : World) (hr : rowAt w g off xs) :
    Calls Tryd.prog 27 #[.slice (some ⟨g, off, none⟩) 64 cap] w fun e w' => e = .returned (.tuple #[msgV (rR xs) (rS xs) (rA xs) (rD xs) (rT xs k), .bool (rokM xs k)]) ∧ Below w.heap.size w w' := by
  have sl1 : ∀ W, (Instr.slice 22 (.slice (some ⟨g, off, none⟩) 64 cap) none (some (.int .i64 4)) none).run Tryd.prog W = .ok (.slice (some ⟨g, off, none⟩) 4 cap) W := fun W => slice_hi (some ⟨g, off, none⟩) 64 cap 4 hcap (by omega) W
  have sl2 : ∀ W, (Instr.slice 22 (.slice (some ⟨g, off, none⟩) 64 cap) (some (.int .i64 4)) (some (.int .i64 6)) none).run Tryd.prog W = .ok (.slice (some ⟨g, off + 4, none⟩) 2 (cap - 4)) W := fun W => slice_mid g off 64 cap 4 6 (by omega) (by omega) hcap (by omega) W
  have sl3 : ∀ W, (Instr.slice 22 (.slice (some ⟨g, off, none⟩) 64 cap) (some (.int .i64 6)) (some (.int .i64 8)) none).run Tryd.prog W = .ok (.slice (some ⟨g, off + 6, none⟩) 2 (cap - 6)) W := fun W => slice_mid g off 64 cap 6 8 (by omega) (by omega) hcap (by omega) W
  have sl4 : ∀ W, (Instr.slice 22 (.slice (some ⟨g, off, none⟩) 64 cap) (some (.int .i64 8)) (some (.int .i64 16)) none).run Tryd.prog W = .ok (.slice (some ⟨g, off + 8, none⟩) 8 (cap - 8)) W := fun W => slice_mid g off 64 cap 8 16 (by omega) (by omega) hcap (by omega) W
  have sl5 : ∀ W, (Instr.slice 22 (.slice (some ⟨g, off, none⟩) 64 cap) (some (.int .i64 17)) (some (.int .i64 (17 + (k : Int)))) none).run Tryd.prog W = .ok (.slice (some ⟨g, off + 17, none⟩) k (cap - 17)) W := fun W => by
    have := slice_mid g off 64 cap 17 (17 + k) (by omega) (by omega) hcap (by omega) W
    rw [show 17 + k - 17 = k by omega, show ((17 + k : Nat) : Int) = 17 + (k : Int) by omega] at this
    exact this
  have wk : IntKind.i64.wrap (17 + (k : Int)) = 17 + (k : Int) := by rw [IntKind.wrap_i64]; omega
  have wK : IntKind.i64.wrap (k : Int) = (k : Int) := by rw [IntKind.wrap_i64]; omega
  have sl7 : ∀ W, (Instr.slice 22 (.slice (some ⟨g, off, none⟩) 64 cap) (some (.int .i64 17)) (some (.int .i64 (IntKind.i64.wrap (17 + (k : Int))))) none).run Tryd.prog W = .ok (.slice (some ⟨g, off + 17, none⟩) k (cap - 17)) W := fun W => by rw [wk]; exact sl5 W
  obtain ⟨w1, hw1⟩ : ∃ w1, w1 = w.alloc (.cells #[.int .i64 0, .int .i64 0, .int .i64 0, .string ⟨#[]⟩, .string ⟨#[]⟩] 24) := ⟨_, rfl⟩
  have B0 : Below w.heap.size w w1 := by rw [hw1]; exact bl_al (Below.refl _ _)
  have N0 := hide (show w1.heap[w.heap.size]? = some (.cells #[.int .i64 0, .int .i64 0, .int .i64 0, .string ⟨#[]⟩, .string ⟨#[]⟩] 24 (0, 0)) by rw [hw1]; exact heap_at _ _ _ rfl)
  have hr1 : rowAt w1 g off xs := hr.below B0
  have B1 := hide (Below.refl w1.heap.size w1)
  have o1 : Hid (∀ W', Below w1.heap.size w1 W' → Calls Tryd.prog 30 #[.slice (some ⟨g, off, none⟩) 4 cap] W' fun e w' => e = .returned (.int .i64 (rR xs)) ∧ w' = W') := hide fun W' hb => of25 _ (cut xs 0 4) (by rw [cut_len xs 0 4 (by omega)]; omega) W' (((hr1.below hb).cut 0 4).bytes (cut_isB hB 0 4) 4 cap (cut_len xs 0 4 (by omega)).symm)
  have o2 : Hid (∀ W', Below w1.heap.size w1 W' → Calls Tryd.prog 30 #[.slice (some ⟨g, off + 4, none⟩) 2 (cap - 4)] W' fun e w' => e = .returned (.int .i64 (rS xs)) ∧ w' = W') := hide fun W' hb => of25 _ (cut xs 4 2) (by rw [cut_len xs 4 2 (by omega)]; omega) W' (((hr1.below hb).cut 4 2).bytes (cut_isB hB 4 2) 2 (cap - 4) (cut_len xs 4 2 (by omega)).symm)
  have o3 : Hid (∀ W', Below w1.heap.size w1 W' → Calls Tryd.prog 30 #[.slice (some ⟨g, off + 6, none⟩) 2 (cap - 6)] W' fun e w' => e = .returned (.int .i64 (rA xs)) ∧ w' = W') := hide fun W' hb => of25 _ (cut xs 6 2) (by rw [cut_len xs 6 2 (by omega)]; omega) W' (((hr1.below hb).cut 6 2).bytes (cut_isB hB 6 2) 2 (cap - 6) (cut_len xs 6 2 (by omega)).symm)
  have hS : Hid (∀ W', Below w1.heap.size w1 W' → W'.cell? ⟨g, off + 16, none⟩ = some (.int .u8 (k : Int)) ∧ (convert 22 9 (.slice (some ⟨g, off + 8, none⟩) 8 (cap - 8))).run Tryd.prog W' = .ok (.string (rD xs)) W' ∧ (convert 22 9 (.slice (some ⟨g, off + 17, none⟩) k (cap - 17))).run Tryd.prog W' = .ok (.string (rT xs k)) W' ∧ (convert 22 9 (.slice (some ⟨g, off, none⟩) 64 cap)).run Tryd.prog W' = .ok (.string (strOfNums xs)) W') := hide fun W' hb => by
    have h := hr1.below hb
    refine ⟨?_, (h.cut 8 8).conv _ _ (cut_len xs 8 8 (by omega)).symm, (h.cut 17 k).conv _ _ (cut_len xs 17 k (by omega)).symm, h.conv _ _ hl.symm⟩
    rw [h.cell 16 (by omega), hk]
  have hC : Hid (∀ W', Only w.heap.size w1 W' → (convert 22 9 (.slice (some ⟨g, off, none⟩) 64 cap)).run Tryd.prog W' = .ok (.string (strOfNums xs)) W') := hide fun W' ho => (hr1.only ho (by have := hr.lt; omega)).conv _ _ hl.symm
  have LZ : Hid (w.heap.size < w1.heap.size) := hide (Array.getElem?_eq_some_iff.1 (unhide N0)).1
  obtain ⟨p0, p1, p2, p3⟩ := unhide hS w1 (unhide B1)
  have ok := hide (ok7 (rR xs) (rS xs) (rA xs) (rD xs) (rT xs k))
  have k0 : (0 : Int) ≤ (k : Int) := by omega
  have k1 : (k : Int) ≤ 40 := by omega
  have RO : Hid (rokM xs k = (okM (rR xs) (rS xs) (rA xs) (rD xs) (rT xs k) && decide (mB (rR xs) (rS xs) (rA xs) (rD xs) (rT xs k) = xs))) := hide rfl
  have BY : Hid (okM (rR xs) (rS xs) (rA xs) (rD xs) (rT xs k) = true → ∀ W, Calls Tryd.prog 42 #[msgV (rR xs) (rS xs) (rA xs) (rD xs) (rT xs k)] W fun e w' => ∃ v, e = .returned v ∧ ownB W.heap.size w' v (mB (rR xs) (rS xs) (rA xs) (rD xs) (rT xs k)) ∧ Below W.heap.size W w') := hide fun h => by
    obtain ⟨d8, b40⟩ := okM_sizes h
    exact by20 _ _ _ _ _ d8 b40
  generalize rokM xs k = RK at *
  generalize rR xs = r at *
  generalize rS xs = s at *
  generalize rA xs = a at *
  generalize rD xs = d at *
  generalize rT xs k = t at *
  generalize (k : Int) = K at *
  have HB0 := hide B0
  have HBX := hide hB
  clear hr hr1 hk hl hB hcap B0
  subst hw1
  go_enter Tryd.func27, Tryd.ntmps27
  go_wp2
  generalize w.alloc (.cells #[.int .i64 0, .int .i64 0, .int .i64 0, .string ⟨#[]⟩, .string ⟨#[]⟩] 24) = w1 at *
  clear p0 p1 p2 p3
  rename_i Q1 hh K1 hK1
  suffices main : Exit.then K1 Q1 .normal { tmps := #[Value.slice (some { block := g, off := off }) 64 cap, undef, Value.pointer (some { block := w.heap.size, off := 0 }), Value.bool false, Value.pointer (some { block := w1.heap.size, off := 0 }), Value.slice (some { block := g, off := off }) 64 cap, Value.int IntKind.i64 64, Value.bool false, Value.bool false, Value.slice (some { block := g, off := off }) 64 cap, Value.pointer (some { block := g, off := off + 16 }), Value.int IntKind.u8 K, Value.int IntKind.i64 K, Value.bool (decide (40 < K)), Value.bool (decide (40 < K)), undef, Value.slice (some { block := g, off := off }) 64 cap, Value.slice (some { block := g, off := off }) 4 cap, Value.int IntKind.i64 r, Value.slice (some { block := g, off := off }) 64 cap, Value.slice (some { block := g, off := off + 4 }) 2 (cap - 4), Value.int IntKind.i64 s, Value.slice (some { block := g, off := off }) 64 cap, Value.slice (some { block := g, off := off + 6 }) 2 (cap - 6), Value.int IntKind.i64 a, Value.slice (some { block := g, off := off }) 64 cap, Value.slice (some { block := g, off := off + 8 }) 8 (cap - 8), Value.string d, Value.slice (some { block := g, off := off }) 64 cap, Value.slice (some { block := g, off := off }) 64 cap, Value.pointer (some { block := g, off := off + 16 }), Value.int IntKind.u8 K, Value.int IntKind.i64 K, Value.int IntKind.i64 (17 + K), Value.slice (some { block := g, off := off + 17 }) k (cap - 17), Value.string t, Value.agg #[Value.int IntKind.i64 r, Value.int IntKind.i64 s, Value.int IntKind.i64 a, Value.string d, Value.string t], undef, undef, undef, undef, undef, undef, undef, undef, undef, undef, undef], defers := [] } (w1.alloc (Obj.cells #[Value.int IntKind.i64 r, Value.int IntKind.i64 s, Value.int IntKind.i64 a, Value.string d, Value.string t] 24)).drew by
    go_region_held3 (fun W' => W'.cell? ⟨g, off + 16, none⟩ = some (.int .u8 K) ∧ (convert 22 9 (.slice (some ⟨g, off + 8, none⟩) 8 (cap - 8))).run Tryd.prog W' = .ok (.string d) W' ∧ (convert 22 9 (.slice (some ⟨g, off + 17, none⟩) k (cap - 17))).run Tryd.prog W' = .ok (.string t) W' ∧ (convert 22 9 (.slice (some ⟨g, off, none⟩) 64 cap)).run Tryd.prog W' = .ok (.string (strOfNums xs)) W')
      (first | exact unhide hS _ (below_drewN (unhide B1) 1) | exact unhide hS _ (bl_al (below_drewN (unhide B1) 1)) | exact unhide hS _ (unhide B1) | exact unhide hS _ (bl_al (unhide B1)) | assumption)
      (first
        | (go_at_call 30; (with_reducible refine (unhide o1 _ ?_).mono ?_); (first | exact below_drewN (unhide B1) 1 | exact bl_al (below_drewN (unhide B1) 1)); rintro e w2 ⟨rfl, rfl⟩)
        | (go_at_call 30; (with_reducible refine (unhide o2 _ ?_).mono ?_); (first | exact below_drewN (unhide B1) 1 | exact bl_al (below_drewN (unhide B1) 1)); rintro e w2 ⟨rfl, rfl⟩)
        | (go_at_call 30; (with_reducible refine (unhide o3 _ ?_).mono ?_); (first | exact below_drewN (unhide B1) 1 | exact bl_al (below_drewN (unhide B1) 1)); rintro e w2 ⟨rfl, rfl⟩))
    all_goals exact main
  have N1 := hide (show (w1.alloc (Obj.cells #[Value.int IntKind.i64 r, Value.int IntKind.i64 s, Value.int IntKind.i64 a, Value.string d, Value.string t] 24)).drew.heap[w1.heap.size]? = some (.cells #[Value.int IntKind.i64 r, Value.int IntKind.i64 s, Value.int IntKind.i64 a, Value.string d, Value.string t] 24 (0, 0)) from heap_at w1 _ _ rfl)
  have B2 := hide (show Below w1.heap.size w1 (w1.alloc (Obj.cells #[Value.int IntKind.i64 r, Value.int IntKind.i64 s, Value.int IntKind.i64 a, Value.string d, Value.string t] 24)).drew from below_drewN (bl_al (Below.refl _ _)) 1)
  generalize (w1.alloc (Obj.cells #[Value.int IntKind.i64 r, Value.int IntKind.i64 s, Value.int IntKind.i64 a, Value.string d, Value.string t] 24)).drew = w2 at *
  clear sl1 sl2 sl3 sl4 sl5 sl7 o1 o2 o3 wk wK hS
  have n0 : w2.heap[w.heap.size]? = some (.cells #[.int .i64 0, .int .i64 0, .int .i64 0, .string ⟨#[]⟩, .string ⟨#[]⟩] 24 (0, 0)) := ((unhide B2).block _ (unhide LZ)).trans (unhide N0)
  have LZ2 := hide (Array.getElem?_eq_some_iff.1 n0).1
  have LN : Hid (w1.heap.size < w2.heap.size) := hide (Array.getElem?_eq_some_iff.1 (unhide N1)).1
  have KS : Hid (∀ W', Only w.heap.size w2 W' → W'.cell? ⟨w1.heap.size, 0, none⟩ = some (.int .i64 r) ∧ W'.cell? ⟨w1.heap.size, 1, none⟩ = some (.int .i64 s) ∧ W'.cell? ⟨w1.heap.size, 2, none⟩ = some (.int .i64 a) ∧ W'.cell? ⟨w1.heap.size, 3, none⟩ = some (.string d) ∧ W'.cell? ⟨w1.heap.size, 4, none⟩ = some (.string t) ∧ (convert 22 9 (.slice (some ⟨g, off, none⟩) 64 cap)).run Tryd.prog W' = .ok (.string (strOfNums xs)) W') := hide fun W' ho => by
    have hn : W'.heap[w1.heap.size]? = some (.cells #[Value.int IntKind.i64 r, Value.int IntKind.i64 s, Value.int IntKind.i64 a, Value.string d, Value.string t] 24 (0, 0)) := (ho.block _ (unhide LN) (by have := unhide LZ; omega)).trans (unhide N1)
    exact ⟨row_cell hn, row_cell hn, row_cell hn, row_cell hn, row_cell hn, unhide hC W' ((Only.of_below (unhide B2)).trans ho)⟩
  have B02 := hide ((unhide HB0).trans ((unhide B2).mono (unhide HB0).size))
  have KZ : Hid (∀ W', Below w2.heap.size w2 W' → W'.heap[w.heap.size]? = some (.cells #[.int .i64 0, .int .i64 0, .int .i64 0, .string ⟨#[]⟩, .string ⟨#[]⟩] 24 (0, 0))) := hide fun W' hb => (hb.block _ (unhide LZ2)).trans n0
  clear n0 N0 N1 B1 B2 HB0
  obtain ⟨c0, c1, c2, c3, c4, cv⟩ := unhide KS w2 (Only.refl _ _)
  generalize w1.heap.size = z at *
  cases hok : okM r s a d t
  · rw [hok] at ok RO
    have eRK : RK = false := by rw [unhide RO]; rfl
    subst eRK
    clear RO BY hok hC cv
    go_wp2
    refine wp_region_held (S := (fun W' => W'.cell? ⟨z, 0, none⟩ = some (.int .i64 r) ∧ W'.cell? ⟨z, 1, none⟩ = some (.int .i64 s) ∧ W'.cell? ⟨z, 2, none⟩ = some (.int .i64 a) ∧ W'.cell? ⟨z, 3, none⟩ = some (.string d) ∧ W'.cell? ⟨z, 4, none⟩ = some (.string t) ∧ (convert 22 9 (.slice (some ⟨g, off, none⟩) 64 cap)).run Tryd.prog W' = .ok (.string (strOfNums xs)) W')) (by kernel_rfl) ?_
    have hS0 := unhide KS { w2 with drawn := w2.drawn + 1 } (Only.of_below (below_drewN (Below.refl _ _) 1))
    refine wpAnyH_take (i := 0) (oi := { dst := some 37, op := Op.load 24 (Operand.tmp 4), type := 24, pos := "l05_wire.go:47", after := #[], guard := none }) (v := ?_) rfl (by kernel_rfl) (by kernel_rfl) (by kernel_rfl) (fun _ _ _ h => h) (Or.inl ⟨by rfl, ?_⟩) hS0 ?_
    rotate_left
    · intro W hSw
      obtain ⟨c0, c1, c2, c3, c4, cv⟩ := hSw
      go_simp
      try with_reducible rfl
    simp only [Act.put, List.setIfInBounds_toArray, List.set_cons_zero, List.set_cons_succ]
    refine wpAnyH_take (i := 1) (oi := { dst := some 38, op := Op.load 24 (Operand.tmp 4), type := 24, pos := "l05_wire.go:47", after := #[], guard := none }) (v := ?_) rfl (by kernel_rfl) (by kernel_rfl) (by kernel_rfl) (fun _ _ _ h => h) (Or.inl ⟨by rfl, ?_⟩) hS0 ?_
    rotate_left
    · intro W hSw
      obtain ⟨c0, c1, c2, c3, c4, cv⟩ := hSw
      go_simp
      try with_reducible rfl
    simp only [Act.put, List.setIfInBounds_toArray, List.set_cons_zero, List.set_cons_succ]
    refine wpAnyH_one (i := 2) (by kernel_rfl) ?_
    refine wpOp_step (o := { dst := some 39, op := Op.call { callee := Callee.value (Operand.func 41), args := #[Operand.tmp 38], argTypes := #[24] }, type := 4, pos := "l05_wire.go:47", after := #[{ on := 1, ground := Ground.data }], guard := none }) rfl fun K' hK => step_enterW (by rfl) 41 #[msgV r s a d t] (by go_simp) ((unhide ok _).mono ?_)
    rintro e w3 ⟨rfl, b3'⟩
    have b3 := undrew b3'
    have d3 := unhide KS w3 (Only.of_below b3)
    have d5 := unhide KS (put5 w3 w.heap.size r s a d t) ((Only.of_below b3).trans (put5_only _ _ _ _ _ _ _))
    have n4 := unhide KZ w3 b3
    have p0 : w3.cell? ⟨w.heap.size, 0, none⟩ = some (.int .i64 0) := row_cell n4
    have y0 : w3.frozen? ⟨w.heap.size, 0, none⟩ = false := row_free n4
    have p1 : w3.cell? ⟨w.heap.size, 1, none⟩ = some (.int .i64 0) := row_cell n4
    have y1 : w3.frozen? ⟨w.heap.size, 1, none⟩ = false := row_free n4
    have p2 : w3.cell? ⟨w.heap.size, 2, none⟩ = some (.int .i64 0) := row_cell n4
    have y2 : w3.frozen? ⟨w.heap.size, 2, none⟩ = false := row_free n4
    have p3 : w3.cell? ⟨w.heap.size, 3, none⟩ = some (.string ⟨#[]⟩) := row_cell n4
    have y3 : w3.frozen? ⟨w.heap.size, 3, none⟩ = false := row_free n4
    have p4 : w3.cell? ⟨w.heap.size, 4, none⟩ = some (.string ⟨#[]⟩) := row_cell n4
    have y4 : w3.frozen? ⟨w.heap.size, 4, none⟩ = false := row_free n4
    refine ⟨_, rfl, hK _ _ ⟨d3, ?_⟩⟩
    simp only [Act.put, List.setIfInBounds_toArray, List.set_cons_zero, List.set_cons_succ]
    refine wpAnyH_take (i := 3) (oi := { dst := some 40, op := Op.move (Operand.tmp 39), type := 4, pos := "l05_wire.go:47", after := #[{ on := 2, ground := Ground.data }, { on := 2, ground := Ground.chain }], guard := none }) (v := ?_) rfl (by kernel_rfl) (by kernel_rfl) (by kernel_rfl) (fun _ _ _ h => h) (Or.inl ⟨by rfl, ?_⟩) d3 ?_
    rotate_left
    · intro W hSw
      obtain ⟨c0, c1, c2, c3, c4, cv⟩ := hSw
      go_simp
      try with_reducible rfl
    simp only [Act.put, List.setIfInBounds_toArray, List.set_cons_zero, List.set_cons_succ]
    refine wpAnyH_take (i := 4) (oi := { dst := some 41, op := Op.load 24 (Operand.tmp 4), type := 24, pos := "l05_wire.go:47", after := #[{ on := 3, ground := Ground.guard }], guard := some (3, true) }) (v := undef) rfl (by kernel_rfl) (by kernel_rfl) (by kernel_rfl) (fun _ _ _ h => h) (Or.inr ⟨by rfl, rfl⟩) d3 ?_
    simp only [Act.put, List.setIfInBounds_toArray, List.set_cons_zero, List.set_cons_succ]
    refine wpAnyH_take (i := 7) (oi := { dst := some 44, op := Op.move (Operand.tmp 0), type := 22, pos := "l05_wire.go:47", after := #[{ on := 3, ground := Ground.guard }, { on := 11, ground := Ground.gcOnly Departure.lateStores }], guard := some (3, true) }) (v := undef) rfl (by kernel_rfl) (by kernel_rfl) (by kernel_rfl) (fun _ _ _ h => h) (Or.inr ⟨by rfl, rfl⟩) d3 ?_
    simp only [Act.put, List.setIfInBounds_toArray, List.set_cons_zero, List.set_cons_succ]
    refine wpAnyH_take (i := 5) (oi := { dst := some 42, op := Op.call { callee := Callee.value (Operand.func 42), args := #[Operand.tmp 41], argTypes := #[24] }, type := 22, pos := "l05_wire.go:47", after := #[{ on := 4, ground := Ground.data }, { on := 3, ground := Ground.chain }, { on := 3, ground := Ground.guard }], guard := some (3, true) }) (v := undef) rfl (by kernel_rfl) (by kernel_rfl) (by kernel_rfl) (fun _ _ _ h => h) (Or.inr ⟨by rfl, rfl⟩) d3 ?_
    simp only [Act.put, List.setIfInBounds_toArray, List.set_cons_zero, List.set_cons_succ]
    refine wpAnyH_take (i := 6) (oi := { dst := some 43, op := Op.convert 22 9 (Operand.tmp 42), type := 9, pos := "l05_wire.go:47", after := #[{ on := 5, ground := Ground.data }, { on := 3, ground := Ground.guard }, { on := 11, ground := Ground.gcOnly Departure.lateStores }], guard := some (3, true) }) (v := undef) rfl (by kernel_rfl) (by kernel_rfl) (by kernel_rfl) (fun _ _ _ h => h) (Or.inr ⟨by rfl, rfl⟩) d3 ?_
    simp only [Act.put, List.setIfInBounds_toArray, List.set_cons_zero, List.set_cons_succ]
    refine wpAnyH_take (i := 8) (oi := { dst := some 45, op := Op.convert 22 9 (Operand.tmp 44), type := 9, pos := "l05_wire.go:47", after := #[{ on := 7, ground := Ground.data }, { on := 3, ground := Ground.guard }, { on := 11, ground := Ground.gcOnly Departure.lateStores }], guard := some (3, true) }) (v := undef) rfl (by kernel_rfl) (by kernel_rfl) (by kernel_rfl) (fun _ _ _ h => h) (Or.inr ⟨by rfl, rfl⟩) d3 ?_
    simp only [Act.put, List.setIfInBounds_toArray, List.set_cons_zero, List.set_cons_succ]
    refine wpAnyH_take (i := 9) (oi := { dst := some 46, op := Op.binOp BinOp.eql 9 (Operand.tmp 43) (Operand.tmp 45) 9, type := 4, pos := "l05_wire.go:47", after := #[{ on := 6, ground := Ground.data }, { on := 8, ground := Ground.data }, { on := 3, ground := Ground.guard }, { on := 11, ground := Ground.gcOnly Departure.lateStores }], guard := some (3, true) }) (v := undef) rfl (by kernel_rfl) (by kernel_rfl) (by kernel_rfl) (fun _ _ _ h => h) (Or.inr ⟨by rfl, rfl⟩) d3 ?_
    simp only [Act.put, List.setIfInBounds_toArray, List.set_cons_zero, List.set_cons_succ]
    refine wpAnyH_take (i := 10) (oi := { dst := some 47, op := Op.pick (Operand.tmp 40) (Operand.tmp 46) (Operand.const (Value.bool false)), type := 4, pos := "l05_wire.go:47", after := #[{ on := 3, ground := Ground.data }, { on := 9, ground := Ground.data }, { on := 11, ground := Ground.gcOnly Departure.lateStores }], guard := none }) (v := ?_) rfl (by kernel_rfl) (by kernel_rfl) (by kernel_rfl) (fun _ _ _ h => h) (Or.inl ⟨by rfl, ?_⟩) d3 ?_
    rotate_left
    · intro W hSw
      obtain ⟨c0, c1, c2, c3, c4, cv⟩ := hSw
      go_simp
      try with_reducible rfl
    simp only [Act.put, List.setIfInBounds_toArray, List.set_cons_zero, List.set_cons_succ]
    refine wpAnyH_one (i := 11) (by kernel_rfl) ?_
    refine wpOp_step (o := { dst := none, op := Op.store 24 (Operand.tmp 2) (Operand.tmp 37), type := 0, pos := "l05_wire.go:47", after := #[{ on := 0, ground := Ground.data }, { on := 5, ground := Ground.chain }, { on := 0, ground := Ground.phase }, { on := 1, ground := Ground.textOnly Departure.lateStores }, { on := 2, ground := Ground.textOnly Departure.lateStoresUnsure }, { on := 3, ground := Ground.textOnly Departure.lateStores }, { on := 4, ground := Ground.textOnly Departure.lateStores }, { on := 5, ground := Ground.textOnly Departure.lateStoresUnsure }, { on := 6, ground := Ground.textOnly Departure.lateStores }, { on := 7, ground := Ground.textOnly Departure.lateStores }, { on := 8, ground := Ground.textOnly Departure.lateStores }, { on := 9, ground := Ground.textOnly Departure.lateStores }, { on := 10, ground := Ground.textOnly Departure.lateStores }], guard := none }) rfl fun K' hK => step_skipW (by rfl) (put5 w3 w.heap.size r s a d t) (by go_simp) ?_
    refine hK _ _ ⟨d5, ?_⟩
    try simp only [Act.put]
    refine wpAnyH_take (i := 12) (oi := { dst := some 3, op := Op.assign (Operand.tmp 47), type := 4, pos := "l05_wire.go:47", after := #[{ on := 10, ground := Ground.data }, { on := 11, ground := Ground.chain }, { on := 0, ground := Ground.phase }, { on := 1, ground := Ground.phase }, { on := 2, ground := Ground.phase }, { on := 3, ground := Ground.phase }, { on := 4, ground := Ground.phase }, { on := 5, ground := Ground.phase }, { on := 6, ground := Ground.phase }, { on := 7, ground := Ground.phase }, { on := 8, ground := Ground.phase }, { on := 9, ground := Ground.phase }, { on := 10, ground := Ground.phase }, { on := 11, ground := Ground.phase }], guard := none }) (v := ?_) rfl (by kernel_rfl) (by kernel_rfl) (by kernel_rfl) (fun _ _ _ h => h) (Or.inl ⟨by rfl, ?_⟩) d5 ?_
    rotate_left
    · intro W hSw
      obtain ⟨c0, c1, c2, c3, c4, cv⟩ := hSw
      go_simp
      try with_reducible rfl
    simp only [Act.put, List.setIfInBounds_toArray, List.set_cons_zero, List.set_cons_succ]
    refine wpAnyH_done (by kernel_rfl) ?_ _
    go_wp2
    refine bodyPost_ret (v := .tuple #[msgV r s a d t, .bool false]) (results_tmp_row rfl _ _ w.heap.size 24 _ (0, 0) _ _ rfl rfl (row_set (i := 4) (v := .string t) (row_set (i := 3) (v := .string d) (row_set (i := 2) (v := .int .i64 a) (row_set (i := 1) (v := .int .i64 s) (row_set (i := 0) (v := .int .i64 r) n4))))) Tryd.underlying24 rfl (by kernel_rfl)) rfl ⟨rfl, ?_⟩
    exact below_setCell (below_setCell (below_setCell (below_setCell (below_setCell ((unhide B02).trans (b3.mono (unhide B02).size)) (Nat.le_refl _)) (Nat.le_refl _)) (Nat.le_refl _)) (Nat.le_refl _)) (Nat.le_refl _)
  · rw [hok] at ok RO
    have by4 := hide (unhide BY hok)
    have eRK : Hid (RK = decide (mB r s a d t = xs)) := hide (by rw [unhide RO]; rfl)
    have eB := hide (str_eq_dec (mB_isB r s a d t (okM_sizes hok).2) (unhide HBX))
    rw [← unhide eRK] at eB
    clear RO BY hok hC
    generalize mB r s a d t = M at *
    go_wp2
    refine wp_region_held (S := (fun W' => W'.cell? ⟨z, 0, none⟩ = some (.int .i64 r) ∧ W'.cell? ⟨z, 1, none⟩ = some (.int .i64 s) ∧ W'.cell? ⟨z, 2, none⟩ = some (.int .i64 a) ∧ W'.cell? ⟨z, 3, none⟩ = some (.string d) ∧ W'.cell? ⟨z, 4, none⟩ = some (.string t) ∧ (convert 22 9 (.slice (some ⟨g, off, none⟩) 64 cap)).run Tryd.prog W' = .ok (.string (strOfNums xs)) W')) (by kernel_rfl) ?_
    have hS0 := unhide KS { w2 with drawn := w2.drawn + 1 } (Only.of_below (below_drewN (Below.refl _ _) 1))
    refine wpAnyH_take (i := 0) (oi := { dst := some 37, op := Op.load 24 (Operand.tmp 4), type := 24, pos := "l05_wire.go:47", after := #[], guard := none }) (v := ?_) rfl (by kernel_rfl) (by kernel_rfl) (by kernel_rfl) (fun _ _ _ h => h) (Or.inl ⟨by rfl, ?_⟩) hS0 ?_
    rotate_left
    · intro W hSw
      obtain ⟨c0, c1, c2, c3, c4, cv⟩ := hSw
      go_simp
      try with_reducible rfl
    simp only [Act.put, List.setIfInBounds_toArray, List.set_cons_zero, List.set_cons_succ]
    refine wpAnyH_take (i := 1) (oi := { dst := some 38, op := Op.load 24 (Operand.tmp 4), type := 24, pos := "l05_wire.go:47", after := #[], guard := none }) (v := ?_) rfl (by kernel_rfl) (by kernel_rfl) (by kernel_rfl) (fun _ _ _ h => h) (Or.inl ⟨by rfl, ?_⟩) hS0 ?_
    rotate_left
    · intro W hSw
      obtain ⟨c0, c1, c2, c3, c4, cv⟩ := hSw
      go_simp
      try with_reducible rfl
    simp only [Act.put, List.setIfInBounds_toArray, List.set_cons_zero, List.set_cons_succ]
    refine wpAnyH_one (i := 2) (by kernel_rfl) ?_
    refine wpOp_step (o := { dst := some 39, op := Op.call { callee := Callee.value (Operand.func 41), args := #[Operand.tmp 38], argTypes := #[24] }, type := 4, pos := "l05_wire.go:47", after := #[{ on := 1, ground := Ground.data }], guard := none }) rfl fun K' hK => step_enterW (by rfl) 41 #[msgV r s a d t] (by go_simp) ((unhide ok _).mono ?_)
    rintro e w3 ⟨rfl, b3'⟩
    have b3 := undrew b3'
    have d3 := unhide KS w3 (Only.of_below b3)
    refine ⟨_, rfl, hK _ _ ⟨d3, ?_⟩⟩
    simp only [Act.put, List.setIfInBounds_toArray, List.set_cons_zero, List.set_cons_succ]
    refine wpAnyH_take (i := 3) (oi := { dst := some 40, op := Op.move (Operand.tmp 39), type := 4, pos := "l05_wire.go:47", after := #[{ on := 2, ground := Ground.data }, { on := 2, ground := Ground.chain }], guard := none }) (v := ?_) rfl (by kernel_rfl) (by kernel_rfl) (by kernel_rfl) (fun _ _ _ h => h) (Or.inl ⟨by rfl, ?_⟩) d3 ?_
    rotate_left
    · intro W hSw
      obtain ⟨c0, c1, c2, c3, c4, cv⟩ := hSw
      go_simp
      try with_reducible rfl
    simp only [Act.put, List.setIfInBounds_toArray, List.set_cons_zero, List.set_cons_succ]
    refine wpAnyH_take (i := 4) (oi := { dst := some 41, op := Op.load 24 (Operand.tmp 4), type := 24, pos := "l05_wire.go:47", after := #[{ on := 3, ground := Ground.guard }], guard := some (3, true) }) (v := ?_) rfl (by kernel_rfl) (by kernel_rfl) (by kernel_rfl) (fun _ _ _ h => h) (Or.inl ⟨by rfl, ?_⟩) d3 ?_
    rotate_left
    · intro W hSw
      obtain ⟨c0, c1, c2, c3, c4, cv⟩ := hSw
      go_simp
      try with_reducible rfl
    simp only [Act.put, List.setIfInBounds_toArray, List.set_cons_zero, List.set_cons_succ]
    refine wpAnyH_take (i := 7) (oi := { dst := some 44, op := Op.move (Operand.tmp 0), type := 22, pos := "l05_wire.go:47", after := #[{ on := 3, ground := Ground.guard }, { on := 11, ground := Ground.gcOnly Departure.lateStores }], guard := some (3, true) }) (v := ?_) rfl (by kernel_rfl) (by kernel_rfl) (by kernel_rfl) (fun _ _ _ h => h) (Or.inl ⟨by rfl, ?_⟩) d3 ?_
    rotate_left
    · intro W hSw
      obtain ⟨c0, c1, c2, c3, c4, cv⟩ := hSw
      go_simp
      try with_reducible rfl
    simp only [Act.put, List.setIfInBounds_toArray, List.set_cons_zero, List.set_cons_succ]
    refine wpAnyH_take (i := 8) (oi := { dst := some 45, op := Op.convert 22 9 (Operand.tmp 44), type := 9, pos := "l05_wire.go:47", after := #[{ on := 7, ground := Ground.data }, { on := 3, ground := Ground.guard }, { on := 11, ground := Ground.gcOnly Departure.lateStores }], guard := some (3, true) }) (v := ?_) rfl (by kernel_rfl) (by kernel_rfl) (by kernel_rfl) (fun _ _ _ h => h) (Or.inl ⟨by rfl, ?_⟩) d3 ?_
    rotate_left
    · intro W hSw
      obtain ⟨c0, c1, c2, c3, c4, cv⟩ := hSw
      go_simp
      try with_reducible rfl
    simp only [Act.put, List.setIfInBounds_toArray, List.set_cons_zero, List.set_cons_succ]
    refine wpAnyH_one (i := 5) (by kernel_rfl) ?_
    refine wpOp_step (o := { dst := some 42, op := Op.call { callee := Callee.value (Operand.func 42), args := #[Operand.tmp 41], argTypes := #[24] }, type := 22, pos := "l05_wire.go:47", after := #[{ on := 4, ground := Ground.data }, { on := 3, ground := Ground.chain }, { on := 3, ground := Ground.guard }], guard := some (3, true) }) rfl fun K' hK => step_enterW (by rfl) 42 #[msgV r s a d t] (by go_simp) ((unhide by4 _).mono ?_)
    rintro e w4 ⟨v4, rfl, o4, b4⟩
    have b34 := b3.trans (b4.mono b3.size)
    have d4 := unhide KS w4 (Only.of_below b34)
    have d5 := unhide KS (put5 w4 w.heap.size r s a d t) ((Only.of_below b34).trans (put5_only _ _ _ _ _ _ _))
    have cv4 := o4.conv
    have cv5 := (o4.only (put5_only w4 w.heap.size r s a d t) (Nat.lt_of_lt_of_le (unhide LZ2) b3.size)).conv
    have n4 := unhide KZ w4 b34
    have p0 : w4.cell? ⟨w.heap.size, 0, none⟩ = some (.int .i64 0) := row_cell n4
    have y0 : w4.frozen? ⟨w.heap.size, 0, none⟩ = false := row_free n4
    have p1 : w4.cell? ⟨w.heap.size, 1, none⟩ = some (.int .i64 0) := row_cell n4
    have y1 : w4.frozen? ⟨w.heap.size, 1, none⟩ = false := row_free n4
    have p2 : w4.cell? ⟨w.heap.size, 2, none⟩ = some (.int .i64 0) := row_cell n4
    have y2 : w4.frozen? ⟨w.heap.size, 2, none⟩ = false := row_free n4
    have p3 : w4.cell? ⟨w.heap.size, 3, none⟩ = some (.string ⟨#[]⟩) := row_cell n4
    have y3 : w4.frozen? ⟨w.heap.size, 3, none⟩ = false := row_free n4
    have p4 : w4.cell? ⟨w.heap.size, 4, none⟩ = some (.string ⟨#[]⟩) := row_cell n4
    have y4 : w4.frozen? ⟨w.heap.size, 4, none⟩ = false := row_free n4
    refine ⟨_, rfl, hK _ _ ⟨d4, ?_⟩⟩
    simp only [Act.put, List.setIfInBounds_toArray, List.set_cons_zero, List.set_cons_succ]
    refine wpAnyH_two (i := 6) (j := 11) (by kernel_rfl) ?_ ?_
    · refine wpOp_step (o := { dst := some 43, op := Op.convert 22 9 (Operand.tmp 42), type := 9, pos := "l05_wire.go:47", after := #[{ on := 5, ground := Ground.data }, { on := 3, ground := Ground.guard }, { on := 11, ground := Ground.gcOnly Departure.lateStores }], guard := some (3, true) }) rfl fun K' hK => step_valueW (by rfl) (.string (strOfNums M)) (w4) (by go_simp) ?_
      refine hK _ _ ⟨d4, ?_⟩
      simp only [Act.put, List.setIfInBounds_toArray, List.set_cons_zero, List.set_cons_succ]
      refine wpAnyH_take (i := 9) (oi := { dst := some 46, op := Op.binOp BinOp.eql 9 (Operand.tmp 43) (Operand.tmp 45) 9, type := 4, pos := "l05_wire.go:47", after := #[{ on := 6, ground := Ground.data }, { on := 8, ground := Ground.data }, { on := 3, ground := Ground.guard }, { on := 11, ground := Ground.gcOnly Departure.lateStores }], guard := some (3, true) }) (v := ?_) rfl (by kernel_rfl) (by kernel_rfl) (by kernel_rfl) (fun _ _ _ h => h) (Or.inl ⟨by rfl, ?_⟩) d4 ?_
      rotate_left
      · intro W hSw
        obtain ⟨c0, c1, c2, c3, c4, cv⟩ := hSw
        go_simp
        try with_reducible rfl
      simp only [Act.put, List.setIfInBounds_toArray, List.set_cons_zero, List.set_cons_succ]
      refine wpAnyH_take (i := 10) (oi := { dst := some 47, op := Op.pick (Operand.tmp 40) (Operand.tmp 46) (Operand.const (Value.bool false)), type := 4, pos := "l05_wire.go:47", after := #[{ on := 3, ground := Ground.data }, { on := 9, ground := Ground.data }, { on := 11, ground := Ground.gcOnly Departure.lateStores }], guard := none }) (v := ?_) rfl (by kernel_rfl) (by kernel_rfl) (by kernel_rfl) (fun _ _ _ h => h) (Or.inl ⟨by rfl, ?_⟩) d4 ?_
      rotate_left
      · intro W hSw
        obtain ⟨c0, c1, c2, c3, c4, cv⟩ := hSw
        go_simp
        try with_reducible rfl
      simp only [Act.put, List.setIfInBounds_toArray, List.set_cons_zero, List.set_cons_succ]
      refine wpAnyH_one (i := 11) (by kernel_rfl) ?_
      refine wpOp_step (o := { dst := none, op := Op.store 24 (Operand.tmp 2) (Operand.tmp 37), type := 0, pos := "l05_wire.go:47", after := #[{ on := 0, ground := Ground.data }, { on := 5, ground := Ground.chain }, { on := 0, ground := Ground.phase }, { on := 1, ground := Ground.textOnly Departure.lateStores }, { on := 2, ground := Ground.textOnly Departure.lateStoresUnsure }, { on := 3, ground := Ground.textOnly Departure.lateStores }, { on := 4, ground := Ground.textOnly Departure.lateStores }, { on := 5, ground := Ground.textOnly Departure.lateStoresUnsure }, { on := 6, ground := Ground.textOnly Departure.lateStores }, { on := 7, ground := Ground.textOnly Departure.lateStores }, { on := 8, ground := Ground.textOnly Departure.lateStores }, { on := 9, ground := Ground.textOnly Departure.lateStores }, { on := 10, ground := Ground.textOnly Departure.lateStores }], guard := none }) rfl fun K' hK => step_skipW (by rfl) (put5 w4 w.heap.size r s a d t) (by go_simp) ?_
      refine hK _ _ ⟨d5, ?_⟩
      try simp only [Act.put]
      refine wpAnyH_take (i := 12) (oi := { dst := some 3, op := Op.assign (Operand.tmp 47), type := 4, pos := "l05_wire.go:47", after := #[{ on := 10, ground := Ground.data }, { on := 11, ground := Ground.chain }, { on := 0, ground := Ground.phase }, { on := 1, ground := Ground.phase }, { on := 2, ground := Ground.phase }, { on := 3, ground := Ground.phase }, { on := 4, ground := Ground.phase }, { on := 5, ground := Ground.phase }, { on := 6, ground := Ground.phase }, { on := 7, ground := Ground.phase }, { on := 8, ground := Ground.phase }, { on := 9, ground := Ground.phase }, { on := 10, ground := Ground.phase }, { on := 11, ground := Ground.phase }], guard := none }) (v := ?_) rfl (by kernel_rfl) (by kernel_rfl) (by kernel_rfl) (fun _ _ _ h => h) (Or.inl ⟨by rfl, ?_⟩) d5 ?_
      rotate_left
      · intro W hSw
        obtain ⟨c0, c1, c2, c3, c4, cv⟩ := hSw
        go_simp
        try with_reducible rfl
      simp only [Act.put, List.setIfInBounds_toArray, List.set_cons_zero, List.set_cons_succ]
      refine wpAnyH_done (by kernel_rfl) ?_ _
      go_wp2
      refine bodyPost_ret (v := .tuple #[msgV r s a d t, .bool ((strOfNums M).toList == (strOfNums xs).toList)]) (results_tmp_row rfl _ _ w.heap.size 24 _ (0, 0) _ _ rfl rfl (row_set (i := 4) (v := .string t) (row_set (i := 3) (v := .string d) (row_set (i := 2) (v := .int .i64 a) (row_set (i := 1) (v := .int .i64 s) (row_set (i := 0) (v := .int .i64 r) n4))))) Tryd.underlying24 rfl (by kernel_rfl)) rfl ⟨by rw [unhide eB], ?_⟩
      exact below_setCell (below_setCell (below_setCell (below_setCell (below_setCell ((unhide B02).trans (b34.mono (unhide B02).size)) (Nat.le_refl _)) (Nat.le_refl _)) (Nat.le_refl _)) (Nat.le_refl _)) (Nat.le_refl _)
    · refine wpOp_step (o := { dst := none, op := Op.store 24 (Operand.tmp 2) (Operand.tmp 37), type := 0, pos := "l05_wire.go:47", after := #[{ on := 0, ground := Ground.data }, { on := 5, ground := Ground.chain }, { on := 0, ground := Ground.phase }, { on := 1, ground := Ground.textOnly Departure.lateStores }, { on := 2, ground := Ground.textOnly Departure.lateStoresUnsure }, { on := 3, ground := Ground.textOnly Departure.lateStores }, { on := 4, ground := Ground.textOnly Departure.lateStores }, { on := 5, ground := Ground.textOnly Departure.lateStoresUnsure }, { on := 6, ground := Ground.textOnly Departure.lateStores }, { on := 7, ground := Ground.textOnly Departure.lateStores }, { on := 8, ground := Ground.textOnly Departure.lateStores }, { on := 9, ground := Ground.textOnly Departure.lateStores }, { on := 10, ground := Ground.textOnly Departure.lateStores }], guard := none }) rfl fun K' hK => step_skipW (by rfl) (put5 w4 w.heap.size r s a d t) (by go_simp) ?_
      refine hK _ _ ⟨d5, ?_⟩
      try simp only [Act.put]
      refine wpAnyH_one (i := 6) (by kernel_rfl) ?_
      refine wpOp_step (o := { dst := some 43, op := Op.convert 22 9 (Operand.tmp 42), type := 9, pos := "l05_wire.go:47", after := #[{ on := 5, ground := Ground.data }, { on := 3, ground := Ground.guard }, { on := 11, ground := Ground.gcOnly Departure.lateStores }], guard := some (3, true) }) rfl fun K' hK => step_valueW (by rfl) (.string (strOfNums M)) (put5 w4 w.heap.size r s a d t) (by go_simp) ?_
      refine hK _ _ ⟨d5, ?_⟩
      simp only [Act.put, List.setIfInBounds_toArray, List.set_cons_zero, List.set_cons_succ]
      refine wpAnyH_take (i := 9) (oi := { dst := some 46, op := Op.binOp BinOp.eql 9 (Operand.tmp 43) (Operand.tmp 45) 9, type := 4, pos := "l05_wire.go:47", after := #[{ on := 6, ground := Ground.data }, { on := 8, ground := Ground.data }, { on := 3, ground := Ground.guard }, { on := 11, ground := Ground.gcOnly Departure.lateStores }], guard := some (3, true) }) (v := ?_) rfl (by kernel_rfl) (by kernel_rfl) (by kernel_rfl) (fun _ _ _ h => h) (Or.inl ⟨by rfl, ?_⟩) d5 ?_
      rotate_left
      · intro W hSw
        obtain ⟨c0, c1, c2, c3, c4, cv⟩ := hSw
        go_simp
        try with_reducible rfl
      simp only [Act.put, List.setIfInBounds_toArray, List.set_cons_zero, List.set_cons_succ]
      refine wpAnyH_take (i := 10) (oi := { dst := some 47, op := Op.pick (Operand.tmp 40) (Operand.tmp 46) (Operand.const (Value.bool false)), type := 4, pos := "l05_wire.go:47", after := #[{ on := 3, ground := Ground.data }, { on := 9, ground := Ground.data }, { on := 11, ground := Ground.gcOnly Departure.lateStores }], guard := none }) (v := ?_) rfl (by kernel_rfl) (by kernel_rfl) (by kernel_rfl) (fun _ _ _ h => h) (Or.inl ⟨by rfl, ?_⟩) d5 ?_
      rotate_left
      · intro W hSw
        obtain ⟨c0, c1, c2, c3, c4, cv⟩ := hSw
        go_simp
        try with_reducible rfl
      simp only [Act.put, List.setIfInBounds_toArray, List.set_cons_zero, List.set_cons_succ]
      refine wpAnyH_take (i := 12) (oi := { dst := some 3, op := Op.assign (Operand.tmp 47), type := 4, pos := "l05_wire.go:47", after := #[{ on := 10, ground := Ground.data }, { on := 11, ground := Ground.chain }, { on := 0, ground := Ground.phase }, { on := 1, ground := Ground.phase }, { on := 2, ground := Ground.phase }, { on := 3, ground := Ground.phase }, { on := 4, ground := Ground.phase }, { on := 5, ground := Ground.phase }, { on := 6, ground := Ground.phase }, { on := 7, ground := Ground.phase }, { on := 8, ground := Ground.phase }, { on := 9, ground := Ground.phase }, { on := 10, ground := Ground.phase }, { on := 11, ground := Ground.phase }], guard := none }) (v := ?_) rfl (by kernel_rfl) (by kernel_rfl) (by kernel_rfl) (fun _ _ _ h => h) (Or.inl ⟨by rfl, ?_⟩) d5 ?_
      rotate_left
      · intro W hSw
        obtain ⟨c0, c1, c2, c3, c4, cv⟩ := hSw
        go_simp
        try with_reducible rfl
      simp only [Act.put, List.setIfInBounds_toArray, List.set_cons_zero, List.set_cons_succ]
      refine wpAnyH_done (by kernel_rfl) ?_ _
      go_wp2
      refine bodyPost_ret (v := .tuple #[msgV r s a d t, .bool ((strOfNums M).toList == (strOfNums xs).toList)]) (results_tmp_row rfl _ _ w.heap.size 24 _ (0, 0) _ _ rfl rfl (row_set (i := 4) (v := .string t) (row_set (i := 3) (v := .string d) (row_set (i := 2) (v := .int .i64 a) (row_set (i := 1) (v := .int .i64 s) (row_set (i := 0) (v := .int .i64 r) n4))))) Tryd.underlying24 rfl (by kernel_rfl)) rfl ⟨by rw [unhide eB], ?_⟩
      exact below_setCell (below_setCell (below_setCell (below_setCell (below_setCell ((unhide B02).trans (b34.mono (unhide B02).size)) (Nat.le_refl _)) (Nat.le_refl _)) (Nat.le_refl _)) (Nat.le_refl _)) (Nat.le_refl _)
end Go.Proofs.YtgdohkemamlnhaaDoor
