/- RouteBack: the program. -/
import Derived.Test.YtggiijlgdpkkfaaDoorBkc
import Derived.Test.YtggiijlgdpkkfaaDoorCvt
import Derived.OwnWalk
namespace Go.Proofs.YtggiijlgdpkkfaaDoor
open Go.RowKit
set_option maxHeartbeats 4000000
set_option maxRecDepth 20000
/-- an answer with its reply key put on -/
def rpT (key body : ByteArray) : ByteArray := strOfNums (xorL key nonB 0 (txt body))
/-- bodies back in the order in which items came in -/
def bkF : List Int → List ByteArray → List ByteArray → List ByteArray → List ByteArray
  | [], _, _, o => o
  | f :: fs, rs, bs, o => bkF fs rs.tail bs.tail (if f = -1 then o else o.set f.toNat (rpT (rs.headD noS) (bs.headD noS)))
theorem bkF_drop {fs : List Int} {rs bs o : List ByteArray} {j : Nat} (h : j < fs.length) : bkF (fs.drop j) (rs.drop j) (bs.drop j) o = bkF (fs.drop (j + 1)) (rs.drop (j + 1)) (bs.drop (j + 1)) (if fs.getD j 0 = -1 then o else o.set (fs.getD j 0).toNat (rpT (rs.getD j noS) (bs.getD j noS))) := by
  rw [drop_at h, bkF, head_drop, head_drop, List.tail_drop, List.tail_drop]
theorem bkF_len : ∀ (fs : List Int) (rs bs o : List ByteArray), (bkF fs rs bs o).length = o.length
  | [], _, _, _ => rfl
  | f :: fs, rs, bs, o => by
    rw [bkF, bkF_len]
    split
    · rfl
    · rw [List.length_set]
def bkR (x : Mx) (c : Int) (bs : List ByteArray) : List ByteArray × Int := if bkC x c bs = 0 then (bkF x.f x.r bs (List.replicate c.toNat noS), 0) else ([], bkC x c bs)
theorem bkR_code {x : Mx} {c : Int} {bs : List ByteArray} {e : Int} (h : bkC x c bs = e) (he : e ≠ 0) : bkR x c bs = ([], e) := by unfold bkR; rw [h, if_neg he]
theorem bkR_ok {x : Mx} {c : Int} {bs : List ByteArray} (h : bkC x c bs = 0) : bkR x c bs = (bkF x.f x.r bs (List.replicate c.toNat noS), 0) := by unfold bkR; rw [if_pos h]
theorem bkC_ok {x : Mx} {c : Int} {bs : List ByteArray} (h : bkC x c bs = 0) : (0 ≤ c ∧ c ≤ 16) ∧ x.f.length ≤ 16 ∧ x.r.length = x.f.length ∧ bs.length = x.f.length ∧ itB bs = true ∧ wyB c.toNat x.f x.r (List.replicate c.toNat false) = true := by
  unfold bkC at h
  split at h
  · omega
  · split at h
    · split at h
      · rename_i h2 h3
        exact ⟨h2, h3.1.1, h3.1.2.1, h3.1.2.2, h3.2.1, h3.2.2⟩
      · omega
    · omega
/-- an answer of texts and a code -/
def outS (W : World) (ts : List ByteArray) (c : Int) (e : Ending) (w' : World) : Prop := ∃ r, e = .returned (.tuple #[r, .int .i64 c]) ∧ ownS W.heap.size w'.heap.size w' r ts ∧ Below W.heap.size W w'
theorem conv_own {base : Nat} {w : World} {v : Value} {xs : List Int} (h : ownB base w v xs) : (convert 44 9 v).run Tryd.prog w = .ok (.string (strOfNums xs)) w := by
  have hb := h.bytes
  obtain ⟨_, ⟨rfl, rfl⟩ | ⟨g, cap, rest, rfl, hg, hc⟩⟩ := h
  · exact run_convert_bytes_nil _ 44 5 Tryd.underlying44 Tryd.underlying5 0 0 9 Tryd.underlying9
  · refine run_convert_bytes_arg _ 44 5 Tryd.underlying44 Tryd.underlying5 g 0 xs.length cap xs rfl ?_ 9 Tryd.underlying9
    intro i hi
    obtain ⟨A, c2, e, _, hcell⟩ := hb
    obtain ⟨b, off, hA, _, hcc⟩ := hcell (by omega)
    simp only [Value.slice.injEq] at e
    obtain ⟨rfl, _, _⟩ := e
    simp only [Option.some.injEq, Addr.mk.injEq] at hA
    obtain ⟨rfl, rfl, _⟩ := hA
    exact hcc i hi
theorem run_cvop (x : Operand) (o : Oper) (a : Act) (w : World) (t : ByteArray) (ho : o.op = .convert 9 44 x) (hx : a.eval x = .string t) : (execOp a.eval o).run Tryd.prog w = .ok (.value (.slice (some ⟨w.heap.size, 0, none⟩) t.size (grownCap w t.size 0 5))) (cvW w t) := by
  unfold execOp
  simp only [ho, hx, Sem.run_bind, run_cv, Result.andThen_ok, Sem.run_pure]
theorem run_strop (x : Operand) (o : Oper) (a : Act) (w : World) (v : Value) (base : Nat) (xs : List Int) (ho : o.op = .convert 44 9 x) (hx : a.eval x = v) (hv : ownB base w v xs) : (execOp a.eval o).run Tryd.prog w = .ok (.value (.string (strOfNums xs))) w := by
  unfold execOp
  simp only [ho, hx, Sem.run_bind, conv_own hv, Result.andThen_ok, Sem.run_pure]
theorem route9 (v vb : Value) (x : Mx) (c : Int) (bs : List ByteArray) (w : World) (hv : mxV w v x) (hb : strsV w vb bs) (nx : mxN x ≤ 1048576) (nb : bs.length ≤ 1048576) (t : TypeId) (fr : Nat × Nat) (hq : w.heap[0]? = some (.cells qArr t fr)) :
    Calls Tryd.prog 9 #[v, .int .i64 c, vb] w fun e w' => outS w (bkR x c bs).1 (bkR x c bs).2 e w' := by
  obtain ⟨i, r, f, s, rfl, hi, hr, hf, hs⟩ := hv
  have hq0 : 0 < w.heap.size := (Array.getElem?_eq_some_iff.1 hq).1
  obtain ⟨xi, xr, xf, xs, xb, xa⟩ := x
  dsimp only [mxN] at *
  have B0 : Below w.heap.size w (w.alloc (.cells #[i, r, f, s, .int .i64 xb, .int .i64 xa] 30)) := bl_al (Below.refl _ _)
  have K1 := hide (back20 i r f s vb ⟨xi, xr, xf, xs, xb, xa⟩ c bs _ (hr.below B0) (hf.below B0) (hb.below B0) (by dsimp only; omega) (by dsimp only; omega) nb)
  have C0 := mc_new w i r f s xb xa 30
  have HC0 := hide C0
  obtain ⟨_, c0, c1, c2, c3, c4, c5⟩ := C0
  have HB0 := hide B0
  by_cases hg : bkC ⟨xi, xr, xf, xs, xb, xa⟩ c bs = 0
  · rw [bkR_ok hg]
    rw [hg] at K1
    obtain ⟨⟨hc0, hc16⟩, g1, g2, g3, g4, g5⟩ := bkC_ok hg
    dsimp only at g1 g2 g3 g4 g5 ⊢
    obtain ⟨m, rfl⟩ : ∃ m : Nat, c = (m : Int) := ⟨c.toNat, by omega⟩
    rw [Int.toNat_natCast] at g5 ⊢
    have HR := hide hr
    have HF := hide hf
    have HBD := hide hb
    have HQ := hide hq
    have HQ0 := hide hq0
    obtain ⟨A1, d1, rfl⟩ := hi.slice
    obtain ⟨A2, d2, rfl⟩ := hr.slice
    obtain ⟨A3, d3, rfl⟩ := hf.slice
    obtain ⟨A4, d4, rfl⟩ := hs.slice
    obtain ⟨A5, d5, rfl⟩ := hb.slice
    have W1 := hide (wyB_each g5)
    have I1 := hide (fun j hj => itB_at g4 j hj)
    have L1 := hide (And.intro g1 (And.intro g2 g3))
    have mk := make_strs m (by omega)
    have l1 : (xf.length : Int) ≤ 16 := by omega
    have l0 : (0 : Int) ≤ (xf.length : Int) := by omega
    clear hi hr hf hs hb hq hq0 B0 nx nb hg g4 g5
    rw [g2, g3] at *
    clear g1 g2 g3
    go_enter Tryd.func9, Tryd.ntmps9
    go_wp2_with fail
    generalize w.alloc (.cells #[.slice A1 xi.length d1, .slice A2 xf.length d2, .slice A3 xf.length d3, .slice A4 xs.length d4, .int .i64 xb, .int .i64 xa] 30) = w0 at *
    refine (unhide K1).mono ?_
    rintro e w1 ⟨rfl, b1⟩
    have HB1 := hide (bl_st b1 (unhide HB0))
    have HC1 := hide ((unhide HC0).below b1)
    clear K1 b1 HC0 HB0 c0 c1 c2 c3 c4 c5
    obtain ⟨_, c0, c1, c2, c3, c4, c5⟩ := (unhide HC1).below (bl_al (o := strO (List.replicate m noS) []) (Below.refl _ _))
    go_wp2
    clear mk c0 c1 c2 c3 c4 c5
    go_loopw [24] (fun i wr => ∃ (j : Nat) (o : List ByteArray), j ≤ xf.length ∧ i = .int .i64 j ∧ o.length = m ∧ bkF (xf.drop j) (xr.drop j) (bs.drop j) o = bkF xf xr bs (List.replicate m noS) ∧ wr.heap[w1.heap.size]? = some (strO o []) ∧ Below w1.heap.size w1 wr) (fun i _ => xf.length - (intOf i).toNat)
    case atStart => exact ⟨0, _, by omega, rfl, by simp, rfl, heap_at _ _ _ rfl, bl_al (Below.refl _ _)⟩
    case round =>
      obtain ⟨j, o, hj, rfl, ho, hbk, hrow, hbl⟩ := hrel
      by_cases hlt : j < xf.length
      · rw [bkF_drop hlt] at hbk
        have q1 : (j : Int) < (xf.length : Int) := by omega
        have q0 : (0 : Int) ≤ (j : Int) := by omega
        obtain ⟨_, _, ef, hcf⟩ := (unhide HF).below (unhide HB1)
        obtain ⟨_, _, er, hcr⟩ := (unhide HR).below (unhide HB1)
        obtain ⟨_, _, eb, hcb⟩ := (unhide HBD).below (unhide HB1)
        simp only [Value.slice.injEq] at ef er eb
        obtain ⟨rfl, _, rfl⟩ := ef
        obtain ⟨rfl, er1, rfl⟩ := er
        obtain ⟨rfl, eb1, rfl⟩ := eb
        have lr := (unhide L1).2.1
        have lb := (unhide L1).2.2
        obtain ⟨bf, of, hA3, hbf, hcf2⟩ := hcf (by omega)
        obtain ⟨br, orr, hA2, hbr, hcr2⟩ := hcr (by omega)
        obtain ⟨bd, od, hA5, hbd, hcb2⟩ := hcb (by omega)
        subst hA3 hA2 hA5
        have pf : wr.cell? ⟨bf, of + j, none⟩ = some (.int .i64 (xf.getD j 0)) := (cell_below hbl hbf).trans (hcf2 j hlt)
        have hw := unhide W1 j hlt
        have hsz := unhide I1 j (by omega)
        have CR : Hid (∀ W, Below w1.heap.size w1 W → W.cell? ⟨br, orr + j, none⟩ = some (.string (xr.getD j noS))) := hide fun W h => (cell_below h hbr).trans (hcr2 j (by omega))
        have CB : Hid (∀ W, Below w1.heap.size w1 W → W.cell? ⟨bd, od + j, none⟩ = some (.string (bs.getD j noS))) := hide fun W h => (cell_below h hbd).trans (hcb2 j (by omega))
        have HJ := hide hlt
        clear hcf hcr hcb hcf2 hcr2 hcb2 hbf hbr hbd hlt hj lr lb er1 eb1
        generalize xf.getD j 0 = x at *
        generalize xr.getD j noS = key at *
        generalize bs.getD j noS = body at *
        have HO := hide ho
        have HRW := hide hrow
        have HBL := hide hbl
        by_cases hx : x = -1
        · subst hx
          rw [if_pos rfl] at hbk
          have HK := hide hbk
          clear hbk ho hrow hbl hw hsz
          go_wp2
          go_roundw
          case rel => exact ⟨j + 1, o, unhide HJ, by go_num, unhide HO, unhide HK, unhide HRW, unhide HBL⟩
          case measure => have := unhide HJ; simp [intOf]; omega
        · rw [if_neg hx] at hbk
          obtain ⟨x0, x1, hk32⟩ := Or.resolve_left hw hx
          obtain ⟨k, rfl⟩ : ∃ k : Nat, x = (k : Int) := ⟨x.toNat, by omega⟩
          rw [Int.toNat_natCast] at hbk
          have hx2 : ((k : Int) != -1) = true := by simp
          have HK := hide hbk
          have KR : Hid (∀ W u, Below w1.heap.size w1 W → bytesV W u (txt body) → Calls Tryd.prog 21 #[.string key, u] W fun e w' => ∃ r, e = .returned r ∧ ownB W.heap.size w' r (xorL key nonB 0 (txt body)) ∧ Below W.heap.size W w') := hide fun W u hW hu => rep20 key hk32 (txt body) (by rw [txt_len]; omega) u W hu t fr (((bl_st hW (unhide HB1)).block 0 (unhide HQ0)).trans (unhide HQ))
          have HKL : Hid (k < o.length) := hide (by omega)
          clear hbk ho hrow hbl hw hsz hx hk32
          go_wp2
          refine wp_region_held (S := fun W' => Below w1.heap.size w1 W') (by kernel_rfl) ?_
          have hS0 : Below w1.heap.size w1 { wr with drawn := wr.drawn + 1 } := below_drewN (unhide HBL) 1
          refine wpAnyH_take (i := 0) (oi := { dst := some 31, op := Op.move (Operand.tmp 9), type := 22, pos := "l11_mix.go:285", after := #[], guard := none }) (v := ?_) rfl (by kernel_rfl) (by kernel_rfl) (by kernel_rfl) (fun _ _ _ h => h) (Or.inl ⟨by rfl, ?_⟩) hS0 ?_
          rotate_left
          · intro W hSw
            obtain ⟨_, c0, c1, c2, c3, c4, c5⟩ := (unhide HC1).below hSw
            have pr := unhide CR W hSw
            have pb := unhide CB W hSw
            go_simp
            try with_reducible rfl
          simp only [Act.put, List.setIfInBounds_toArray, List.set_cons_zero, List.set_cons_succ]
          refine wpAnyH_take (i := 1) (oi := { dst := some 32, op := Op.move (Operand.tmp 11), type := 3, pos := "l11_mix.go:285", after := #[], guard := none }) (v := ?_) rfl (by kernel_rfl) (by kernel_rfl) (by kernel_rfl) (fun _ _ _ h => h) (Or.inl ⟨by rfl, ?_⟩) hS0 ?_
          rotate_left
          · intro W hSw
            obtain ⟨_, c0, c1, c2, c3, c4, c5⟩ := (unhide HC1).below hSw
            have pr := unhide CR W hSw
            have pb := unhide CB W hSw
            go_simp
            try with_reducible rfl
          simp only [Act.put, List.setIfInBounds_toArray, List.set_cons_zero, List.set_cons_succ]
          refine wpAnyH_take (i := 2) (oi := { dst := some 33, op := Op.fieldAddr 30 (Operand.tmp 3) 1, type := 0, pos := "l11_mix.go:285", after := #[], guard := none }) (v := ?_) rfl (by kernel_rfl) (by kernel_rfl) (by kernel_rfl) (fun _ _ _ h => h) (Or.inl ⟨by rfl, ?_⟩) hS0 ?_
          rotate_left
          · intro W hSw
            obtain ⟨_, c0, c1, c2, c3, c4, c5⟩ := (unhide HC1).below hSw
            have pr := unhide CR W hSw
            have pb := unhide CB W hSw
            go_simp
            try with_reducible rfl
          simp only [Act.put, List.setIfInBounds_toArray, List.set_cons_zero, List.set_cons_succ]
          refine wpAnyH_take (i := 3) (oi := { dst := some 34, op := Op.load 22 (Operand.tmp 33), type := 22, pos := "l11_mix.go:285", after := #[{ on := 2, ground := Ground.data }], guard := none }) (v := ?_) rfl (by kernel_rfl) (by kernel_rfl) (by kernel_rfl) (fun _ _ _ h => h) (Or.inl ⟨by rfl, ?_⟩) hS0 ?_
          rotate_left
          · intro W hSw
            obtain ⟨_, c0, c1, c2, c3, c4, c5⟩ := (unhide HC1).below hSw
            have pr := unhide CR W hSw
            have pb := unhide CB W hSw
            go_simp
            try with_reducible rfl
          simp only [Act.put, List.setIfInBounds_toArray, List.set_cons_zero, List.set_cons_succ]
          refine wpAnyH_take (i := 4) (oi := { dst := some 35, op := Op.move (Operand.tmp 10), type := 3, pos := "l11_mix.go:285", after := #[], guard := none }) (v := ?_) rfl (by kernel_rfl) (by kernel_rfl) (by kernel_rfl) (fun _ _ _ h => h) (Or.inl ⟨by rfl, ?_⟩) hS0 ?_
          rotate_left
          · intro W hSw
            obtain ⟨_, c0, c1, c2, c3, c4, c5⟩ := (unhide HC1).below hSw
            have pr := unhide CR W hSw
            have pb := unhide CB W hSw
            go_simp
            try with_reducible rfl
          simp only [Act.put, List.setIfInBounds_toArray, List.set_cons_zero, List.set_cons_succ]
          refine wpAnyH_take (i := 5) (oi := { dst := some 36, op := Op.indexAddr 22 (Operand.tmp 34) (Operand.tmp 35), type := 0, pos := "l11_mix.go:285", after := #[{ on := 3, ground := Ground.data }, { on := 4, ground := Ground.data }], guard := none }) (v := ?_) rfl (by kernel_rfl) (by kernel_rfl) (by kernel_rfl) (fun _ _ _ h => h) (Or.inl ⟨by rfl, ?_⟩) hS0 ?_
          rotate_left
          · intro W hSw
            obtain ⟨_, c0, c1, c2, c3, c4, c5⟩ := (unhide HC1).below hSw
            have pr := unhide CR W hSw
            have pb := unhide CB W hSw
            go_simp
            try with_reducible rfl
          simp only [Act.put, List.setIfInBounds_toArray, List.set_cons_zero, List.set_cons_succ]
          refine wpAnyH_take (i := 6) (oi := { dst := some 37, op := Op.load 9 (Operand.tmp 36), type := 9, pos := "l11_mix.go:285", after := #[{ on := 5, ground := Ground.data }], guard := none }) (v := ?_) rfl (by kernel_rfl) (by kernel_rfl) (by kernel_rfl) (fun _ _ _ h => h) (Or.inl ⟨by rfl, ?_⟩) hS0 ?_
          rotate_left
          · intro W hSw
            obtain ⟨_, c0, c1, c2, c3, c4, c5⟩ := (unhide HC1).below hSw
            have pr := unhide CR W hSw
            have pb := unhide CB W hSw
            go_simp
            try with_reducible rfl
          simp only [Act.put, List.setIfInBounds_toArray, List.set_cons_zero, List.set_cons_succ]
          refine wpAnyH_take (i := 7) (oi := { dst := some 38, op := Op.move (Operand.tmp 2), type := 22, pos := "l11_mix.go:285", after := #[], guard := none }) (v := ?_) rfl (by kernel_rfl) (by kernel_rfl) (by kernel_rfl) (fun _ _ _ h => h) (Or.inl ⟨by rfl, ?_⟩) hS0 ?_
          rotate_left
          · intro W hSw
            obtain ⟨_, c0, c1, c2, c3, c4, c5⟩ := (unhide HC1).below hSw
            have pr := unhide CR W hSw
            have pb := unhide CB W hSw
            go_simp
            try with_reducible rfl
          simp only [Act.put, List.setIfInBounds_toArray, List.set_cons_zero, List.set_cons_succ]
          refine wpAnyH_take (i := 8) (oi := { dst := some 39, op := Op.move (Operand.tmp 10), type := 3, pos := "l11_mix.go:285", after := #[], guard := none }) (v := ?_) rfl (by kernel_rfl) (by kernel_rfl) (by kernel_rfl) (fun _ _ _ h => h) (Or.inl ⟨by rfl, ?_⟩) hS0 ?_
          rotate_left
          · intro W hSw
            obtain ⟨_, c0, c1, c2, c3, c4, c5⟩ := (unhide HC1).below hSw
            have pr := unhide CR W hSw
            have pb := unhide CB W hSw
            go_simp
            try with_reducible rfl
          simp only [Act.put, List.setIfInBounds_toArray, List.set_cons_zero, List.set_cons_succ]
          refine wpAnyH_take (i := 9) (oi := { dst := some 40, op := Op.indexAddr 22 (Operand.tmp 38) (Operand.tmp 39), type := 0, pos := "l11_mix.go:285", after := #[{ on := 7, ground := Ground.data }, { on := 8, ground := Ground.data }], guard := none }) (v := ?_) rfl (by kernel_rfl) (by kernel_rfl) (by kernel_rfl) (fun _ _ _ h => h) (Or.inl ⟨by rfl, ?_⟩) hS0 ?_
          rotate_left
          · intro W hSw
            obtain ⟨_, c0, c1, c2, c3, c4, c5⟩ := (unhide HC1).below hSw
            have pr := unhide CR W hSw
            have pb := unhide CB W hSw
            go_simp
            try with_reducible rfl
          simp only [Act.put, List.setIfInBounds_toArray, List.set_cons_zero, List.set_cons_succ]
          refine wpAnyH_take (i := 10) (oi := { dst := some 41, op := Op.load 9 (Operand.tmp 40), type := 9, pos := "l11_mix.go:285", after := #[{ on := 9, ground := Ground.data }], guard := none }) (v := ?_) rfl (by kernel_rfl) (by kernel_rfl) (by kernel_rfl) (fun _ _ _ h => h) (Or.inl ⟨by rfl, ?_⟩) hS0 ?_
          rotate_left
          · intro W hSw
            obtain ⟨_, c0, c1, c2, c3, c4, c5⟩ := (unhide HC1).below hSw
            have pr := unhide CR W hSw
            have pb := unhide CB W hSw
            go_simp
            try with_reducible rfl
          simp only [Act.put, List.setIfInBounds_toArray, List.set_cons_zero, List.set_cons_succ]
          have s11 : Below w1.heap.size w1 (cvW ({ wr with drawn := wr.drawn + 1 } : World) body) := bl_cv hS0
          refine wpAnyH_one (i := 11) (by kernel_rfl) ?_
          refine wpOp_step (o := { dst := some 42, op := Op.convert 9 44 (Operand.tmp 41), type := 44, pos := "l11_mix.go:285", after := #[{ on := 10, ground := Ground.data }], guard := none }) rfl fun K' hK => step_valueW (by rfl) (.slice (some ⟨wr.heap.size, 0, none⟩) body.size (grownCap ({ wr with drawn := wr.drawn + 1 } : World) body.size 0 5)) (cvW ({ wr with drawn := wr.drawn + 1 } : World) body) (run_cvop _ _ _ ({ wr with drawn := wr.drawn + 1 } : World) body rfl rfl) ?_
          refine hK _ _ ⟨s11, ?_⟩
          simp only [Act.put, List.setIfInBounds_toArray, List.set_cons_zero, List.set_cons_succ]
          have hby := by_cv ({ wr with drawn := wr.drawn + 1 } : World) body
          rw [show (({ wr with drawn := wr.drawn + 1 } : World)).heap.size = wr.heap.size from rfl] at hby
          generalize grownCap ({ wr with drawn := wr.drawn + 1 } : World) body.size 0 5 = gc at *
          have R11 : Hid ((cvW ({ wr with drawn := wr.drawn + 1 } : World) body).heap[w1.heap.size]? = some (strO o [])) := hide ((Below.heap_alloc (({ wr with drawn := wr.drawn + 1 } : World)).drew _ _ (Array.getElem?_eq_some_iff.1 (unhide HRW)).1).trans (unhide HRW))
          generalize cvW ({ wr with drawn := wr.drawn + 1 } : World) body = y1 at *
          refine wpAnyH_one (i := 12) (by kernel_rfl) ?_
          refine wpOp_step (o := { dst := some 43, op := Op.call { callee := Callee.value (Operand.func 21), args := #[Operand.tmp 37, Operand.tmp 42], argTypes := #[9, 44] }, type := 44, pos := "l11_mix.go:285", after := #[{ on := 6, ground := Ground.data }, { on := 11, ground := Ground.data }], guard := none }) rfl fun K' hK => step_enterW (by rfl) 21 #[.string key, .slice (some ⟨wr.heap.size, 0, none⟩) body.size gc] (by go_simp) ((unhide KR _ _ s11 hby).mono ?_)
          rintro e x2 ⟨u2, rfl, o2, b2⟩
          have s12 := bl_st b2 s11
          have R12 := hide ((b2.block _ (Array.getElem?_eq_some_iff.1 (unhide R11)).1).trans (unhide R11))
          clear b2 hby R11 s11
          refine ⟨_, rfl, hK _ _ ⟨s12, ?_⟩⟩
          simp only [Act.put, List.setIfInBounds_toArray, List.set_cons_zero, List.set_cons_succ]
          refine wpAnyH_one (i := 13) (by kernel_rfl) ?_
          refine wpOp_step (o := { dst := some 44, op := Op.convert 44 9 (Operand.tmp 43), type := 9, pos := "l11_mix.go:285", after := #[{ on := 12, ground := Ground.data }], guard := none }) rfl fun K' hK => step_valueW (by rfl) (.string (strOfNums (xorL key nonB 0 (txt body)))) x2 (run_strop _ _ _ x2 u2 _ _ rfl rfl o2) ?_
          refine hK _ _ ⟨s12, ?_⟩
          simp only [Act.put, List.setIfInBounds_toArray, List.set_cons_zero, List.set_cons_succ]
          have hrp : strOfNums (xorL key nonB 0 (txt body)) = rpT key body := rfl
          rw [hrp]
          clear o2 hrp
          generalize rpT key body = T at *
          refine wpAnyH_take (i := 14) (oi := { dst := some 45, op := Op.indexAddr 22 (Operand.tmp 31) (Operand.tmp 32), type := 0, pos := "l11_mix.go:285", after := #[{ on := 0, ground := Ground.data }, { on := 1, ground := Ground.data }, { on := 0, ground := Ground.phase }, { on := 1, ground := Ground.phase }, { on := 2, ground := Ground.phase }, { on := 3, ground := Ground.phase }, { on := 4, ground := Ground.phase }, { on := 5, ground := Ground.phase }, { on := 6, ground := Ground.phase }, { on := 7, ground := Ground.phase }, { on := 8, ground := Ground.phase }, { on := 9, ground := Ground.phase }, { on := 10, ground := Ground.phase }, { on := 11, ground := Ground.phase }, { on := 12, ground := Ground.phase }, { on := 13, ground := Ground.phase }], guard := none }) (v := ?_) rfl (by kernel_rfl) (by kernel_rfl) (by kernel_rfl) (fun _ _ _ h => h) (Or.inl ⟨by rfl, ?_⟩) s12 ?_
          rotate_left
          · intro W hSw
            have m1 : (k : Int) < (m : Int) := x1
            go_simp
            try with_reducible rfl
          simp only [Act.put, List.setIfInBounds_toArray, List.set_cons_zero, List.set_cons_succ]
          have p1 := cell_strO (unhide R12) k (unhide HKL)
          have p2 := free_strO (unhide R12) k
          have s15 : Below w1.heap.size w1 (x2.setCell ⟨w1.heap.size, k, none⟩ (.string T)) := bl_set s12 (Nat.le_refl _)
          have R15 := hide (set_strO (unhide R12) k T (unhide HKL))
          generalize o.getD k noS = old at *
          refine wpAnyH_one (i := 15) (by kernel_rfl) ?_
          refine wpOp_step (o := { dst := none, op := Op.store 9 (Operand.tmp 45) (Operand.tmp 44), type := 0, pos := "l11_mix.go:285", after := #[{ on := 14, ground := Ground.data }, { on := 13, ground := Ground.data }, { on := 12, ground := Ground.chain }, { on := 0, ground := Ground.phase }, { on := 1, ground := Ground.phase }, { on := 2, ground := Ground.phase }, { on := 3, ground := Ground.phase }, { on := 4, ground := Ground.phase }, { on := 5, ground := Ground.phase }, { on := 6, ground := Ground.phase }, { on := 7, ground := Ground.phase }, { on := 8, ground := Ground.phase }, { on := 9, ground := Ground.phase }, { on := 10, ground := Ground.phase }, { on := 11, ground := Ground.phase }, { on := 12, ground := Ground.phase }, { on := 13, ground := Ground.phase }], guard := none }) rfl fun K' hK => step_skipW (by rfl) (x2.setCell ⟨w1.heap.size, k, none⟩ (.string T)) (by go_simp) ?_
          refine hK _ _ ⟨s15, ?_⟩
          try simp only [Act.put]
          refine wpAnyH_done (by kernel_rfl) ?_ _
          have S15 := hide s15
          have L15 : Hid ((o.set k T).length = m) := hide (by rw [List.length_set]; exact unhide HO)
          clear s15 s12 hS0 p1 p2 R12
          generalize o.set k T = o2 at *
          go_wp2
          go_roundw
          case rel => exact ⟨j + 1, o2, unhide HJ, by go_num, unhide L15, unhide HK, unhide R15, unhide S15⟩
          case measure => have := unhide HJ; simp [intOf]; omega
      · obtain rfl : j = xf.length := by omega
        rw [List.drop_length, bkF] at hbk
        subst hbk
        have HO := hide ho
        have HRW := hide hrow
        have HBL := hide hbl
        clear ho hrow hbl hlt
        go_wp2
        go_ret2
        exact ⟨_, rfl, .inr ⟨w1.heap.size, m, [], by rw [unhide HO]; rfl, (unhide HB1).size, (Array.getElem?_eq_some_iff.1 (unhide HRW)).1, unhide HRW, by rw [unhide HO]; exact Nat.le_refl _⟩, bl_st (unhide HBL) (unhide HB1)⟩
  · rw [bkR_code rfl hg]
    have h0 : (bkC ⟨xi, xr, xf, xs, xb, xa⟩ c bs != 0) = true := by simpa using hg
    clear hg nx nb B0 hq hq0
    obtain ⟨A1, d1, rfl⟩ := hi.slice
    obtain ⟨A2, d2, rfl⟩ := hr.slice
    obtain ⟨A3, d3, rfl⟩ := hf.slice
    obtain ⟨A4, d4, rfl⟩ := hs.slice
    obtain ⟨A5, d5, rfl⟩ := hb.slice
    clear hi hr hf hs hb
    generalize bkC ⟨xi, xr, xf, xs, xb, xa⟩ c bs = cd at *
    go_enter Tryd.func9, Tryd.ntmps9
    go_wp2_with fail
    generalize w.alloc (.cells #[.slice A1 xi.length d1, .slice A2 xr.length d2, .slice A3 xf.length d3, .slice A4 xs.length d4, .int .i64 xb, .int .i64 xa] 30) = w0 at *
    refine (unhide K1).mono ?_
    rintro e w1 ⟨rfl, b1⟩
    have HB1 := hide (bl_st b1 (unhide HB0))
    clear K1 b1 HC0 HB0 c0 c1 c2 c3 c4 c5
    go_wp2
    go_ret2
    exact ⟨_, rfl, .inl ⟨rfl, rfl⟩, unhide HB1⟩
end Go.Proofs.YtggiijlgdpkkfaaDoor
