/- BloomHas, both sides; the law. -/
import Derived.Test.YthckgccfjpgbaaaWpt
import Derived.Test.YthckgccfjpgbaaaPlb
namespace Go.Proofs.Ythckgccfjpgbaaa
open Go.RowKit
set_option maxHeartbeats 4000000
set_option maxRecDepth 20000
/-- the bit of a tag in part i -/
def bt (x : Blm) (tag : Int) (i : Nat) : Bool := x.b.getD (i * x.w.toNat + (plc x.p x.w (x.s.getD i noA) tag).toNat) false
def hasB (x : Blm) (tag : Int) : Bool := (List.range x.s.length).all (bt x tag)
theorem hasB_no {x : Blm} {tag : Int} {i : Nat} (hi : i < x.s.length) (h : bt x tag i = false) : hasB x tag = false := by
  unfold hasB
  rw [List.all_eq_false]
  exact ⟨i, List.mem_range.2 hi, by rw [h]; decide⟩
theorem hasB_yes {x : Blm} {tag : Int} (h : ∀ i, i < x.s.length → bt x tag i = true) : hasB x tag = true := by
  unfold hasB
  rw [List.all_eq_true]
  intro i hi
  exact h i (List.mem_range.1 hi)
abbrev hV (r : Bool × Int) : Value := .tuple #[.bool r.1, .int .i64 r.2]
def hasR (x : Blm) (tag : Int) : Bool × Int := if tagC x tag = 0 then (hasB x tag, 0) else (false, tagC x tag)
theorem hasR_code {x : Blm} {tag : Int} (h : tagC x tag ≠ 0) : hasR x tag = (false, tagC x tag) := by unfold hasR; rw [if_neg h]
theorem hasR_ok {x : Blm} {tag : Int} (h : tagC x tag = 0) : hasR x tag = (hasB x tag, 0) := by unfold hasR; rw [if_pos h]
theorem saltsV.at {w : World} {A : Option Addr} {n c : Nat} {ss : List Slt} (h : saltsV w (.slice A n c) ss) {i : Nat} (hi : i < ss.length) : ∃ b off, A = some ⟨b, off, none⟩ ∧ b < w.heap.size ∧ SC b (off + i * 2) (ss.getD i noA) w := by
  obtain ⟨A', c', e, hc⟩ := h
  simp only [Value.slice.injEq] at e
  obtain ⟨rfl, _, _⟩ := e
  obtain ⟨b, off, e, hl, hcell⟩ := hc (by omega)
  exact ⟨b, off, e, hl, hcell i hi⟩
theorem boolsV.at {w : World} {A : Option Addr} {n c : Nat} {bs : List Bool} (h : boolsV w (.slice A n c) bs) {i : Nat} (hi : i < bs.length) : ∃ b off, A = some ⟨b, off, none⟩ ∧ b < w.heap.size ∧ w.cell? ⟨b, off + i, none⟩ = some (.bool (bs.getD i false)) := by
  obtain ⟨A', c', e, hc⟩ := h
  simp only [Value.slice.injEq] at e
  obtain ⟨rfl, _, _⟩ := e
  obtain ⟨b, off, e, hl, hcell⟩ := hc (by omega)
  exact ⟨b, off, e, hl, hcell i hi⟩
theorem Right.lt {x : Blm} (h : Right x) {i j : Nat} (hi : i < x.s.length) (hj : j < x.w.toNat) : i * x.w.toNat + j < x.b.length := by
  have hb := h.bits
  have h1 := h.w1
  obtain ⟨M, hM⟩ : ∃ M : Nat, x.w = (M : Int) := ⟨x.w.toNat, by omega⟩
  rw [hM] at hb hj ⊢
  have hB : x.b.length = M * x.s.length := by exact_mod_cast hb
  rw [Int.toNat_natCast] at hj ⊢
  rw [hB, Nat.mul_comm M]
  have e1 : (i + 1) * M = i * M + M := by rw [Nat.add_mul]; omega
  have e2 : (i + 1) * M ≤ x.s.length * M := Nat.mul_le_mul_right _ (by omega)
  omega
/-- the code parts from a filter and a tag that are right -/
theorem has21 (v : Value) (x : Blm) (tag : Int) (w : World) (hv : blmV w v x) (hn : x.s.length ≤ 2097152) (hn' : x.b.length ≤ 2097152) :
    Calls Try.prog 21 #[v, .int .i64 tag] w fun e w' => e = .returned (hV (hasR x tag)) ∧ Below w.heap.size w w' := by
  obtain ⟨a, b, rfl, ha, hb⟩ := hv
  have B1 : Below w.heap.size w (w.alloc (.cells #[.int .i64 x.p, .int .i64 x.w, a, b] 26)) := bl_al (Below.refl _ _)
  have C := bc_new w x.p x.w a b 26
  have hx : blmV (w.alloc (.cells #[.int .i64 x.p, .int .i64 x.w, a, b] 26)) (bloV x.p x.w a b) x := ⟨a, b, rfl, ha.below B1, hb.below B1⟩
  have K1 := hide (code49 (bloV x.p x.w a b) x tag _ hx hn hn')
  have HX := hide hx
  have HC := hide C
  have HB := hide B1
  have HA := hide (ha.below B1)
  have HBB := hide (hb.below B1)
  have n0 : (0 : Int) ≤ (x.s.length : Int) := by omega
  have n1 : (x.s.length : Int) ≤ 2097152 := by omega
  rcases tagC_cases x tag with hc | hc | ⟨hc, hr, ht⟩
  iterate 2
    · have HE := hide (hasR_code (show tagC x tag ≠ 0 by omega))
      rw [hc] at K1 HE
      obtain ⟨A, ca, rfl⟩ := ha.slice
      obtain ⟨A2, cb, rfl⟩ := hb.slice
      clear B1 ha hb hn hn' hx hc
      obtain ⟨p, wd, ss, bs⟩ := x
      dsimp only at *
      obtain ⟨_, c0, c1, c2, c3⟩ := C
      go_enter Try.func21, Try.ntmps21
      go_wp2_with fail
      generalize w.alloc (.cells #[.int .i64 p, .int .i64 wd, .slice A ss.length ca, .slice A2 bs.length cb] 26) = w2 at *
      refine (unhide K1).mono ?_
      rintro e w1 ⟨rfl, b1⟩
      have B1 := hide (bl_st b1 (unhide HB))
      clear b1 c0 c1 c2 c3
      go_wp2
      go_ret2
      exact ⟨by rw [unhide HE]; rfl, unhide B1⟩
  have HE := hide (hasR_ok hc)
  rw [hc] at K1
  have K2 := hide (fun W (hq : BC w.heap.size x.p x.w a b W) (h1 : saltsV W a x.s) (h2 : boolsV W b x.b) => parts50 w.heap.size x a b W hq h1 h2 hr)
  have HR := hide hr
  have HT := hide ht
  obtain ⟨A2, cb, rfl⟩ := hb.slice
  obtain ⟨A, ca, rfl⟩ := ha.slice
  have n4 : (x.s.length : Int) ≤ 4 := by have := hr.s4; omega
  have HNO := hide (fun i hi h => hasB_no (x := x) (tag := tag) (i := i) hi h)
  have HYES := hide (fun h => hasB_yes (x := x) (tag := tag) h)
  have K3 := hide (fun W (h : BC w.heap.size x.p x.w (.slice A x.s.length ca) (.slice A2 x.b.length cb) W) i hi sa sb (e : x.s.getD i noA = (sa, sb)) => bit52 w.heap.size x.p x.w _ _ sa sb tag W h hr.p2 hr.p9 hr.w1 (e ▸ hr.salt i hi) ht)
  have HPL := hide (fun i => plc_in (p := x.p) (x.s.getD i noA) tag hr.w1)
  have w64 := hr.w64
  have HBT : Hid (∀ us i, holds x.w.toNat x.s.length us (fun i j => x.b.getD (i * x.w.toNat + j) false) → i < x.s.length → (us.getD i 0).testBit (plc x.p x.w (x.s.getD i noA) tag).toNat = bt x tag i) := hide fun us i h hi => by
    have := plc_in (p := x.p) (x.s.getD i noA) tag hr.w1
    exact h.bit i _ hi (by omega)
  clear B1 ha hb hn hn' hx hc hr ht
  generalize hbt : bt x tag = f at *
  obtain ⟨p, wd, ss, bs⟩ := x
  dsimp only at *
  clear hbt
  obtain ⟨_, c0, c1, c2, c3⟩ := C
  go_enter Try.func21, Try.ntmps21
  go_wp2_with fail
  generalize w.alloc (.cells #[.int .i64 p, .int .i64 wd, .slice A ss.length ca, .slice A2 bs.length cb] 26) = w2 at *
  refine (unhide K1).mono ?_
  rintro e w1 ⟨rfl, b1⟩
  have B1 := hide (bl_st b1 (unhide HB))
  have C1 := hide ((unhide HC).below b1)
  have S1 := hide ((unhide HA).below b1)
  have T1 := hide ((unhide HBB).below b1)
  clear b1 c0 c1 c2 c3 K1 HC HA HBB HB
  go_wp2_with fail
  refine (unhide K2 w1 (unhide C1) (unhide S1) (unhide T1)).mono ?_
  rintro e w3 ⟨r, us, rfl, ow, hh, b3⟩
  obtain ⟨g, cp, rest, rfl, hg1, hg2, hg⟩ := ow
  have ul := hh.len
  have B3 := hide (bl_st b3 (unhide B1))
  have C3 := hide ((unhide C1).below b3)
  have S3 := hide ((unhide S1).below b3)
  have HH := hide hh
  have HG := hide hg
  have HG2 := hide hg2
  clear b3 hh hg hg1 hg2 C1 S1 T1 B1 K2
  obtain ⟨_, c0, c1, c2, c3⟩ := unhide C3
  go_wp2
  clear c0 c1 c2 c3
  go_loopw [20] (fun i wr => ∃ k : Nat, k ≤ ss.length ∧ i = .int .i64 k ∧ (∀ j, j < k → f j = true) ∧ Below w3.heap.size w3 wr) (fun i _ => ss.length - (intOf i).toNat)
  case atStart => exact ⟨0, by omega, rfl, fun j hj => by omega, Below.refl _ _⟩
  case round =>
    obtain ⟨k, hk, rfl, hall, hbl⟩ := hrel
    by_cases hlt : k < ss.length
    · obtain ⟨b5, off, hA, hl5, hcell⟩ := (unhide S3).at hlt
      subst hA
      have pc := hcell.below hl5 hbl
      have q1 : (k : Int) < (ss.length : Int) := by omega
      have q0 : (0 : Int) ≤ (k : Int) := by omega
      have HJ := hide hlt
      have HALL := hide hall
      have HBL := hide hbl
      have KB := hide (fun W h sa sb e => unhide K3 W h k hlt sa sb e)
      have hpl := unhide HPL k
      have hbt := unhide HBT us k (unhide HH) hlt
      have hN := hide (fun h => unhide HNO k hlt h)
      have hkn : k < us.length := by rw [ul]; exact hlt
      have KH := hide (fun (W : World) b (h : W.heap[g]? = some (wrdO us rest)) (hb : b < 64) => has58 g k (us.getD k 0) b W hb ((unhide HH).lt k hlt) (cell_wrdO h k hkn))
      have k1 : (k : Int) < (us.length : Int) := by omega
      clear hcell hl5 hall hbl hk hlt hkn
      generalize ss.getD k noA = sj at *
      obtain ⟨sa, sb⟩ := sj
      have KB2 := hide (fun W h => unhide KB W h sa sb rfl)
      clear KB
      obtain ⟨c0, c1⟩ := pc
      dsimp only at c0 c1
      generalize plc p wd (sa, sb) tag = z at *
      obtain ⟨zn, hz⟩ : ∃ zn : Nat, z = (zn : Int) := ⟨z.toNat, by omega⟩
      subst hz
      rw [Int.toNat_natCast] at hbt
      have z64 : zn < 64 := by omega
      have KH2 := hide (fun (W : World) (h : W.heap[g]? = some (wrdO us rest)) => unhide KH W zn h z64)
      clear KH
      rw [hbt] at KH2
      clear hpl hbt
      have BA : Below wr.heap.size wr (wr.alloc (.cells #[.int .i64 sa, .int .i64 sb] 67)) := bl_al (Below.refl _ _)
      have B5 := hide (bl_st BA (unhide HBL))
      have PS := hide (sc_new wr sa sb 67)
      have LS : Hid (wr.heap.size < (wr.alloc (.cells #[.int .i64 sa, .int .i64 sb] 67)).heap.size) := hide (by simp)
      have C5 := hide ((unhide C3).below (unhide B5))
      have G5 := hide (((unhide B5).block g (unhide HG2)).trans (unhide HG))
      clear BA
      go_wp2
      generalize wr.alloc (.cells #[.int .i64 sa, .int .i64 sb] 67) = w5 at *
      clear c0 c1
      refine wp_region_held (S := fun W' => Below w5.heap.size w5 W') (by kernel_rfl) ?_
      have hS0 : Below w5.heap.size w5 { w5 with drawn := w5.drawn + 1 } := below_drewN (Below.refl _ _) 1
      refine wpAnyH_take (i := 0) (oi := { dst := some 25, op := Op.move (Operand.tmp 7), type := 70, pos := "l10_bloom.go:130", after := #[], guard := none }) (v := ?_) rfl (by kernel_rfl) (by kernel_rfl) (by kernel_rfl) (fun _ _ _ h => h) (Or.inl ⟨by rfl, ?_⟩) hS0 ?_
      rotate_left
      · intro W hSw
        obtain ⟨d0, d1⟩ := (unhide PS).below (unhide LS) hSw
        dsimp only [Nat.zero_add] at d0 d1
        go_simp
        try with_reducible rfl
      simp only [Act.put, List.setIfInBounds_toArray, List.set_cons_zero, List.set_cons_succ]
      refine wpAnyH_take (i := 1) (oi := { dst := some 26, op := Op.move (Operand.tmp 8), type := 3, pos := "l10_bloom.go:130", after := #[], guard := none }) (v := ?_) rfl (by kernel_rfl) (by kernel_rfl) (by kernel_rfl) (fun _ _ _ h => h) (Or.inl ⟨by rfl, ?_⟩) hS0 ?_
      rotate_left
      · intro W hSw
        obtain ⟨d0, d1⟩ := (unhide PS).below (unhide LS) hSw
        dsimp only [Nat.zero_add] at d0 d1
        go_simp
        try with_reducible rfl
      simp only [Act.put, List.setIfInBounds_toArray, List.set_cons_zero, List.set_cons_succ]
      refine wpAnyH_take (i := 2) (oi := { dst := some 27, op := Op.indexAddr 70 (Operand.tmp 25) (Operand.tmp 26), type := 0, pos := "l10_bloom.go:130", after := #[{ on := 0, ground := Ground.data }, { on := 1, ground := Ground.data }], guard := none }) (v := ?_) rfl (by kernel_rfl) (by kernel_rfl) (by kernel_rfl) (fun _ _ _ h => h) (Or.inl ⟨by rfl, ?_⟩) hS0 ?_
      rotate_left
      · intro W hSw
        obtain ⟨d0, d1⟩ := (unhide PS).below (unhide LS) hSw
        dsimp only [Nat.zero_add] at d0 d1
        go_simp
        try with_reducible rfl
      simp only [Act.put, List.setIfInBounds_toArray, List.set_cons_zero, List.set_cons_succ]
      refine wpAnyH_take (i := 3) (oi := { dst := some 28, op := Op.load 67 (Operand.tmp 9), type := 67, pos := "l10_bloom.go:130", after := #[], guard := none }) (v := ?_) rfl (by kernel_rfl) (by kernel_rfl) (by kernel_rfl) (fun _ _ _ h => h) (Or.inl ⟨by rfl, ?_⟩) hS0 ?_
      rotate_left
      · intro W hSw
        obtain ⟨d0, d1⟩ := (unhide PS).below (unhide LS) hSw
        dsimp only [Nat.zero_add] at d0 d1
        go_simp
        try with_reducible rfl
      simp only [Act.put, List.setIfInBounds_toArray, List.set_cons_zero, List.set_cons_succ]
      refine wpAnyH_take (i := 4) (oi := { dst := some 29, op := Op.move (Operand.tmp 1), type := 3, pos := "l10_bloom.go:130", after := #[], guard := none }) (v := ?_) rfl (by kernel_rfl) (by kernel_rfl) (by kernel_rfl) (fun _ _ _ h => h) (Or.inl ⟨by rfl, ?_⟩) hS0 ?_
      rotate_left
      · intro W hSw
        obtain ⟨d0, d1⟩ := (unhide PS).below (unhide LS) hSw
        dsimp only [Nat.zero_add] at d0 d1
        go_simp
        try with_reducible rfl
      simp only [Act.put, List.setIfInBounds_toArray, List.set_cons_zero, List.set_cons_succ]
      refine wpAnyH_one (i := 5) (by kernel_rfl) ?_
      refine wpOp_step (o := { dst := some 30, op := Op.call { callee := Callee.value (Operand.func 52), args := #[Operand.tmp 2, Operand.tmp 28, Operand.tmp 29], argTypes := #[26, 67, 3] }, type := 3, pos := "l10_bloom.go:130", after := #[{ on := 3, ground := Ground.data }, { on := 4, ground := Ground.data }], guard := none }) rfl fun K' hK => step_enterW (by rfl) 52 #[ptr w.heap.size, saltV (sa, sb), .int .i64 tag] (by go_simp) ((unhide KB2 _ ((unhide C5).below hS0)).mono ?_)
      rintro e w6 ⟨rfl, b6⟩
      have s6 := bl_st b6 hS0
      clear b6
      refine ⟨_, rfl, hK _ _ ⟨s6, ?_⟩⟩
      simp only [Act.put, List.setIfInBounds_toArray, List.set_cons_zero, List.set_cons_succ]
      have G6 := hide ((s6.block g (Array.getElem?_eq_some_iff.1 (unhide G5)).1).trans (unhide G5))
      refine wpAnyH_one (i := 6) (by kernel_rfl) ?_
      refine wpOp_step (o := { dst := some 31, op := Op.call { callee := Callee.value (Operand.func 58), args := #[Operand.tmp 27, Operand.tmp 30], argTypes := #[73, 3] }, type := 4, pos := "l10_bloom.go:130", after := #[{ on := 2, ground := Ground.data }, { on := 5, ground := Ground.data }, { on := 5, ground := Ground.chain }], guard := none }) rfl fun K' hK => step_enterW (by rfl) 58 #[.pointer (some ⟨g, k, none⟩), .int .i64 (zn : Int)] (by go_simp) ((unhide KH2 w6 (unhide G6)).mono ?_)
      rintro e w7 ⟨rfl, hw7⟩
      have hw8 := hw7.symm
      subst hw8
      clear hw7
      refine ⟨_, rfl, hK _ _ ⟨s6, ?_⟩⟩
      simp only [Act.put, List.setIfInBounds_toArray, List.set_cons_zero, List.set_cons_succ]
      refine wpAnyH_take (i := 7) (oi := { dst := some 32, op := Op.unOp UnOp.not 4 (Operand.tmp 31), type := 4, pos := "l10_bloom.go:130", after := #[{ on := 6, ground := Ground.data }], guard := none }) (v := ?_) rfl (by kernel_rfl) (by kernel_rfl) (by kernel_rfl) (fun _ _ _ h => h) (Or.inl ⟨by rfl, ?_⟩) s6 ?_
      rotate_left
      · intro W hSw
        obtain ⟨d0, d1⟩ := (unhide PS).below (unhide LS) hSw
        dsimp only [Nat.zero_add] at d0 d1
        go_simp
        try with_reducible rfl
      simp only [Act.put, List.setIfInBounds_toArray, List.set_cons_zero, List.set_cons_succ]
      refine wpAnyH_done (by kernel_rfl) ?_ _
      have B7 := hide (bl_st s6 (unhide B5))
      clear s6 hS0
      have HALL2 : Hid (f k = true → ∀ j, j < k + 1 → f j = true) := hide fun h j hj => by
        by_cases e : j = k
        · subst e; exact h
        · exact unhide HALL j (by omega)
      generalize f k = fk at *
      cases fk
      · have HF := hide (unhide hN rfl)
        go_wp2
        go_ret2
        exact ⟨by rw [unhide HE, unhide HF]; rfl, bl_st (unhide B7) (unhide B3)⟩
      · go_wp2
        go_roundw
        case rel => exact ⟨k + 1, unhide HJ, by go_num, unhide HALL2 rfl, unhide B7⟩
        case measure => have := unhide HJ; simp [intOf]; omega
    · obtain rfl : k = ss.length := by omega
      have HF := hide (unhide HYES hall)
      have HBL := hide hbl
      clear hlt hall hbl
      go_wp2
      go_ret2
      exact ⟨by rw [unhide HE, unhide HF]; rfl, bl_st (unhide HBL) (unhide B3)⟩
theorem has59 (v : Value) (x : Blm) (tag : Int) (w : World) (hv : blmV w v x) (hr : Right x) (ht : inP x.p tag = true) :
    Calls Try.prog 59 #[v, .int .i64 tag] w fun e w' => e = .returned (.bool (hasB x tag)) ∧ Below w.heap.size w w' := by
  obtain ⟨a, b, rfl, ha, hb⟩ := hv
  have B1 : Below w.heap.size w (w.alloc (.cells #[.int .i64 x.p, .int .i64 x.w, a, b] 26)) := bl_al (Below.refl _ _)
  have C := bc_new w x.p x.w a b 26
  have hx : blmV (w.alloc (.cells #[.int .i64 x.p, .int .i64 x.w, a, b] 26)) (bloV x.p x.w a b) x := ⟨a, b, rfl, ha.below B1, hb.below B1⟩
  have HX := hide hx
  have HC := hide C
  have HB := hide B1
  have HBB := hide (hb.below B1)
  have n0 : (0 : Int) ≤ (x.s.length : Int) := by omega
  have n4 : (x.s.length : Int) ≤ 4 := by have := hr.s4; omega
  have HNO := hide (fun i hi h => hasB_no (x := x) (tag := tag) (i := i) hi h)
  have HYES := hide (fun h => hasB_yes (x := x) (tag := tag) h)
  have K3 := hide (fun W (h : blmV W (bloV x.p x.w a b) x) i (hi : i < x.s.length) => place55 (bloV x.p x.w a b) x i tag W h hr hi ht)
  have HPL : Hid (∀ i, i < x.s.length → ∃ m : Nat, (i : Int) * x.w + plc x.p x.w (x.s.getD i noA) tag = (m : Int) ∧ m < x.b.length ∧ x.b.getD m false = bt x tag i) := hide fun i hi => by
    have h1 := plc_in (p := x.p) (x.s.getD i noA) tag hr.w1
    have h2 := hr.w1
    refine ⟨i * x.w.toNat + (plc x.p x.w (x.s.getD i noA) tag).toNat, ?_, hr.lt hi (by omega), rfl⟩
    rw [Int.natCast_add, Int.natCast_mul, Int.toNat_of_nonneg (by omega), Int.toNat_of_nonneg (by omega)]
  have m256 : (x.b.length : Int) ≤ 256 := by have := hr.bits; have := mul_in hr.w1 hr.w64 (n := (x.s.length : Int)) (by have := hr.s1; omega) n4; omega
  obtain ⟨A2, cb, rfl⟩ := hb.slice
  obtain ⟨A, ca, rfl⟩ := ha.slice
  clear B1 ha hb hx hr ht
  generalize hbt : bt x tag = f at *
  obtain ⟨p, wd, ss, bs⟩ := x
  dsimp only at *
  clear hbt
  obtain ⟨_, c0, c1, c2, c3⟩ := C
  go_enter Try.func59, Try.ntmps59
  go_wp2
  generalize w.alloc (.cells #[.int .i64 p, .int .i64 wd, .slice A ss.length ca, .slice A2 bs.length cb] 26) = w2 at *
  clear c0 c1 c2 c3
  go_loopw [5] (fun i wr => ∃ k : Nat, k ≤ ss.length ∧ i = .int .i64 k ∧ (∀ j, j < k → f j = true) ∧ Below w2.heap.size w2 wr) (fun i _ => ss.length - (intOf i).toNat)
  case atStart => exact ⟨0, by omega, rfl, fun j hj => by omega, Below.refl _ _⟩
  case round =>
    obtain ⟨k, hk, rfl, hall, hbl⟩ := hrel
    have C5 := hide ((unhide HC).below hbl)
    obtain ⟨_, c0, c1, c2, c3⟩ := unhide C5
    by_cases hlt : k < ss.length
    · obtain ⟨m, hm, hmb, hbt⟩ := unhide HPL k hlt
      have K4 := hide (fun W h => unhide K3 W h k hlt)
      rw [hm] at K4
      obtain ⟨b5, off, hA, hl5, hcell⟩ := (unhide HBB).at hmb
      subst hA
      rw [hbt] at hcell
      have PB := hide ((cell_below hbl hl5).trans hcell)
      have LB := hide (Nat.lt_of_lt_of_le hl5 hbl.size)
      have q1 : (k : Int) < (ss.length : Int) := by omega
      have q0 : (0 : Int) ≤ (k : Int) := by omega
      have m1 : (m : Int) < (bs.length : Int) := by omega
      have m0 : (0 : Int) ≤ (m : Int) := by omega
      have X5 := hide ((unhide HX).below hbl)
      have HJ := hide hlt
      have hN := hide (fun h => unhide HNO k hlt h)
      have HBL := hide hbl
      have HALL2 : Hid (f k = true → ∀ j, j < k + 1 → f j = true) := hide fun h j hj => by
        by_cases e : j = k
        · subst e; exact h
        · exact hall j (by omega)
      clear hcell hl5 hall hbl hk hlt hm hmb hbt
      generalize f k = fk at *
      go_wp2
      clear c0 c1 c2 c3
      refine wp_region_held (S := fun W' => Below wr.heap.size wr W') (by kernel_rfl) ?_
      have hS0 : Below wr.heap.size wr { wr with drawn := wr.drawn + 1 } := below_drewN (Below.refl _ _) 1
      refine wpAnyH_take (i := 0) (oi := { dst := some 13, op := Op.fieldAddr 26 (Operand.tmp 2) 3, type := 0, pos := "l10_bloom.go:94", after := #[], guard := none }) (v := ?_) rfl (by kernel_rfl) (by kernel_rfl) (by kernel_rfl) (fun _ _ _ h => h) (Or.inl ⟨by rfl, ?_⟩) hS0 ?_
      rotate_left
      · intro W hSw
        obtain ⟨_, c0, c1, c2, c3⟩ := (unhide C5).below hSw
        have d0 := (cell_below hSw (unhide LB)).trans (unhide PB)
        go_simp
        try with_reducible rfl
      simp only [Act.put, List.setIfInBounds_toArray, List.set_cons_zero, List.set_cons_succ]
      refine wpAnyH_take (i := 1) (oi := { dst := some 14, op := Op.load 24 (Operand.tmp 13), type := 24, pos := "l10_bloom.go:94", after := #[{ on := 0, ground := Ground.data }], guard := none }) (v := ?_) rfl (by kernel_rfl) (by kernel_rfl) (by kernel_rfl) (fun _ _ _ h => h) (Or.inl ⟨by rfl, ?_⟩) hS0 ?_
      rotate_left
      · intro W hSw
        obtain ⟨_, c0, c1, c2, c3⟩ := (unhide C5).below hSw
        have d0 := (cell_below hSw (unhide LB)).trans (unhide PB)
        go_simp
        try with_reducible rfl
      simp only [Act.put, List.setIfInBounds_toArray, List.set_cons_zero, List.set_cons_succ]
      refine wpAnyH_take (i := 2) (oi := { dst := some 15, op := Op.load 26 (Operand.tmp 2), type := 26, pos := "l10_bloom.go:94", after := #[], guard := none }) (v := ?_) rfl (by kernel_rfl) (by kernel_rfl) (by kernel_rfl) (fun _ _ _ h => h) (Or.inl ⟨by rfl, ?_⟩) hS0 ?_
      rotate_left
      · intro W hSw
        obtain ⟨_, c0, c1, c2, c3⟩ := (unhide C5).below hSw
        have d0 := (cell_below hSw (unhide LB)).trans (unhide PB)
        go_simp
        try with_reducible rfl
      simp only [Act.put, List.setIfInBounds_toArray, List.set_cons_zero, List.set_cons_succ]
      refine wpAnyH_take (i := 3) (oi := { dst := some 16, op := Op.move (Operand.tmp 5), type := 3, pos := "l10_bloom.go:94", after := #[], guard := none }) (v := ?_) rfl (by kernel_rfl) (by kernel_rfl) (by kernel_rfl) (fun _ _ _ h => h) (Or.inl ⟨by rfl, ?_⟩) hS0 ?_
      rotate_left
      · intro W hSw
        obtain ⟨_, c0, c1, c2, c3⟩ := (unhide C5).below hSw
        have d0 := (cell_below hSw (unhide LB)).trans (unhide PB)
        go_simp
        try with_reducible rfl
      simp only [Act.put, List.setIfInBounds_toArray, List.set_cons_zero, List.set_cons_succ]
      refine wpAnyH_take (i := 4) (oi := { dst := some 17, op := Op.move (Operand.tmp 1), type := 3, pos := "l10_bloom.go:94", after := #[], guard := none }) (v := ?_) rfl (by kernel_rfl) (by kernel_rfl) (by kernel_rfl) (fun _ _ _ h => h) (Or.inl ⟨by rfl, ?_⟩) hS0 ?_
      rotate_left
      · intro W hSw
        obtain ⟨_, c0, c1, c2, c3⟩ := (unhide C5).below hSw
        have d0 := (cell_below hSw (unhide LB)).trans (unhide PB)
        go_simp
        try with_reducible rfl
      simp only [Act.put, List.setIfInBounds_toArray, List.set_cons_zero, List.set_cons_succ]
      refine wpAnyH_one (i := 5) (by kernel_rfl) ?_
      refine wpOp_step (o := { dst := some 18, op := Op.call { callee := Callee.value (Operand.func 55), args := #[Operand.tmp 15, Operand.tmp 16, Operand.tmp 17], argTypes := #[26, 3, 3] }, type := 3, pos := "l10_bloom.go:94", after := #[{ on := 2, ground := Ground.data }, { on := 3, ground := Ground.data }, { on := 4, ground := Ground.data }], guard := none }) rfl fun K' hK => step_enterW (by rfl) 55 #[bloV p wd (.slice A ss.length ca) (.slice (some ⟨b5, off, none⟩) bs.length cb), .int .i64 (k : Int), .int .i64 tag] (by go_simp) ((unhide K4 _ ((unhide X5).below hS0)).mono ?_)
      rintro e w6 ⟨rfl, b6⟩
      have s6 := bl_st b6 hS0
      clear b6
      refine ⟨_, rfl, hK _ _ ⟨s6, ?_⟩⟩
      simp only [Act.put, List.setIfInBounds_toArray, List.set_cons_zero, List.set_cons_succ]
      refine wpAnyH_take (i := 6) (oi := { dst := some 19, op := Op.indexAddr 24 (Operand.tmp 14) (Operand.tmp 18), type := 0, pos := "l10_bloom.go:94", after := #[{ on := 1, ground := Ground.data }, { on := 5, ground := Ground.data }], guard := none }) (v := ?_) rfl (by kernel_rfl) (by kernel_rfl) (by kernel_rfl) (fun _ _ _ h => h) (Or.inl ⟨by rfl, ?_⟩) s6 ?_
      rotate_left
      · intro W hSw
        obtain ⟨_, c0, c1, c2, c3⟩ := (unhide C5).below hSw
        have d0 := (cell_below hSw (unhide LB)).trans (unhide PB)
        go_simp
        try with_reducible rfl
      simp only [Act.put, List.setIfInBounds_toArray, List.set_cons_zero, List.set_cons_succ]
      refine wpAnyH_take (i := 7) (oi := { dst := some 20, op := Op.load 4 (Operand.tmp 19), type := 4, pos := "l10_bloom.go:94", after := #[{ on := 6, ground := Ground.data }], guard := none }) (v := ?_) rfl (by kernel_rfl) (by kernel_rfl) (by kernel_rfl) (fun _ _ _ h => h) (Or.inl ⟨by rfl, ?_⟩) s6 ?_
      rotate_left
      · intro W hSw
        obtain ⟨_, c0, c1, c2, c3⟩ := (unhide C5).below hSw
        have d0 := (cell_below hSw (unhide LB)).trans (unhide PB)
        go_simp
        try with_reducible rfl
      simp only [Act.put, List.setIfInBounds_toArray, List.set_cons_zero, List.set_cons_succ]
      refine wpAnyH_take (i := 8) (oi := { dst := some 21, op := Op.unOp UnOp.not 4 (Operand.tmp 20), type := 4, pos := "l10_bloom.go:94", after := #[{ on := 7, ground := Ground.data }], guard := none }) (v := ?_) rfl (by kernel_rfl) (by kernel_rfl) (by kernel_rfl) (fun _ _ _ h => h) (Or.inl ⟨by rfl, ?_⟩) s6 ?_
      rotate_left
      · intro W hSw
        obtain ⟨_, c0, c1, c2, c3⟩ := (unhide C5).below hSw
        have d0 := (cell_below hSw (unhide LB)).trans (unhide PB)
        go_simp
        try with_reducible rfl
      simp only [Act.put, List.setIfInBounds_toArray, List.set_cons_zero, List.set_cons_succ]
      refine wpAnyH_done (by kernel_rfl) ?_ _
      have B7 := hide (bl_st s6 (unhide HBL))
      clear s6 hS0
      cases fk
      · have HF := hide (unhide hN rfl)
        go_wp2
        go_ret
        exact ⟨by rw [unhide HF]; rfl, bl_st (unhide B7) (unhide HB)⟩
      · go_wp2
        go_roundw
        case rel => exact ⟨k + 1, unhide HJ, by go_num, unhide HALL2 rfl, unhide B7⟩
        case measure => have := unhide HJ; simp [intOf]; omega
    · obtain rfl : k = ss.length := by omega
      have HF := hide (unhide HYES hall)
      have HBL := hide hbl
      clear hlt hall hbl
      go_wp2
      go_ret
      exact ⟨by rw [unhide HF]; rfl, bl_st (unhide HBL) (unhide HB)⟩
theorem has22 (v : Value) (x : Blm) (tag : Int) (w : World) (hv : blmV w v x) (hn : x.s.length ≤ 2097152) (hn' : x.b.length ≤ 2097152) :
    Calls Try.prog 22 #[v, .int .i64 tag] w fun e w' => e = .returned (hV (hasR x tag)) ∧ Below w.heap.size w w' := by
  obtain ⟨a, b, rfl, ha, hb⟩ := hv
  have B1 : Below w.heap.size w (w.alloc (.cells #[.int .i64 x.p, .int .i64 x.w, a, b] 26)) := bl_al (Below.refl _ _)
  have C := bc_new w x.p x.w a b 26
  have hx : blmV (w.alloc (.cells #[.int .i64 x.p, .int .i64 x.w, a, b] 26)) (bloV x.p x.w a b) x := ⟨a, b, rfl, ha.below B1, hb.below B1⟩
  have K1 := hide (code53 (bloV x.p x.w a b) x tag _ hx hn hn')
  have HX := hide hx
  have HC := hide C
  have HB := hide B1
  have HA := hide (ha.below B1)
  have HBB := hide (hb.below B1)
  have n0 : (0 : Int) ≤ (x.s.length : Int) := by omega
  have n1 : (x.s.length : Int) ≤ 2097152 := by omega
  rcases tagC_cases x tag with hc | hc | ⟨hc, hr, ht⟩
  iterate 2
    · have HE := hide (hasR_code (show tagC x tag ≠ 0 by omega))
      rw [hc] at K1 HE
      obtain ⟨A, ca, rfl⟩ := ha.slice
      obtain ⟨A2, cb, rfl⟩ := hb.slice
      clear B1 ha hb hn hn' hx hc
      obtain ⟨p, wd, ss, bs⟩ := x
      dsimp only at *
      obtain ⟨_, c0, c1, c2, c3⟩ := C
      go_enter Try.func22, Try.ntmps22
      go_wp2_with fail
      generalize w.alloc (.cells #[.int .i64 p, .int .i64 wd, .slice A ss.length ca, .slice A2 bs.length cb] 26) = w2 at *
      refine (unhide K1).mono ?_
      rintro e w1 ⟨rfl, b1⟩
      have B1 := hide (bl_st b1 (unhide HB))
      clear b1 c0 c1 c2 c3
      go_wp2
      go_ret2
      exact ⟨by rw [unhide HE]; rfl, unhide B1⟩
  have HE := hide (hasR_ok hc)
  rw [hc] at K1
  have K2 := hide (fun W (h : blmV W (bloV x.p x.w a b) x) => has59 (bloV x.p x.w a b) x tag W h hr ht)
  obtain ⟨A2, cb, rfl⟩ := hb.slice
  obtain ⟨A, ca, rfl⟩ := ha.slice
  clear B1 ha hb hn hn' hx hc hr ht HA HBB
  generalize hasB x tag = bb at *
  obtain ⟨p, wd, ss, bs⟩ := x
  dsimp only at *
  obtain ⟨_, c0, c1, c2, c3⟩ := C
  go_enter Try.func22, Try.ntmps22
  go_wp2_with fail
  generalize w.alloc (.cells #[.int .i64 p, .int .i64 wd, .slice A ss.length ca, .slice A2 bs.length cb] 26) = w2 at *
  refine (unhide K1).mono ?_
  rintro e w1 ⟨rfl, b1⟩
  have B1 := hide (bl_st b1 (unhide HB))
  have X1 := hide ((unhide HX).below b1)
  clear c0 c1 c2 c3
  obtain ⟨_, c0, c1, c2, c3⟩ := (unhide HC).below b1
  clear b1
  go_wp2_with fail
  refine (unhide K2 w1 (unhide X1)).mono ?_
  rintro e w3 ⟨rfl, b3⟩
  have B3 := hide (bl_st b3 (unhide B1))
  clear b3 c0 c1 c2 c3
  go_wp2
  go_ret2
  exact ⟨by rw [unhide HE]; rfl, unhide B3⟩
theorem law_has (w : World) (v : Value) (x : Blm) (hv : blmV w v x) (hl : x.s.length ≤ maxLen) (hl' : x.b.length ≤ maxLen) (tag : Int) :
    Calls Try.prog 10 #[v, .int .i64 tag] w fun e w' => e = .returned (.bool true) ∧ Below w.heap.size w w' := by
  obtain ⟨a, b, rfl, ha, hb⟩ := hv
  have B0 : Below w.heap.size w (w.alloc (.cells #[.int .i64 x.p, .int .i64 x.w, a, b] 52)) := bl_al (Below.refl _ _)
  have hv : blmV w (bloV x.p x.w a b) x := ⟨a, b, rfl, ha, hb⟩
  have h6 := hide (sz36 (bloV x.p x.w a b) x 1048576 _ (hv.below B0) hl hl' (by omega) (by omega))
  have C := bc_new w x.p x.w a b 52
  have HC := hide C
  have HV := hide hv
  have HB := hide B0
  have HTO : Hid (x.s.length + x.b.length ≤ 1048576 → ∀ W, blmV W (bloV x.p x.w a b) x → Calls Try.prog 38 #[bloV x.p x.w a b] W fun e w' => ∃ r, e = .returned r ∧ ownX W.heap.size w'.heap.size w' r x ∧ Below W.heap.size W w') := hide fun hn W hu => to38 _ x W hu (by omega) (by omega)
  have HSP : Hid (x.s.length + x.b.length ≤ 1048576 → ∀ u W, blmV W u x → Calls Try.prog 22 #[u, .int .i64 tag] W fun e w' => e = .returned (hV (hasR x tag)) ∧ Below W.heap.size W w') := hide fun hn u W hu => has22 u x tag W hu (by omega) (by omega)
  have HIM : Hid (x.s.length + x.b.length ≤ 1048576 → ∀ u W, blmV W u x → Calls Try.prog 21 #[u, .int .i64 tag] W fun e w' => e = .returned (hV (hasR x tag)) ∧ Below W.heap.size W w') := hide fun hn u W hu => has21 u x tag W hu (by omega) (by omega)
  have HEQ : Hid (x.s.length + x.b.length ≤ 1048576 → ∀ u u' W, blmV W u x → blmV W u' x → Calls Try.prog 31 #[u, u'] W fun e w' => e = .returned (.bool true) ∧ Below W.heap.size W w') := hide fun hn u u' W hu hu' => eq31 u u' x W hu hu' (by omega) (by omega)
  generalize hasR x tag = r at *
  obtain ⟨y0, y1⟩ := r
  clear hl hl' hv ha hb B0
  obtain ⟨p, wd, ss, bs⟩ := x
  dsimp only at *
  obtain ⟨_, c0, c1, c2, c3⟩ := C
  go_enter Try.func10, Try.ntmps10
  go_wp2_with fail
  generalize w.alloc (.cells #[.int .i64 p, .int .i64 wd, a, b] 52) = w0 at *
  refine (unhide h6).mono ?_
  rintro e w1 ⟨z, rfl, hz, b1⟩
  have B1 := hide (bl_st b1 (unhide HB))
  have C1 := hide ((unhide HC).below b1)
  have HZ := hide hz
  clear hz b1 h6 c0 c1 c2 c3 HB HC
  by_cases hneg : z < 0
  · go_wp2
    go_ret
    exact ⟨rfl, unhide B1⟩
  have HN := hide (Or.resolve_left (unhide HZ) hneg).2.2
  have hge : 0 ≤ z := by omega
  clear hneg
  obtain ⟨_, c0, c1, c2, c3⟩ := unhide C1
  go_wp2_with fail
  refine (unhide HTO (unhide HN) w1 ((unhide HV).below (unhide B1))).mono ?_
  rintro e w2 ⟨u1, rfl, o2, b2⟩
  have B2 := hide (bl_st b2 (unhide B1))
  have U2 := hide o2.blm
  have C2 := hide ((unhide C1).below b2)
  clear b2 B1 C1 o2 c0 c1 c2 c3
  go_wp2_with fail
  refine (unhide HSP (unhide HN) _ w2 (unhide U2)).mono ?_
  rintro e w3 ⟨rfl, b3⟩
  have B3 := hide (bl_st b3 (unhide B2))
  have C3 := hide ((unhide C2).below b3)
  clear b3 B2 U2 C2
  obtain ⟨_, c0, c1, c2, c3⟩ := unhide C3
  go_wp2_with fail
  refine (unhide HTO (unhide HN) w3 ((unhide HV).below (unhide B3))).mono ?_
  rintro e w4 ⟨u, rfl, o4, b4⟩
  have U4 := o4.blm
  obtain ⟨a2, b2, rfl, oa2, ob2, _⟩ := o4
  obtain ⟨A2, ca2, rfl⟩ := oa2.salts.slice
  obtain ⟨B2, cb2, rfl⟩ := ob2.bools.slice
  clear oa2 ob2
  have BA : Below w4.heap.size w4 (w4.alloc (.cells #[.int .i64 p, .int .i64 wd, .slice A2 ss.length ca2, .slice B2 bs.length cb2] 26)) := bl_al (Below.refl _ _)
  have B4 := hide (bl_st BA (bl_st b4 (unhide B3)))
  have U4 := hide (U4.below BA)
  have C4 := hide (((unhide C3).below b4).below BA)
  have D := bc_new w4 p wd (.slice A2 ss.length ca2) (.slice B2 bs.length cb2) 26
  have D4 := hide D
  clear b4 B3 C3 BA c0 c1 c2 c3
  obtain ⟨_, d0, d1, d2, d3⟩ := D
  go_wp2_with fail
  generalize hw4 : w4.alloc (.cells #[.int .i64 p, .int .i64 wd, .slice A2 ss.length ca2, .slice B2 bs.length cb2] 26) = w4' at *
  refine (unhide HIM (unhide HN) _ w4' (unhide U4)).mono ?_
  rintro e w5 ⟨rfl, b5⟩
  have B5 := hide (bl_st b5 (unhide B4))
  have C5 := hide ((unhide C4).below b5)
  have D5 := hide ((unhide D4).below b5)
  have U5 := hide ((unhide U4).below b5)
  have V5 := hide ((unhide HV).below (unhide B5))
  clear b5 B4 C4 D4 U4 d0 d1 d2 d3 hw4 HV
  go_wp2
  refine wp_region_held (S := fun W' => Below w5.heap.size w5 W') (by kernel_rfl) ?_
  have hS0 : Below w5.heap.size w5 { w5 with drawn := w5.drawn + 1 } := below_drewN (Below.refl _ _) 1
  refine wpAnyH_take (i := 0) (oi := { dst := some 39, op := Op.load 26 (Operand.tmp 8), type := 26, pos := "exact.go:3242", after := #[], guard := none }) (v := ?_) rfl (by kernel_rfl) (by kernel_rfl) (by kernel_rfl) (fun _ _ _ h => h) (Or.inl ⟨by rfl, ?_⟩) hS0 ?_
  rotate_left
  · intro W hSw
    obtain ⟨_, c0, c1, c2, c3⟩ := (unhide C5).below hSw
    obtain ⟨_, d0, d1, d2, d3⟩ := (unhide D5).below hSw
    go_simp
    try with_reducible rfl
  simp only [Act.put, List.setIfInBounds_toArray, List.set_cons_zero, List.set_cons_succ]
  refine wpAnyH_take (i := 1) (oi := { dst := some 40, op := Op.load 52 (Operand.tmp 2), type := 52, pos := "exact.go:3242", after := #[], guard := none }) (v := ?_) rfl (by kernel_rfl) (by kernel_rfl) (by kernel_rfl) (fun _ _ _ h => h) (Or.inl ⟨by rfl, ?_⟩) hS0 ?_
  rotate_left
  · intro W hSw
    obtain ⟨_, c0, c1, c2, c3⟩ := (unhide C5).below hSw
    obtain ⟨_, d0, d1, d2, d3⟩ := (unhide D5).below hSw
    go_simp
    try with_reducible rfl
  simp only [Act.put, List.setIfInBounds_toArray, List.set_cons_zero, List.set_cons_succ]
  refine wpAnyH_one (i := 2) (by kernel_rfl) ?_
  refine wpOp_step (o := { dst := some 41, op := Op.call { callee := Callee.value (Operand.func 38), args := #[Operand.tmp 40], argTypes := #[52] }, type := 26, pos := "exact.go:3242", after := #[{ on := 1, ground := Ground.data }], guard := none }) rfl fun K' hK => step_enterW (by rfl) 38 #[bloV p wd a b] (by go_simp) ((unhide HTO (unhide HN) _ ((unhide V5).below hS0)).mono ?_)
  rintro e w6 ⟨u6, rfl, o6, b6⟩
  have s6 := bl_st b6 hS0
  have U6 := hide ((unhide U5).below s6)
  have V6 := hide o6.blm
  clear b6 o6
  refine ⟨_, rfl, hK _ _ ⟨s6, ?_⟩⟩
  simp only [Act.put, List.setIfInBounds_toArray, List.set_cons_zero, List.set_cons_succ]
  refine wpAnyH_one (i := 3) (by kernel_rfl) ?_
  refine wpOp_step (o := { dst := some 42, op := Op.call { callee := Callee.value (Operand.func 31), args := #[Operand.tmp 39, Operand.tmp 41], argTypes := #[26, 26] }, type := 4, pos := "exact.go:3242", after := #[{ on := 0, ground := Ground.data }, { on := 2, ground := Ground.data }, { on := 2, ground := Ground.chain }], guard := none }) rfl fun K' hK => step_enterW (by rfl) 31 #[bloV p wd (.slice A2 ss.length ca2) (.slice B2 bs.length cb2), u6] (by go_simp) ((unhide HEQ (unhide HN) _ _ _ (unhide U6) (unhide V6)).mono ?_)
  rintro e w7 ⟨rfl, b7⟩
  have s7 := bl_st b7 s6
  clear b7
  refine ⟨_, rfl, hK _ _ ⟨s7, ?_⟩⟩
  simp only [Act.put, List.setIfInBounds_toArray, List.set_cons_zero, List.set_cons_succ]
  refine wpAnyH_take (i := 4) (oi := { dst := some 43, op := Op.unOp UnOp.not 4 (Operand.tmp 42), type := 4, pos := "exact.go:3242", after := #[{ on := 3, ground := Ground.data }], guard := none }) (v := ?_) rfl (by kernel_rfl) (by kernel_rfl) (by kernel_rfl) (fun _ _ _ h => h) (Or.inl ⟨by rfl, ?_⟩) s7 ?_
  rotate_left
  · intro W hSw
    go_simp
    try with_reducible rfl
  simp only [Act.put, List.setIfInBounds_toArray, List.set_cons_zero, List.set_cons_succ]
  refine wpAnyH_done (by kernel_rfl) ?_ _
  have B7 := hide (bl_st s7 (unhide B5))
  clear s6 s7 hS0
  go_wp2
  go_ret
  exact ⟨rfl, unhide B7⟩
end Go.Proofs.Ythckgccfjpgbaaa
