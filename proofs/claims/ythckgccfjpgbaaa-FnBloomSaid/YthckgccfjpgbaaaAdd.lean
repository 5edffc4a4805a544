/- BloomAdd: what it is; the program's side. -/
import Derived.Test.YthckgccfjpgbaaaHas
import Derived.Test.YthckgccfjpgbaaaWip
import Derived.Test.YthckgccfjpgbaaaOwn
namespace Go.Proofs.Ythckgccfjpgbaaa
open Go.RowKit
set_option maxHeartbeats 4000000
set_option maxRecDepth 20000
/-- a tag's bit in part i -/
def bi (x : Blm) (tag : Int) (i : Nat) : Nat := (plc x.p x.w (x.s.getD i noA) tag).toNat
/-- the bits with those of the first k parts set -/
def addF (x : Blm) (tag : Int) (k i j : Nat) : Bool := x.b.getD (i * x.w.toNat + j) false || (decide (i < k) && decide (j = bi x tag i))
def addX (x : Blm) (tag : Int) : Blm := ⟨x.p, x.w, x.s, bitsOf x.w.toNat x.s.length (addF x tag x.s.length)⟩
def addR (x : Blm) (tag : Int) : Blm × Int := if tagC x tag = 0 then (addX x tag, 0) else (noX, tagC x tag)
theorem addR_code {x : Blm} {tag : Int} (h : tagC x tag ≠ 0) : addR x tag = (noX, tagC x tag) := by unfold addR; rw [if_neg h]
theorem addR_ok {x : Blm} {tag : Int} (h : tagC x tag = 0) : addR x tag = (addX x tag, 0) := by unfold addR; rw [if_pos h]
theorem addF_zero (x : Blm) (tag : Int) (i j : Nat) : addF x tag 0 i j = x.b.getD (i * x.w.toNat + j) false := by unfold addF; simp
theorem addF_step (x : Blm) (tag : Int) (k i j : Nat) : (addF x tag k i j || (decide (i = k) && decide (j = bi x tag k))) = addF x tag (k + 1) i j := by
  unfold addF
  rw [Bool.or_assoc]
  congr 1
  by_cases e : i = k
  · subst e
    rw [decide_eq_false (show ¬ i < i by omega), decide_eq_true (show i < i + 1 by omega)]
    simp
  · rw [decide_eq_false e, Bool.false_and, Bool.or_false]
    congr 1
    rw [decide_eq_decide]; omega
theorem SC.set {b o : Nat} {s : Slt} {W : World} {g i : Nat} {v : Value} (h : SC b o s W) (hne : g ≠ b) : SC b o s (W.setCell ⟨g, i, none⟩ v) := by
  have hc : ∀ k, (W.setCell ⟨g, i, none⟩ v).cell? ⟨b, k, none⟩ = W.cell? ⟨b, k, none⟩ := fun k => by
    unfold World.cell?
    rw [show (⟨b, k, none⟩ : Addr).block = b from rfl]
    simp only [World.setCell]
    rw [Array.getElem?_modify, if_neg (by omega)]
  exact ⟨(hc _).trans h.c0, (hc _).trans h.c1⟩
theorem add17 (v : Value) (x : Blm) (tag : Int) (w : World) (hv : blmV w v x) (hn : x.s.length ≤ 2097152) (hn' : x.b.length ≤ 2097152) :
    Calls Try.prog 17 #[v, .int .i64 tag] w fun e w' => outX w (addR x tag).1 (addR x tag).2 e w' := by
  obtain ⟨a, b, rfl, ha, hb⟩ := hv
  obtain ⟨A, ca, rfl⟩ := ha.slice
  obtain ⟨A2, cb, rfl⟩ := hb.slice
  have B0 : Below w.heap.size w (w.alloc (.cells #[.int .i64 x.p, .int .i64 x.w, .slice A x.s.length ca, .slice A2 x.b.length cb] 26)) := bl_al (Below.refl _ _)
  have C0 := bc_new w x.p x.w (.slice A x.s.length ca) (.slice A2 x.b.length cb) 26
  have e0 : (w.alloc (.cells #[.int .i64 x.p, .int .i64 x.w, .slice A x.s.length ca, .slice A2 x.b.length cb] 26)).heap.size = w.heap.size + 1 := by simp
  have B1 := bl_al (o := (.cells #[.int .i64 0, .int .i64 0, .slice none 0 0, .slice none 0 0] 26)) B0
  have C1 := C0.below (bl_al (o := (.cells #[.int .i64 0, .int .i64 0, .slice none 0 0, .slice none 0 0] 26)) (Below.refl _ _))
  have N1 := hide (heap_alloc_new (w.alloc (.cells #[.int .i64 x.p, .int .i64 x.w, .slice A x.s.length ca, .slice A2 x.b.length cb] 26)) (.cells #[.int .i64 0, .int .i64 0, .slice none 0 0, .slice none 0 0] 26))
  have E1 : Hid (((w.alloc (.cells #[.int .i64 x.p, .int .i64 x.w, .slice A x.s.length ca, .slice A2 x.b.length cb] 26)).alloc (.cells #[.int .i64 0, .int .i64 0, .slice none 0 0, .slice none 0 0] 26)).heap.size = w.heap.size + 1 + 1) := hide (by simp)
  rw [e0] at N1
  have hx : blmV _ (bloV x.p x.w (.slice A x.s.length ca) (.slice A2 x.b.length cb)) x := ⟨_, _, rfl, ha.below B1, hb.below B1⟩
  have K1 := hide (code49 (bloV x.p x.w (.slice A x.s.length ca) (.slice A2 x.b.length cb)) x tag _ hx hn hn')
  have HC := hide C1
  have HX := hide hx
  have HB := hide B1
  have HA := hide (ha.below B1)
  have HBB := hide (hb.below B1)
  have HN := hide hn
  have HN' := hide hn'
  obtain ⟨_, c0, c1, c2, c3⟩ := C1
  clear B0 C0 e0 B1 ha hb
  rcases tagC_cases x tag with hc | hc | ⟨hc, hr, ht⟩
  iterate 2
    · have HE := hide (addR_code (show tagC x tag ≠ 0 by omega))
      rw [hc] at K1 HE
      clear hn hn' hx hc HX HA HBB HN HN'
      obtain ⟨p, wd, ss, bs⟩ := x
      dsimp only at *
      go_enter Try.func17, Try.ntmps17
      go_wp2_with fail
      generalize (w.alloc (.cells #[.int .i64 p, .int .i64 wd, .slice A ss.length ca, .slice A2 bs.length cb] 26)).alloc (.cells #[.int .i64 0, .int .i64 0, .slice none 0 0, .slice none 0 0] 26) = w2 at *
      refine (unhide K1).mono ?_
      rintro e w1 ⟨rfl, b1⟩
      have B1 := hide (bl_st b1 (unhide HB))
      have n1 := (b1.block _ (Array.getElem?_eq_some_iff.1 (unhide N1)).1).trans (unhide N1)
      have p0 : w1.cell? ⟨w.heap.size + 1, 0, none⟩ = some (.int .i64 0) := row_cell n1
      have y0 : w1.frozen? ⟨w.heap.size + 1, 0, none⟩ = false := row_free n1
      have p1 : w1.cell? ⟨w.heap.size + 1, 1, none⟩ = some (.int .i64 0) := row_cell n1
      have y1 : w1.frozen? ⟨w.heap.size + 1, 1, none⟩ = false := row_free n1
      have p2 : w1.cell? ⟨w.heap.size + 1, 2, none⟩ = some (.slice none 0 0) := row_cell n1
      have y2 : w1.frozen? ⟨w.heap.size + 1, 2, none⟩ = false := row_free n1
      have p3 : w1.cell? ⟨w.heap.size + 1, 3, none⟩ = some (.slice none 0 0) := row_cell n1
      have y3 : w1.frozen? ⟨w.heap.size + 1, 3, none⟩ = false := row_free n1
      have NN := hide n1
      clear b1 c0 c1 c2 c3 n1
      go_wp2
      rw [unhide HE]
      refine bodyPost_ret (results_tmp_row rfl _ _ (w.heap.size + 1) 26 _ (0, 0) _ _ rfl rfl (row_put4 (unhide NN) 0 0 (.slice none 0 0) (.slice none 0 0)) Try.underlying26 rfl (by kernel_rfl)) rfl ⟨_, rfl, own_noX _ _ _, bl_put4 (unhide B1) (by omega)⟩
  have HE := hide (addR_ok hc)
  rw [hc] at K1
  obtain ⟨M, hM⟩ : ∃ M : Nat, x.w = (M : Int) := ⟨x.w.toNat, by have := hr.w1; omega⟩
  have hMt : x.w.toNat = M := by omega
  have M1 : 1 ≤ M := by have := hr.w1; omega
  have M64 : M ≤ 64 := by have := hr.w64; omega
  have K2 := hide (fun W (hq : BC w.heap.size x.p x.w (.slice A x.s.length ca) (.slice A2 x.b.length cb) W) (h1 : saltsV W (.slice A x.s.length ca) x.s) (h2 : boolsV W (.slice A2 x.b.length cb) x.b) => parts50 w.heap.size x _ _ W hq h1 h2 hr)
  have K3 := hide (fun W (h : BC w.heap.size x.p x.w (.slice A x.s.length ca) (.slice A2 x.b.length cb) W) i hi sa sb (e : x.s.getD i noA = (sa, sb)) => bit52 w.heap.size x.p x.w _ _ sa sb tag W h hr.p2 hr.p9 hr.w1 (e ▸ hr.salt i hi) ht)
  have HPL := hide (fun i => plc_in (p := x.p) (x.s.getD i noA) tag hr.w1)
  have n1 : 1 ≤ x.s.length := hr.s1
  have n4 : x.s.length ≤ 4 := hr.s4
  have HBI : Hid (∀ i, bi x tag i = (plc x.p x.w (x.s.getD i noA) tag).toNat) := hide fun i => rfl
  have HF0 : Hid (∀ us, holds x.w.toNat x.s.length us (fun i j => x.b.getD (i * x.w.toNat + j) false) → holds M x.s.length us (addF x tag 0)) := hide fun us h => by
    rw [← hMt]; exact h.congr fun i j _ _ => (addF_zero x tag i j).symm
  have HFS : Hid (∀ us k, k < x.s.length → holds M x.s.length us (addF x tag k) → bi x tag k < 64 → holds M x.s.length (us.set k (us.getD k 0 ||| 2 ^ bi x tag k)) (addF x tag (k + 1))) := hide fun us k hk h hb => (h.set hk hb).congr fun i j _ _ => addF_step x tag k i j
  have HAX : Hid (addX x tag = ⟨x.p, (M : Int), x.s, bitsOf M x.s.length (addF x tag x.s.length)⟩) := hide (by unfold addX; rw [hMt, hM])
  have K4 := hide (fun g us rest cp W hq h1 hg hh => with48 w.heap.size g x.p M x.s.length (.slice A x.s.length ca) (.slice A2 x.b.length cb) x.s us rest cp (addF x tag x.s.length) W hq h1 rfl n1 n4 M1 M64 hg hh)
  rw [hM] at K3 HPL HBI HC c1 K1 K2
  clear hn hn' hx hc hr ht HX hMt
  generalize addF x tag = ff at *
  generalize bi x tag = bb at *
  generalize addX x tag = yy at *
  generalize hR : addR x tag = rr at *
  obtain ⟨p, wd, ss, bs⟩ := x
  dsimp only at *
  subst hM
  clear hR
  rw [unhide HE]
  clear HE
  have nI : (ss.length : Int) ≤ 4 := by omega
  have n0 : (0 : Int) ≤ (ss.length : Int) := by omega
  have HN1 := hide n1
  clear n1 n4
  go_enter Try.func17, Try.ntmps17
  go_wp2_with fail
  generalize (w.alloc (.cells #[.int .i64 p, .int .i64 (M : Int), .slice A ss.length ca, .slice A2 bs.length cb] 26)).alloc (.cells #[.int .i64 0, .int .i64 0, .slice none 0 0, .slice none 0 0] 26) = w2 at *
  refine (unhide K1).mono ?_
  rintro e w1 ⟨rfl, b1⟩
  have B1 := hide (bl_st b1 (unhide HB))
  have C1 := hide ((unhide HC).below b1)
  have S1 := hide ((unhide HA).below b1)
  have T1 := hide ((unhide HBB).below b1)
  have NN := hide ((b1.block _ (Array.getElem?_eq_some_iff.1 (unhide N1)).1).trans (unhide N1))
  have L1 := hide (show w.heap.size + 1 + 1 ≤ w1.heap.size by have := b1.size; have := unhide E1; omega)
  clear b1 c0 c1 c2 c3 K1 HC HA HBB HB N1 E1
  go_wp2_with fail
  refine (unhide K2 w1 (unhide C1) (unhide S1) (unhide T1)).mono ?_
  rintro e w3 ⟨r, us0, rfl, ow, hh, b3⟩
  obtain ⟨g, cp, rest, rfl, hg1, hg2, hg⟩ := ow
  have ul := hh.len
  have HG := hide hg
  have HG1 := hide hg1
  have HH := hide (unhide HF0 us0 hh)
  have B3 := hide b3
  clear hh hg hg1 hg2 T1 K2 HF0
  rw [ul]
  obtain ⟨_, c0, c1, c2, c3⟩ := (unhide C1).below b3
  clear b3
  go_wp2
  clear c0 c1 c2 c3
  go_loopw [21] (fun i wr => ∃ (k : Nat) (us : List Nat), k ≤ ss.length ∧ i = .int .i64 k ∧ holds M ss.length us (ff k) ∧ wr.heap[g]? = some (wrdO us rest) ∧ Below w1.heap.size w1 wr) (fun i _ => ss.length - (intOf i).toNat)
  case atStart => exact ⟨0, us0, by omega, rfl, unhide HH, unhide HG, unhide B3⟩
  case round =>
    obtain ⟨k, us, hk, rfl, hh, hg, hbl⟩ := hrel
    by_cases hlt : k < ss.length
    · obtain ⟨b5, off, hA, hl5, hcell⟩ := (unhide S1).at hlt
      subst hA
      have pc := hcell.below hl5 hbl
      have q1 : (k : Int) < (ss.length : Int) := by omega
      have q0 : (0 : Int) ≤ (k : Int) := by omega
      have HJ := hide hlt
      have HBL := hide hbl
      have KB := hide (fun W h sa sb e => unhide K3 W h k hlt sa sb e)
      have hpl := unhide HPL k
      have hbk := unhide HBI k
      have hkn : k < us.length := by rw [hh.len]; exact hlt
      have KS := hide (fun (W : World) b (h : W.heap[g]? = some (wrdO us rest)) (hb : b < 64) => set51 g k (us.getD k 0) b W hb (hh.lt k hlt) (cell_wrdO h k hkn) (free_wrdO h k))
      have HST := hide (fun hb => unhide HFS us k hlt hh hb)
      have HSW := hide (fun (W : World) nu (h : W.heap[g]? = some (wrdO us rest)) => set_wrdO h k nu hkn)
      have HGG := hide hg
      clear hcell hl5 hbl hk hlt hkn hh hg
      generalize ss.getD k noA = sj at *
      obtain ⟨sa, sb⟩ := sj
      have KB2 := hide (fun W h => unhide KB W h sa sb rfl)
      clear KB
      obtain ⟨c0, c1⟩ := pc
      dsimp only at c0 c1
      generalize plc p (M : Int) (sa, sb) tag = z at *
      obtain ⟨zn, hz⟩ : ∃ zn : Nat, z = (zn : Int) := ⟨z.toNat, by omega⟩
      subst hz
      rw [Int.toNat_natCast] at hbk
      rw [hbk] at HST
      have z64 : zn < 64 := by omega
      have KS2 := hide (fun (W : World) (h : W.heap[g]? = some (wrdO us rest)) => unhide KS W zn h z64)
      have HST2 := hide (unhide HST z64)
      clear KS HST hpl hbk z64
      generalize us.getD k 0 ||| 2 ^ zn = nu at *
      have BA : Below wr.heap.size wr (wr.alloc (.cells #[.int .i64 sa, .int .i64 sb] 67)) := bl_al (Below.refl _ _)
      have B5 := hide (bl_st BA (unhide HBL))
      have PS := hide (sc_new wr sa sb 67)
      have G5 := hide ((BA.block g (Array.getElem?_eq_some_iff.1 (unhide HGG)).1).trans (unhide HGG))
      have LG5 := hide (Array.getElem?_eq_some_iff.1 (unhide HGG)).1
      have LS : Hid (wr.heap.size < (wr.alloc (.cells #[.int .i64 sa, .int .i64 sb] 67)).heap.size) := hide (by simp)
      have C5 := hide ((unhide C1).below (unhide B5))
      clear BA
      go_wp2
      generalize wr.alloc (.cells #[.int .i64 sa, .int .i64 sb] 67) = w5 at *
      clear c0 c1
      refine wp_region_held (S := fun W' => SC wr.heap.size 0 (sa, sb) W') (by kernel_rfl) ?_
      have hS0 : SC wr.heap.size 0 (sa, sb) { w5 with drawn := w5.drawn + 1 } := (unhide PS).below (unhide LS) (below_drewN (Below.refl _ _) 1)
      refine wpAnyH_take (i := 0) (oi := { dst := some 26, op := Op.move (Operand.tmp 7), type := 70, pos := "l10_bloom.go:119", after := #[], guard := none }) (v := ?_) rfl (by kernel_rfl) (by kernel_rfl) (by kernel_rfl) (fun _ _ _ h => h) (Or.inl ⟨by rfl, ?_⟩) hS0 ?_
      rotate_left
      · intro W hSw
        obtain ⟨d0, d1⟩ := hSw
        dsimp only [Nat.zero_add] at d0 d1
        go_simp
        try with_reducible rfl
      simp only [Act.put, List.setIfInBounds_toArray, List.set_cons_zero, List.set_cons_succ]
      refine wpAnyH_take (i := 1) (oi := { dst := some 27, op := Op.move (Operand.tmp 8), type := 3, pos := "l10_bloom.go:119", after := #[], guard := none }) (v := ?_) rfl (by kernel_rfl) (by kernel_rfl) (by kernel_rfl) (fun _ _ _ h => h) (Or.inl ⟨by rfl, ?_⟩) hS0 ?_
      rotate_left
      · intro W hSw
        obtain ⟨d0, d1⟩ := hSw
        dsimp only [Nat.zero_add] at d0 d1
        go_simp
        try with_reducible rfl
      simp only [Act.put, List.setIfInBounds_toArray, List.set_cons_zero, List.set_cons_succ]
      refine wpAnyH_take (i := 2) (oi := { dst := some 28, op := Op.indexAddr 70 (Operand.tmp 26) (Operand.tmp 27), type := 0, pos := "l10_bloom.go:119", after := #[{ on := 0, ground := Ground.data }, { on := 1, ground := Ground.data }], guard := none }) (v := ?_) rfl (by kernel_rfl) (by kernel_rfl) (by kernel_rfl) (fun _ _ _ h => h) (Or.inl ⟨by rfl, ?_⟩) hS0 ?_
      rotate_left
      · intro W hSw
        obtain ⟨d0, d1⟩ := hSw
        dsimp only [Nat.zero_add] at d0 d1
        go_simp
        try with_reducible rfl
      simp only [Act.put, List.setIfInBounds_toArray, List.set_cons_zero, List.set_cons_succ]
      refine wpAnyH_take (i := 3) (oi := { dst := some 29, op := Op.load 67 (Operand.tmp 9), type := 67, pos := "l10_bloom.go:119", after := #[], guard := none }) (v := ?_) rfl (by kernel_rfl) (by kernel_rfl) (by kernel_rfl) (fun _ _ _ h => h) (Or.inl ⟨by rfl, ?_⟩) hS0 ?_
      rotate_left
      · intro W hSw
        obtain ⟨d0, d1⟩ := hSw
        dsimp only [Nat.zero_add] at d0 d1
        go_simp
        try with_reducible rfl
      simp only [Act.put, List.setIfInBounds_toArray, List.set_cons_zero, List.set_cons_succ]
      refine wpAnyH_take (i := 4) (oi := { dst := some 30, op := Op.move (Operand.tmp 1), type := 3, pos := "l10_bloom.go:119", after := #[], guard := none }) (v := ?_) rfl (by kernel_rfl) (by kernel_rfl) (by kernel_rfl) (fun _ _ _ h => h) (Or.inl ⟨by rfl, ?_⟩) hS0 ?_
      rotate_left
      · intro W hSw
        obtain ⟨d0, d1⟩ := hSw
        dsimp only [Nat.zero_add] at d0 d1
        go_simp
        try with_reducible rfl
      simp only [Act.put, List.setIfInBounds_toArray, List.set_cons_zero, List.set_cons_succ]
      refine wpAnyH_one (i := 5) (by kernel_rfl) ?_
      refine wpOp_step (o := { dst := some 31, op := Op.call { callee := Callee.value (Operand.func 52), args := #[Operand.tmp 2, Operand.tmp 29, Operand.tmp 30], argTypes := #[26, 67, 3] }, type := 3, pos := "l10_bloom.go:119", after := #[{ on := 3, ground := Ground.data }, { on := 4, ground := Ground.data }], guard := none }) rfl fun K' hK => step_enterW (by rfl) 52 #[ptr w.heap.size, saltV (sa, sb), .int .i64 tag] (by go_simp) ((unhide KB2 _ ((unhide C5).below (below_drewN (Below.refl _ _) 1))).mono ?_)
      rintro e w6 ⟨rfl, b6⟩
      have b65 : Below w5.heap.size w5 w6 := bl_st b6 (below_drewN (Below.refl _ _) 1)
      have s6 := (unhide PS).below (unhide LS) b65
      clear b6
      refine ⟨_, rfl, hK _ _ ⟨s6, ?_⟩⟩
      simp only [Act.put, List.setIfInBounds_toArray, List.set_cons_zero, List.set_cons_succ]
      have G6 := hide ((b65.block g (Array.getElem?_eq_some_iff.1 (unhide G5)).1).trans (unhide G5))
      have B6 := hide (bl_st b65 (unhide B5))
      clear b65
      refine wpAnyH_one (i := 6) (by kernel_rfl) ?_
      refine wpOp_step (o := { dst := some 32, op := Op.call { callee := Callee.value (Operand.func 51), args := #[Operand.tmp 28, Operand.tmp 31], argTypes := #[73, 3] }, type := 0, pos := "l10_bloom.go:119", after := #[{ on := 2, ground := Ground.data }, { on := 5, ground := Ground.data }, { on := 5, ground := Ground.chain }], guard := none }) rfl fun K' hK => step_enterW (by rfl) 51 #[.pointer (some ⟨g, k, none⟩), .int .i64 (zn : Int)] (by go_simp) ((unhide KS2 w6 (unhide G6)).mono ?_)
      rintro e w7 ⟨rfl, hw7⟩
      have s7 : SC wr.heap.size 0 (sa, sb) w7 := by
        rw [hw7]
        exact ⟨(s6.set (g := g) (i := k) (v := .int .u64 (nu : Int)) (by have := unhide LG5; omega)).c0, (s6.set (g := g) (i := k) (v := .int .u64 (nu : Int)) (by have := unhide LG5; omega)).c1⟩
      have O7 : Hid (w7.heap[g]? = some (wrdO (us.set k nu) rest)) := hide (by rw [hw7]; exact unhide HSW w6 nu (unhide G6))
      have B7 : Hid (Below w1.heap.size w1 w7) := hide (by rw [hw7]; exact below_drewN (bl_set (unhide B6) (unhide HG1)) 1)
      clear hw7
      refine ⟨_, rfl, hK _ _ ⟨s7, ?_⟩⟩
      simp only [Act.put, List.setIfInBounds_toArray, List.set_cons_zero, List.set_cons_succ]
      refine wpAnyH_done (by kernel_rfl) ?_ _
      clear s6 s7 hS0
      go_wp2
      go_roundw
      case rel => exact ⟨k + 1, us.set k nu, unhide HJ, by go_num, unhide HST2, unhide O7, unhide B7⟩
      case measure => have := unhide HJ; simp [intOf]; omega
    · obtain rfl : k = ss.length := by omega
      have CW := (unhide C1).below hbl
      have K5 := hide (unhide K4 g us rest cp wr CW ((unhide S1).below hbl) hg hh)
      have BW := hide (bl_st hbl (unhide B1))
      have n2 := hide ((hbl.block _ (Array.getElem?_eq_some_iff.1 (unhide NN)).1).trans (unhide NN))
      have LW := hide hbl.size
      clear hlt hh hg hbl CW K4
      go_wp2_with fail
      refine (unhide K5).mono ?_
      rintro e w6 ⟨r, rfl, ox, b6⟩
      obtain ⟨D1, m1, k1, D2, m2, k2, hre⟩ := ox.slices
      dsimp only at hre
      subst hre
      have B6 := hide (bl_st b6 (unhide BW))
      have OX := hide ox
      have n3 := (b6.block _ (Array.getElem?_eq_some_iff.1 (unhide n2)).1).trans (unhide n2)
      have p0 : w6.cell? ⟨w.heap.size + 1, 0, none⟩ = some (.int .i64 0) := row_cell n3
      have y0 : w6.frozen? ⟨w.heap.size + 1, 0, none⟩ = false := row_free n3
      have p1 : w6.cell? ⟨w.heap.size + 1, 1, none⟩ = some (.int .i64 0) := row_cell n3
      have y1 : w6.frozen? ⟨w.heap.size + 1, 1, none⟩ = false := row_free n3
      have p2 : w6.cell? ⟨w.heap.size + 1, 2, none⟩ = some (.slice none 0 0) := row_cell n3
      have y2 : w6.frozen? ⟨w.heap.size + 1, 2, none⟩ = false := row_free n3
      have p3 : w6.cell? ⟨w.heap.size + 1, 3, none⟩ = some (.slice none 0 0) := row_cell n3
      have y3 : w6.frozen? ⟨w.heap.size + 1, 3, none⟩ = false := row_free n3
      have N3 := hide n3
      have L6 := hide b6.size
      clear b6 ox n3 K5
      go_wp2
      have l1 := unhide L1
      have lw := unhide LW
      refine bodyPost_ret (results_tmp_row rfl _ _ (w.heap.size + 1) 26 _ (0, 0) _ _ rfl rfl (row_put4 (unhide N3) p (M : Int) (.slice D1 m1 k1) (.slice D2 m2 k2)) Try.underlying26 rfl (by kernel_rfl)) rfl ⟨_, rfl, ?_, bl_put4 (unhide B6) (by omega)⟩
      rw [unhide HAX]
      refine ((unhide OX).lone (lone_put4 w6 (w.heap.size + 1) p (M : Int) _ _) (by omega)).wide (by omega) ?_
      rw [size_put4]
      exact Nat.le_refl _
end Go.Proofs.Ythckgccfjpgbaaa
