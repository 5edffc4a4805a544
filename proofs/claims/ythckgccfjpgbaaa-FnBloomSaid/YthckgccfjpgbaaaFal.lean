/- Salts that are counted: what they are; the program's side. -/
import Derived.Test.YthckgccfjpgbaaaPlb
import Derived.Test.YthckgccfjpgbaaaWpt
namespace Go.Proofs.Ythckgccfjpgbaaa
open Go.RowKit
set_option maxHeartbeats 4000000
set_option maxRecDepth 20000
/-- how many numbers below n are so -/
def cnt (f : Nat → Bool) : Nat → Nat
  | 0 => 0
  | n + 1 => cnt f n + (if f n then 1 else 0)
/-- how many pairs of a number below a and one below P are so -/
def tot (f : Nat → Nat → Bool) (P : Nat) : Nat → Nat
  | 0 => 0
  | a + 1 => tot f P a + cnt (f a) P
theorem cnt_le (f : Nat → Bool) : ∀ n, cnt f n ≤ n
  | 0 => Nat.le_refl _
  | n + 1 => by have := cnt_le f n; unfold cnt; split <;> omega
theorem tot_le (f : Nat → Nat → Bool) (P : Nat) : ∀ a, tot f P a ≤ a * P
  | 0 => by simp [tot]
  | a + 1 => by
    have h1 := tot_le f P a
    have h2 := cnt_le (f a) P
    have h3 : (a + 1) * P = a * P + P := by rw [Nat.add_mul]; omega
    unfold tot
    omega
/-- the other tag's bit is that of one of the tags -/
def hitB (p wd : Int) (ts : List Int) (o : Int) (a b : Nat) : Bool := (List.range ts.length).any fun i => decide (plc p wd ((a : Int), (b : Int)) (ts.getD i 0) = plc p wd ((a : Int), (b : Int)) o)
def fsN (p wd : Int) (ts : List Int) (o : Int) : Nat := tot (hitB p wd ts o) p.toNat p.toNat
def tC (p o : Int) : List Int → Int
  | [] => 0
  | t :: ts => if inP p t then (if t = o then 9 else tC p o ts) else 4
def fsC (p wd : Int) (ts : List Int) (o : Int) : Int := if 4096 < ts.length then 2 else if shapeB p wd && decide (p ≤ 61) && decide (ts.length ≤ 8) && inP p o then tC p o ts else 4
def fsR (p wd : Int) (ts : List Int) (o : Int) : Int × Int := if fsC p wd ts o = 0 then ((fsN p wd ts o : Int), 0) else (0, fsC p wd ts o)
theorem tC_in {p o : Int} : ∀ {ts : List Int}, tC p o ts = 0 → ∀ i, i < ts.length → inP p (ts.getD i 0) = true ∧ ts.getD i 0 ≠ o
  | [], _, i, hi => by simp at hi
  | t :: ts, h, i, hi => by
    unfold tC at h
    split at h
    · rename_i h1
      split at h
      · omega
      · rename_i h2
        cases i with
        | zero => exact ⟨h1, h2⟩
        | succ i => exact tC_in h i (by simpa using hi)
    · omega
structure Cnt (p wd : Int) (ts : List Int) (o : Int) : Prop where
  p2 : 2 ≤ p
  p61 : p ≤ 61
  w1 : 1 ≤ wd
  wp : wd ≤ p
  n8 : ts.length ≤ 8
  o : inP p o = true
  t : ∀ i, i < ts.length → inP p (ts.getD i 0) = true
theorem cnt_of {p wd : Int} {ts : List Int} {o : Int} (h : fsC p wd ts o = 0) : Cnt p wd ts o := by
  unfold fsC at h
  split at h
  · omega
  · split at h
    · rename_i h1
      simp only [Bool.and_eq_true, decide_eq_true_eq] at h1
      have h2 := shapeB_in h1.1.1.1
      exact ⟨h2.1, h1.1.1.2, h2.2.2.1, h2.2.2.2.1, h1.1.2, h1.2, fun i hi => (tC_in h i hi).1⟩
    · omega
theorem row_one {n : Nat} {W : World} {g : Nat} (h : W.heap[g]? = some (.cells #[.int .u64 (n : Int)] 73 (0, 0))) : W.cell? ⟨g, 0, none⟩ = some (.int .u64 (n : Int)) := row_cell h
theorem intsV.at {w : World} {A : Option Addr} {n c : Nat} {xs : List Int} (h : intsV w (.slice A n c) xs) {i : Nat} (hi : i < xs.length) : ∃ b off, A = some ⟨b, off, none⟩ ∧ b < w.heap.size ∧ w.cell? ⟨b, off + i, none⟩ = some (.int .i64 (xs.getD i 0)) := by
  obtain ⟨A', c', e, hc⟩ := h
  simp only [Value.slice.injEq] at e
  obtain ⟨rfl, _, _⟩ := e
  obtain ⟨b, off, e, hl, hcell⟩ := hc (by omega)
  exact ⟨b, off, e, hl, hcell i hi⟩
/-- the word that holds the bits of the first k tags -/
def bitsTo (pl : Nat → Nat) (k j : Nat) : Bool := (List.range k).any fun i => decide (pl i = j)
theorem bitsTo_step (pl : Nat → Nat) (k j : Nat) : bitsTo pl (k + 1) j = (bitsTo pl k j || decide (pl k = j)) := by
  unfold bitsTo
  rw [List.range_succ, List.any_append]
  simp
theorem hit_bits {p wd : Int} {ts : List Int} {o : Int} {a b : Nat} (hw : 1 ≤ wd) : bitsTo (fun i => (plc p wd ((a : Int), (b : Int)) (ts.getD i 0)).toNat) ts.length (plc p wd ((a : Int), (b : Int)) o).toNat = hitB p wd ts o a b := by
  unfold bitsTo hitB
  congr 1
  funext i
  rw [decide_eq_decide]
  dsimp only
  have h1 := (plc_in (p := p) ((a : Int), (b : Int)) (ts.getD i 0) hw).1
  have h2 := (plc_in (p := p) ((a : Int), (b : Int)) o hw).1
  generalize plc p wd ((a : Int), (b : Int)) (ts.getD i 0) = x1 at *
  generalize plc p wd ((a : Int), (b : Int)) o = x2 at *
  show x1.toNat = x2.toNat ↔ x1 = x2
  constructor
  · intro h; omega
  · intro h; rw [h]
theorem SC.setN {b o : Nat} {s : Slt} {W : World} {g i : Nat} {v : Value} (h : SC b o s W) (hne : g ≠ b) : SC b o s (W.setCell ⟨g, i, none⟩ v) := by
  have hc : ∀ k, (W.setCell ⟨g, i, none⟩ v).cell? ⟨b, k, none⟩ = W.cell? ⟨b, k, none⟩ := fun k => by
    unfold World.cell?
    rw [show (⟨b, k, none⟩ : Addr).block = b from rfl]
    simp only [World.setCell]
    rw [Array.getElem?_modify, if_neg (by omega)]
  exact ⟨(hc _).trans h.c0, (hc _).trans h.c1⟩
theorem stands61 (q : Nat) (p wd : Int) (va vb : Value) (a b : Nat) (v : Value) (ts : List Int) (o : Int) (w : World) (hq : BC q p wd va vb w) (hv : intsV w v ts) (hc : Cnt p wd ts o) (ha : (a : Int) < p) (hb : (b : Int) < p) :
    Calls Try.prog 61 #[ptr q, saltV ((a : Int), (b : Int)), v, .int .i64 o] w fun e w' => e = .returned (.bool (hitB p wd ts o a b)) ∧ Below w.heap.size w w' := by
  have hs : saltOK p ((a : Int), (b : Int)) = true := by
    unfold saltOK inP
    simp only [Bool.and_eq_true, decide_eq_true_eq]
    omega
  have hv1 := hv
  obtain ⟨A, ca, hve, _⟩ := hv1
  subst hve
  have B0 : Below w.heap.size w (w.alloc (.cells #[.int .i64 (a : Int), .int .i64 (b : Int)] 67)) := bl_al (Below.refl _ _)
  have BA : Below (w.alloc (.cells #[.int .i64 (a : Int), .int .i64 (b : Int)] 67)).heap.size (w.alloc (.cells #[.int .i64 (a : Int), .int .i64 (b : Int)] 67)) ((w.alloc (.cells #[.int .i64 (a : Int), .int .i64 (b : Int)] 67)).alloc (.cells #[.int .u64 0] 73)) := bl_al (Below.refl _ _)
  have B1 := bl_st BA B0
  have N1 := hide (heap_alloc_new (w.alloc (.cells #[.int .i64 (a : Int), .int .i64 (b : Int)] 67)) (.cells #[.int .u64 0] 73))
  rw [show (w.alloc (.cells #[.int .i64 (a : Int), .int .i64 (b : Int)] 67)).heap.size = w.heap.size + 1 by simp] at N1
  have PS := hide ((sc_new w (a : Int) (b : Int) 67).below (by simp) BA)
  have LS : Hid (w.heap.size + 1 < ((w.alloc (.cells #[.int .i64 (a : Int), .int .i64 (b : Int)] 67)).alloc (.cells #[.int .u64 0] 73)).heap.size) := hide (by simp)
  have HQ := hide hq
  have HV := hide hv
  have HB := hide B1
  have K1 := hide (fun W (h : BC q p wd va vb W) t (ht : inP p t = true) => bit52 q p wd va vb (a : Int) (b : Int) t W h hc.p2 (by have := hc.p61; omega) hc.w1 hs ht)
  have HO := hide hc.o
  have HT := hide hc.t
  have HPL := hide (fun t => plc_in (p := p) ((a : Int), (b : Int)) t hc.w1)
  have w64 : wd ≤ 61 := by have := hc.wp; have := hc.p61; omega
  have HHIT := hide (hit_bits (p := p) (ts := ts) (o := o) (a := a) (b := b) hc.w1)
  have n8 : (ts.length : Int) ≤ 8 := by have := hc.n8; omega
  have n0 : (0 : Int) ≤ (ts.length : Int) := by omega
  clear hq hv hc ha hb hs B0 BA B1
  generalize hitB p wd ts o a b = hh at *
  go_enter Try.func61, Try.ntmps61
  go_wp2
  generalize (w.alloc (.cells #[.int .i64 (a : Int), .int .i64 (b : Int)] 67)).alloc (.cells #[.int .u64 0] 73) = w1 at *
  go_loopw [14] (fun i wr => ∃ (k n : Nat), k ≤ ts.length ∧ i = .int .i64 k ∧ n < 18446744073709551616 ∧ (∀ j, n.testBit j = bitsTo (fun i => (plc p wd ((a : Int), (b : Int)) (ts.getD i 0)).toNat) k j) ∧ wr.heap[w.heap.size + 1]? = some (.cells #[.int .u64 (n : Int)] 73 (0, 0)) ∧ SC w.heap.size 0 ((a : Int), (b : Int)) wr ∧ Below w.heap.size w wr) (fun i _ => ts.length - (intOf i).toNat)
  case atStart => exact ⟨0, 0, by omega, rfl, by omega, fun j => by simp [bitsTo], unhide N1, unhide PS, unhide HB⟩
  case round =>
    obtain ⟨k, n, hk, rfl, hn, hbit, hg, hps, hbl⟩ := hrel
    have CW := hide ((unhide HQ).below hbl)
    have HBL := hide hbl
    have hsz := hbl.size
    by_cases hlt : k < ts.length
    · obtain ⟨b5, off, hA, hl5, hcell⟩ := ((unhide HV).below hbl).at hlt
      subst hA
      have q1 : (k : Int) < (ts.length : Int) := by omega
      have q0 : (0 : Int) ≤ (k : Int) := by omega
      have HJ := hide hlt
      have KB := hide (unhide K1 wr (unhide CW) (ts.getD k 0) (unhide HT k hlt))
      have hpl := unhide HPL (ts.getD k 0)
      have HST : Hid (∀ z : Nat, (plc p wd ((a : Int), (b : Int)) (ts.getD k 0)).toNat = z → z < 64 → ∀ j, (n ||| 2 ^ z).testBit j = bitsTo (fun i => (plc p wd ((a : Int), (b : Int)) (ts.getD i 0)).toNat) (k + 1) j) := hide fun z hz _ j => by
        rw [Nat.testBit_or, Nat.testBit_two_pow, hbit j, bitsTo_step, hz]
      have KS := hide (fun (W : World) z (hz : z < 64) (h : W.heap[w.heap.size + 1]? = some (.cells #[.int .u64 (n : Int)] 73 (0, 0))) => set51 (w.heap.size + 1) 0 n z W hz hn (row_one h) (row_free h))
      have HNL := hide (fun z (hz : z < 64) => or_lt hn (pow_lt hz))
      have HG := hide hg
      have HPS := hide hps
      have LP := hide (show w.heap.size < wr.heap.size by have := (Array.getElem?_eq_some_iff.1 hg).1; omega)
      obtain ⟨s0, s1⟩ := hps
      dsimp only [Nat.zero_add] at s0 s1
      clear hlt hk hn hbit hg hbl hl5
      generalize ts.getD k 0 = tk at *
      generalize plc p wd ((a : Int), (b : Int)) tk = z at *
      obtain ⟨zn, hz⟩ : ∃ zn : Nat, z = (zn : Int) := ⟨z.toNat, by omega⟩
      subst hz
      have z64 : zn < 64 := by omega
      have HST2 := hide (unhide HST zn (Int.toNat_natCast _) z64)
      have HNL2 := hide (unhide HNL zn z64)
      have KS2 := hide (fun W h => unhide KS W zn z64 h)
      clear HST HNL KS hpl
      generalize n ||| 2 ^ zn = nu at *
      go_wp2_with fail
      refine (unhide KB).mono ?_
      rintro e w6 ⟨rfl, b6⟩
      have G6 := hide ((b6.block _ (Array.getElem?_eq_some_iff.1 (unhide HG)).1).trans (unhide HG))
      have B6 := hide (bl_st b6 (unhide HBL))
      have P6 := hide ((unhide HPS).below (unhide LP) b6)
      clear b6 KB s0 s1 hcell
      go_wp2_with fail
      refine (unhide KS2 w6 (unhide G6)).mono ?_
      rintro e w7 ⟨rfl, hw7⟩
      have O7 : Hid (w7.heap[w.heap.size + 1]? = some (.cells #[.int .u64 (nu : Int)] 73 (0, 0))) := hide (by rw [hw7]; exact row_set (i := 0) (v := .int .u64 (nu : Int)) (unhide G6))
      have B7 : Hid (Below w.heap.size w w7) := hide (by rw [hw7]; exact below_drewN (bl_set (unhide B6) (by omega)) 1)
      have P7 : Hid (SC w.heap.size 0 ((a : Int), (b : Int)) w7) := hide (by
        rw [hw7]
        have h := (unhide P6).setN (g := w.heap.size + 1) (i := 0) (v := .int .u64 (nu : Int)) (by omega)
        exact ⟨h.c0, h.c1⟩)
      clear hw7 G6 B6 P6 KS2
      go_wp2
      go_roundw
      case rel => exact ⟨k + 1, nu, unhide HJ, by go_num, unhide HNL2, unhide HST2, unhide O7, unhide P7, unhide B7⟩
      case measure => have := unhide HJ; simp [intOf]; omega
    · obtain rfl : k = ts.length := by omega
      have KB := hide (unhide K1 wr (unhide CW) o (unhide HO))
      have hpl := unhide HPL o
      have hbo := hbit (plc p wd ((a : Int), (b : Int)) o).toNat
      rw [unhide HHIT] at hbo
      have KH := hide (fun (W : World) z (hz : z < 64) (h : W.heap[w.heap.size + 1]? = some (.cells #[.int .u64 (n : Int)] 73 (0, 0))) => has58 (w.heap.size + 1) 0 n z W hz hn (row_one h))
      have HG := hide hg
      obtain ⟨s0, s1⟩ := hps
      dsimp only [Nat.zero_add] at s0 s1
      clear hlt hn hbit hg hbl HHIT
      generalize plc p wd ((a : Int), (b : Int)) o = z at *
      obtain ⟨zn, hz⟩ : ∃ zn : Nat, z = (zn : Int) := ⟨z.toNat, by omega⟩
      subst hz
      rw [Int.toNat_natCast] at hbo
      have KH2 := hide (fun W h => unhide KH W zn (by omega) h)
      rw [hbo] at KH2
      clear KH hpl hbo
      go_wp2_with fail
      refine (unhide KB).mono ?_
      rintro e w6 ⟨rfl, b6⟩
      have G6 := hide ((b6.block _ (Array.getElem?_eq_some_iff.1 (unhide HG)).1).trans (unhide HG))
      have B6 := hide (bl_st b6 (unhide HBL))
      clear b6 KB s0 s1
      go_wp2_with fail
      refine (unhide KH2 w6 (unhide G6)).mono ?_
      rintro e w7 ⟨rfl, rfl⟩
      go_wp2
      go_ret
      exact ⟨rfl, unhide B6⟩
theorem tC_drop {p o : Int} {ts : List Int} {j : Nat} (h : j < ts.length) : tC p o (ts.drop j) = if inP p (ts.getD j 0) then (if ts.getD j 0 = o then 9 else tC p o (ts.drop (j + 1))) else 4 := by
  rw [drop_cons (d := 0) h]; rfl
theorem code60 (q : Nat) (p wd : Int) (va vb : Value) (v : Value) (ts : List Int) (o : Int) (w : World) (hq : BC q p wd va vb w) (hv : intsV w v ts) (hn : ts.length ≤ 2097152) :
    Calls Try.prog 60 #[ptr q, v, .int .i64 o] w fun e w' => e = .returned (.int .i64 (fsC p wd ts o)) ∧ Below w.heap.size w w' := by
  have K1 := hide (long80 v ts w hv hn)
  have K2 := hide (sizes46 q p wd va vb w hq)
  have K3 := hide (fun W (h : BC q p wd va vb W) n => below79 q p wd n va vb W h)
  have HQ := hide hq
  have HV := hide hv
  obtain ⟨A, ca, rfl, _⟩ := hv
  have n0 : (0 : Int) ≤ (ts.length : Int) := by omega
  have n1 : (ts.length : Int) ≤ 2097152 := by omega
  by_cases h4 : 4096 < ts.length
  · have HE : Hid (fsC p wd ts o = 2) := hide (by unfold fsC; rw [if_pos h4])
    rw [decide_eq_true (show (4096 : Int) < (ts.length : Int) by omega)] at K1
    clear h4 hq hn
    go_enter Try.func60, Try.ntmps60
    go_wp2_with fail
    refine (unhide K1).mono ?_
    rintro e w1 ⟨rfl, rfl⟩
    go_wp2
    go_ret
    exact ⟨by rw [unhide HE]; rfl, Below.refl _ _⟩
  have q4 : (ts.length : Int) ≤ 4096 := by omega
  rw [decide_eq_false (show ¬ (4096 : Int) < (ts.length : Int) by omega)] at K1
  by_cases hok : (shapeB p wd && decide (p ≤ 61) && decide (ts.length ≤ 8) && inP p o) = true
  · have HE : Hid (fsC p wd ts o = tC p o ts) := hide (by unfold fsC; rw [if_neg h4, if_pos hok])
    simp only [Bool.and_eq_true, decide_eq_true_eq] at hok
    obtain ⟨⟨⟨h1, h2⟩, h3⟩, h5⟩ := hok
    rw [h1] at K2
    have q8 : (ts.length : Int) ≤ 8 := by omega
    have K5 := hide (fun W h => unhide K3 W h o)
    rw [h5] at K5
    obtain ⟨_, c0, c1, c2, c3⟩ := hq
    have d0 : ∀ k, (w.drewN k).cell? ⟨q, 0, none⟩ = some (.int .i64 p) := fun _ => c0
    clear h4 hn h1 h3 h5 c0 c1 c2 c3
    go_enter Try.func60, Try.ntmps60
    go_wp2_with fail
    refine (unhide K1).mono ?_
    rintro e w1 ⟨rfl, hw⟩
    have hw' := hw.symm
    subst hw'
    clear hw
    go_wp2_with fail
    refine (unhide K2).mono ?_
    rintro e w2 ⟨rfl, k, rfl⟩
    have e0 := d0 k
    go_wp2_with fail
    refine (unhide K5 (w.drewN k) ((unhide HQ).below (below_drewN (Below.refl _ _) k))).mono ?_
    rintro e w3 ⟨rfl, hw⟩
    have hw' := hw.symm
    subst hw'
    clear hw e0 d0
    go_wp2
    go_loopw [34] (fun i wr => ∃ j : Nat, j ≤ ts.length ∧ i = .int .i64 j ∧ tC p o (ts.drop j) = tC p o ts ∧ wr = w.drewN k) (fun i _ => ts.length - (intOf i).toNat)
    case atStart => exact ⟨0, by omega, rfl, rfl, rfl⟩
    case round =>
      obtain ⟨j, hj, rfl, hu, rfl⟩ := hrel
      by_cases hlt : j < ts.length
      · obtain ⟨b5, off, hA, _, hcell⟩ := (unhide HV).at hlt
        subst hA
        have p0 : (w.drewN k).cell? ⟨b5, off + j, none⟩ = some (.int .i64 (ts.getD j 0)) := hcell
        have q1 : (j : Int) < (ts.length : Int) := by omega
        have q0 : (0 : Int) ≤ (j : Int) := by omega
        have HJ := hide hlt
        rw [tC_drop hlt] at hu
        have K6 := hide (unhide K3 (w.drewN k) ((unhide HQ).below (below_drewN (Below.refl _ _) k)) (ts.getD j 0))
        clear hcell hlt hj
        generalize ts.getD j 0 = t at *
        generalize inP p t = bt' at *
        cases bt'
        · have HF : Hid (tC p o ts = 4) := hide (by rw [← hu]; rfl)
          clear hu
          go_wp2_with fail
          refine (unhide K6).mono ?_
          rintro e w3 ⟨rfl, hw⟩
          have hw' := hw.symm
          subst hw'
          clear hw
          go_wp2
          go_ret
          exact ⟨by rw [unhide HE, unhide HF]; rfl, below_drewN (Below.refl _ _) k⟩
        · by_cases hto : t = o
          · have HF : Hid (tC p o ts = 9) := hide (by rw [← hu, if_pos rfl, if_pos hto])
            subst hto
            clear hu
            go_wp2_with fail
            refine (unhide K6).mono ?_
            rintro e w3 ⟨rfl, hw⟩
            have hw' := hw.symm
            subst hw'
            clear hw
            go_wp2
            go_ret
            exact ⟨by rw [unhide HE, unhide HF]; rfl, below_drewN (Below.refl _ _) k⟩
          · have HF : Hid (tC p o (ts.drop (j + 1)) = tC p o ts) := hide (by rw [← hu, if_pos rfl, if_neg hto])
            have hto2 : (t == o) = false := by simpa using hto
            clear hu hto
            go_wp2_with fail
            refine (unhide K6).mono ?_
            rintro e w3 ⟨rfl, hw⟩
            have hw' := hw.symm
            subst hw'
            clear hw
            go_wp2
            go_roundw
            case rel => exact ⟨j + 1, unhide HJ, by go_num, unhide HF, by first | rfl | trivial⟩
            case measure => have := unhide HJ; simp [intOf]; omega
      · obtain rfl : j = ts.length := by omega
        have HF : Hid (tC p o ts = 0) := hide (by rw [← hu, List.drop_length]; rfl)
        clear hlt hu
        go_wp2
        go_ret
        exact ⟨by rw [unhide HE, unhide HF]; rfl, below_drewN (Below.refl _ _) k⟩
  · have HE : Hid (fsC p wd ts o = 4) := hide (by unfold fsC; rw [if_neg h4, if_neg hok])
    have K5 := hide (fun W h => unhide K3 W h o)
    obtain ⟨_, c0, c1, c2, c3⟩ := hq
    have d0 : ∀ k, (w.drewN k).cell? ⟨q, 0, none⟩ = some (.int .i64 p) := fun _ => c0
    clear h4 hn c0 c1 c2 c3
    generalize shapeB p wd = b1 at *
    generalize inP p o = b4 at *
    cases b1
    · go_enter Try.func60, Try.ntmps60
      go_wp2_with fail
      refine (unhide K1).mono ?_
      rintro e w1 ⟨rfl, hw⟩
      have hw' := hw.symm
      subst hw'
      clear hw
      go_wp2_with fail
      refine (unhide K2).mono ?_
      rintro e w2 ⟨rfl, k, rfl⟩
      go_wp2
      go_ret
      exact ⟨by rw [unhide HE]; rfl, below_drewN (Below.refl _ _) k⟩
    by_cases hp : p ≤ 61
    rotate_left
    · have hp' : 61 < p := by omega
      clear hp hok
      go_enter Try.func60, Try.ntmps60
      go_wp2_with fail
      refine (unhide K1).mono ?_
      rintro e w1 ⟨rfl, hw⟩
      have hw' := hw.symm
      subst hw'
      clear hw
      go_wp2_with fail
      refine (unhide K2).mono ?_
      rintro e w2 ⟨rfl, k, rfl⟩
      have e0 := d0 k
      go_wp2
      go_ret
      exact ⟨by rw [unhide HE]; rfl, below_drewN (Below.refl _ _) k⟩
    by_cases hl : ts.length ≤ 8
    rotate_left
    · have hl' : (8 : Int) < (ts.length : Int) := by omega
      clear hl hok
      go_enter Try.func60, Try.ntmps60
      go_wp2_with fail
      refine (unhide K1).mono ?_
      rintro e w1 ⟨rfl, hw⟩
      have hw' := hw.symm
      subst hw'
      clear hw
      go_wp2_with fail
      refine (unhide K2).mono ?_
      rintro e w2 ⟨rfl, k, rfl⟩
      have e0 := d0 k
      go_wp2
      go_ret
      exact ⟨by rw [unhide HE]; rfl, below_drewN (Below.refl _ _) k⟩
    have hl' : (ts.length : Int) ≤ 8 := by omega
    cases b4
    · clear hok hl
      go_enter Try.func60, Try.ntmps60
      go_wp2_with fail
      refine (unhide K1).mono ?_
      rintro e w1 ⟨rfl, hw⟩
      have hw' := hw.symm
      subst hw'
      clear hw
      go_wp2_with fail
      refine (unhide K2).mono ?_
      rintro e w2 ⟨rfl, k, rfl⟩
      have e0 := d0 k
      go_wp2_with fail
      refine (unhide K5 (w.drewN k) ((unhide HQ).below (below_drewN (Below.refl _ _) k))).mono ?_
      rintro e w3 ⟨rfl, hw⟩
      have hw' := hw.symm
      subst hw'
      clear hw e0
      go_wp2
      go_ret
      exact ⟨by rw [unhide HE]; rfl, below_drewN (Below.refl _ _) k⟩
    · exact absurd (by simp [hp, hl]) hok
end Go.Proofs.Ythckgccfjpgbaaa
