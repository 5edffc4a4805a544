/- The words of a filter's parts: how its bits come into them. -/
import Derived.Test.YthckgccfjpgbaaaPla
namespace Go.Proofs.Ythckgccfjpgbaaa
open Go.RowKit
set_option maxHeartbeats 4000000
set_option maxRecDepth 20000
/-- words in a block of their own -/
def wrdO (us : List Nat) (rest : List Value) : Obj := rowObj 73 .u64 (us.map fun n : Nat => (n : Int)) rest
theorem getD_ints (us : List Nat) (i : Nat) : (us.map fun n : Nat => (n : Int)).getD i 0 = ((us.getD i 0 : Nat) : Int) := by
  rw [List.getD_eq_getElem?_getD, List.getElem?_map, List.getD_eq_getElem?_getD]
  cases us[i]? <;> rfl
theorem cell_wrdO {w : World} {g : Nat} {us : List Nat} {rest : List Value} (h : w.heap[g]? = some (wrdO us rest)) (i : Nat) (hi : i < us.length) : w.cell? ⟨g, i, none⟩ = some (.int .u64 ((us.getD i 0 : Nat) : Int)) := by
  rw [← getD_ints]; exact cell_rowO h i (by simpa using hi)
theorem free_wrdO {w : World} {g : Nat} {us : List Nat} {rest : List Value} (h : w.heap[g]? = some (wrdO us rest)) (i : Nat) : w.frozen? ⟨g, i, none⟩ = false := free_rowO h i
theorem set_wrdO {w : World} {g : Nat} {us : List Nat} {rest : List Value} (h : w.heap[g]? = some (wrdO us rest)) (i n : Nat) (hi : i < us.length) : (w.setCell ⟨g, i, none⟩ (.int .u64 (n : Int))).heap[g]? = some (wrdO (us.set i n) rest) := by
  have := set_rowO h i (n : Int) (by simpa using hi)
  rw [this, wrdO, List.map_set]
theorem info73 : (Try.prog.info? 73).map (fun i => (i.zero, i.size, i.bytes)) = some (some (.int .u64 0), 1, 8) := by kernel_rfl
theorem make_words (n : Nat) (hn : n ≤ 2097152) (w : World) : (Instr.makeSlice 70 (.int .i64 (n : Int)) (.int .i64 (n : Int))).run Try.prog w = .ok (.slice (some ⟨w.heap.size, 0, none⟩) n n) (w.alloc (wrdO (List.replicate n 0) [])) := by
  obtain ⟨k0, hk0, kz0, kz1, kz2⟩ := info_parts info73
  have h := run_makeSlice w (P := Try.prog) 70 73 k0 (.int .u64 0) Try.underlying70 hk0 kz0 .i64 .i64 (n : Int) (n : Int) (by omega) (Int.le_refl _) (by rw [kz1]; omega) (by rw [kz2]; omega) (by omega)
  rw [kz1, Int.toNat_natCast, Nat.mul_one] at h
  rw [h, wrdO, rowObj]
  congr 3
  apply Array.ext_getElem?
  intro i
  by_cases hi : i < n
  · simp [madeCells, Value.cells, hi, Nat.mod_one]
  · simp [madeCells, Value.cells, hi]
def ownW (lo hi : Nat) (w : World) (v : Value) (us : List Nat) : Prop :=
  ∃ g cap rest, v = .slice (some ⟨g, 0, none⟩) us.length cap ∧ lo ≤ g ∧ g < hi ∧ w.heap[g]? = some (wrdO us rest)
theorem ownW.below {lo hi : Nat} {w w' : World} {v : Value} {us : List Nat} (h : ownW lo hi w v us) (hb : Below w.heap.size w w') : ownW lo hi w' v us := by
  obtain ⟨g, cap, rest, rfl, hg, hh, hc⟩ := h
  exact ⟨g, cap, rest, rfl, hg, hh, (hb.block g (Array.getElem?_eq_some_iff.1 hc).1).trans hc⟩
theorem ownW.wide {lo hi lo' hi' : Nat} {w : World} {v : Value} {us : List Nat} (h : ownW lo hi w v us) (h1 : lo' ≤ lo) (h2 : hi ≤ hi') : ownW lo' hi' w v us := by
  obtain ⟨g, cap, rest, rfl, hg, hh, hc⟩ := h
  exact ⟨g, cap, rest, rfl, by omega, by omega, hc⟩
/-- words that hold f: bit j of word i is f i j, for the first W bits -/
structure holds (W n : Nat) (us : List Nat) (f : Nat → Nat → Bool) : Prop where
  len : us.length = n
  lt : ∀ i, i < n → us.getD i 0 < 18446744073709551616
  bit : ∀ i j, i < n → j < W → (us.getD i 0).testBit j = f i j
theorem holds.congr {W n : Nat} {us : List Nat} {f f' : Nat → Nat → Bool} (h : holds W n us f) (e : ∀ i j, i < n → j < W → f i j = f' i j) : holds W n us f' :=
  ⟨h.len, h.lt, fun i j hi hj => (h.bit i j hi hj).trans (e i j hi hj)⟩
theorem getD_set {us : List Nat} {i k n : Nat} (hi : i < us.length) : (us.set i n).getD k 0 = if k = i then n else us.getD k 0 := by
  by_cases e : k = i
  · subst e
    rw [if_pos rfl, List.getD_eq_getElem?_getD, List.getElem?_set_self hi]; rfl
  · rw [if_neg e, List.getD_eq_getElem?_getD, List.getElem?_set_ne (by omega), List.getD_eq_getElem?_getD]
theorem holds.set {W n : Nat} {us : List Nat} {f : Nat → Nat → Bool} (h : holds W n us f) {i b : Nat} (hi : i < n) (hb : b < 64) : holds W n (us.set i (us.getD i 0 ||| 2 ^ b)) fun i' j => f i' j || (decide (i' = i) && decide (j = b)) := by
  refine ⟨by rw [List.length_set]; exact h.len, fun k hk => ?_, fun k j hk hj => ?_⟩
  · rw [getD_set (by rw [h.len]; exact hi)]
    split
    · exact or_lt (h.lt i hi) (pow_lt hb)
    · exact h.lt k hk
  · rw [getD_set (by rw [h.len]; exact hi)]
    by_cases e : k = i
    · subst e
      rw [if_pos rfl, Nat.testBit_or, Nat.testBit_two_pow, h.bit k j hi hj, decide_eq_true rfl, Bool.true_and]
      congr 1
      rw [decide_eq_decide]; omega
    · rw [if_neg e, h.bit k j hk hj, decide_eq_false e, Bool.false_and, Bool.or_false]
theorem holds.join {W n : Nat} {us vs : List Nat} {f g : Nat → Nat → Bool} (h : holds W n us f) (h' : holds W n vs g) {k : Nat} (hk : k < n) : holds W n (us.set k (us.getD k 0 ||| vs.getD k 0)) fun i j => f i j || (decide (i = k) && g i j) := by
  refine ⟨by rw [List.length_set]; exact h.len, fun i hi => ?_, fun i j hi hj => ?_⟩
  · rw [getD_set (by rw [h.len]; exact hk)]
    split
    · exact or_lt (h.lt k hk) (h'.lt k hk)
    · exact h.lt i hi
  · rw [getD_set (by rw [h.len]; exact hk)]
    by_cases e : i = k
    · subst e
      rw [if_pos rfl, Nat.testBit_or, h.bit i j hi hj, h'.bit i j hi hj, decide_eq_true rfl, Bool.true_and]
    · rw [if_neg e, h.bit i j hi hj, decide_eq_false e, Bool.false_and, Bool.or_false]
theorem holds_zero (W n : Nat) : holds W n (List.replicate n 0) fun _ _ => false := by
  refine ⟨by simp, fun i hi => ?_, fun i j hi hj => ?_⟩
  · rw [List.getD_eq_getElem?_getD, List.getElem?_replicate]; simp [hi]
  · rw [List.getD_eq_getElem?_getD, List.getElem?_replicate]; simp [hi]
/-- where a place lies: part and bit -/
theorem place_at {W i j k : Nat} (hj : j < W) : (i * W + j = k) ↔ (i = k / W ∧ j = k % W) := by
  constructor
  · rintro rfl
    have hw : 0 < W := by omega
    refine ⟨?_, ?_⟩
    · rw [Nat.mul_comm, Nat.mul_add_div hw, Nat.div_eq_of_lt hj]; omega
    · rw [Nat.mul_comm, Nat.mul_add_mod, Nat.mod_eq_of_lt hj]
  · rintro ⟨rfl, rfl⟩
    rw [Nat.mul_comm]; exact Nat.div_add_mod k W
/-- the bits of the first k places -/
def upto (W : Nat) (B : List Bool) (k : Nat) (i j : Nat) : Bool := decide (i * W + j < k) && B.getD (i * W + j) false
theorem upto_step_no {W n : Nat} {us : List Nat} {B : List Bool} {k : Nat} (h : holds W n us (upto W B k)) (hb : B.getD k false = false) : holds W n us (upto W B (k + 1)) := by
  refine h.congr fun i j _ _ => ?_
  unfold upto
  by_cases e : i * W + j = k
  · rw [e, hb, Bool.and_false, Bool.and_false]
  · congr 1
    rw [decide_eq_decide]; omega
theorem upto_step_yes {W n : Nat} {us : List Nat} {B : List Bool} {k : Nat} (h : holds W n us (upto W B k)) (hb : B.getD k false = true) (hw : 0 < W) (hw64 : W ≤ 64) (hk : k / W < n) :
    holds W n (us.set (k / W) (us.getD (k / W) 0 ||| 2 ^ (k % W))) (upto W B (k + 1)) := by
  have hm : k % W < W := Nat.mod_lt _ hw
  refine (h.set hk (b := k % W) (by omega)).congr fun i j _ hj => ?_
  have hp := place_at (i := i) (k := k) hj
  unfold upto
  by_cases e : i * W + j = k
  · obtain ⟨e1, e2⟩ := hp.1 e
    rw [e, hb, decide_eq_true e1, decide_eq_true e2, decide_eq_true (show k < k + 1 by omega)]
    simp
  · have : ¬ (i = k / W ∧ j = k % W) := fun h => e (hp.2 h)
    rw [show (decide (i = k / W) && decide (j = k % W)) = false by rw [← Bool.not_eq_true]; simpa using this, Bool.or_false]
    congr 1
    rw [decide_eq_decide]; omega
theorem BC.set {q : Nat} {p wd : Int} {a b : Value} {W : World} {g i : Nat} {v : Value} (h : BC q p wd a b W) (hne : g ≠ q) : BC q p wd a b (W.setCell ⟨g, i, none⟩ v) := by
  have hc : ∀ k, (W.setCell ⟨g, i, none⟩ v).cell? ⟨q, k, none⟩ = W.cell? ⟨q, k, none⟩ := fun k => by
    unfold World.cell?
    rw [show (⟨q, k, none⟩ : Addr).block = q from rfl]
    simp only [World.setCell]
    rw [Array.getElem?_modify, if_neg (by omega)]
  exact ⟨by rw [size_set]; exact h.lt, (hc 0).trans h.c0, (hc 1).trans h.c1, (hc 2).trans h.c2, (hc 3).trans h.c3⟩
theorem parts50 (q : Nat) (x : Blm) (a b : Value) (w : World) (hq : BC q x.p x.w a b w) (ha : saltsV w a x.s) (hb : boolsV w b x.b) (hr : Right x) :
    Calls Try.prog 50 #[ptr q] w fun e w' => ∃ (r : Value) (us : List Nat), e = .returned r ∧ ownW w.heap.size w'.heap.size w' r us ∧ holds x.w.toNat x.s.length us (fun i j => x.b.getD (i * x.w.toNat + j) false) ∧ Below w.heap.size w w' := by
  obtain ⟨M, hW⟩ : ∃ M : Nat, x.w = (M : Int) := ⟨x.w.toNat, by have := hr.w1; omega⟩
  have W1 : 1 ≤ M := by have := hr.w1; omega
  have W64 : M ≤ 64 := by have := hr.w64; omega
  have s1 := hr.s1
  have s4 := hr.s4
  have hbits := hr.bits
  rw [hW] at hbits hq
  have hB : x.b.length = M * x.s.length := by exact_mod_cast hbits
  rw [show x.w.toNat = M by omega]
  clear hr hbits hW
  obtain ⟨p, wd, ss, bs⟩ := x
  dsimp only at *
  obtain ⟨n, hn⟩ : ∃ n, n = ss.length := ⟨_, rfl⟩
  obtain ⟨A, ca, rfl⟩ := ha.slice
  obtain ⟨A2, cb, rfl, hcB⟩ := hb
  rw [← hn] at s1 s4 hB hq ⊢
  have mk := make_words n (by omega)
  obtain ⟨m, hm⟩ : ∃ m, m = bs.length := ⟨_, rfl⟩
  rw [← hm] at hB hcB hq
  have m256 : m ≤ 256 := by rw [hB]; have : M * n ≤ 64 * 4 := Nat.mul_le_mul W64 s4; omega
  have HQ := hide hq
  have HB := hide hB
  have HCB := hide hcB
  have HW1 := hide W1
  have HW64 := hide W64
  obtain ⟨hql, c0, c1, c2, c3⟩ := hq
  have HQL := hide hql
  obtain ⟨_, d0, d1, d2, d3⟩ := (unhide HQ).below (show Below w.heap.size w (w.alloc (wrdO (List.replicate n 0) [])) from bl_al (Below.refl _ _))
  have H0 : Hid (holds M n (List.replicate n 0) (upto M bs 0)) := hide ((holds_zero M n).congr fun i j _ _ => by unfold upto; simp)
  have HF : Hid (∀ us, holds M n us (upto M bs m) → holds M n us fun i j => bs.getD (i * M + j) false) := hide fun us h => h.congr fun i j hi hj => by
    unfold upto
    have : i * M + j < m := by
      rw [hB, Nat.mul_comm M n]
      calc i * M + j < i * M + M := by omega
        _ = (i + 1) * M := by rw [Nat.add_mul]; omega
        _ ≤ n * M := Nat.mul_le_mul_right _ (by omega)
    rw [decide_eq_true this, Bool.true_and]
  have n0 : (0 : Int) ≤ (n : Int) := by omega
  have n4 : (n : Int) ≤ 4 := by omega
  have m0 : (0 : Int) ≤ (m : Int) := by omega
  have mI : (m : Int) ≤ 256 := by omega
  clear hn ha hcB hB hm hql s1 s4 m256 W1 W64
  go_enter Try.func50, Try.ntmps50
  go_wp2
  clear mk c0 c1 c2 c3 d0 d1 d2 d3
  go_loopw [17] (fun i wr => ∃ (k : Nat) (us : List Nat), k ≤ m ∧ i = .int .i64 k ∧ holds M n us (upto M bs k) ∧ wr.heap[w.heap.size]? = some (wrdO us []) ∧ Below w.heap.size w wr) (fun i _ => m - (intOf i).toNat)
  case atStart => exact ⟨0, _, by omega, rfl, unhide H0, heap_at _ _ _ rfl, (Below.refl _ _).alloc (Nat.le_refl _) _⟩
  case round =>
    obtain ⟨k, us, hk, rfl, hh, ho, hbl⟩ := hrel
    by_cases hlt : k < m
    · obtain ⟨b1, off, hA, hl1, hcell⟩ := unhide HCB (by omega)
      subst hA
      have e0 := (cell_below hbl hl1 (i := off + k)).trans (hcell k hlt)
      have q1 : (k : Int) < (m : Int) := by omega
      have q0 : (0 : Int) ≤ (k : Int) := by omega
      have CQ := hide ((unhide HQ).below hbl)
      have HJ := hide hlt
      have HH := hide hh
      have HO := hide ho
      have HBL := hide hbl
      clear hcell hl1 hh ho hbl hk hlt
      generalize hbk : bs.getD k false = bk at *
      cases bk
      · have HS := hide (upto_step_no (unhide HH) hbk)
        clear hbk
        go_wp2
        go_roundw
        case rel => exact ⟨k + 1, us, unhide HJ, by go_num, unhide HS, unhide HO, unhide HBL⟩
        case measure => have := unhide HJ; simp [intOf]; omega
      · have hkn : k / M < n := by
          have h1 := unhide HJ
          rw [unhide HB] at h1
          exact Nat.div_lt_of_lt_mul h1
        have HS := hide (upto_step_yes (unhide HH) hbk (unhide HW1) (unhide HW64) hkn)
        have hmod : k % M < M := Nat.mod_lt _ (unhide HW1)
        have hul : k / M < us.length := by rw [(unhide HH).len]; exact hkn
        have t1 : Int.tdiv (k : Int) (M : Int) = ((k / M : Nat) : Int) := by rw [Int.tdiv_eq_ediv_of_nonneg (by omega)]; simp
        have t2 : Int.tmod (k : Int) (M : Int) = ((k % M : Nat) : Int) := by rw [Int.tmod_eq_emod_of_nonneg (by omega)]; simp
        have ne : ¬ (M : Int) = 0 := by have := unhide HW1; omega
        have ul : us.length = n := (unhide HH).len
        have K1 := hide (fun (W' : World) (h : W'.heap[w.heap.size]? = some (wrdO us [])) => set51 w.heap.size (k / M) (us.getD (k / M) 0) (k % M) W' (by have := unhide HW64; omega) ((unhide HH).lt _ hkn) (cell_wrdO h _ hul) (free_wrdO h _))
        have HSET := hide (fun (W' : World) (h : W'.heap[w.heap.size]? = some (wrdO us [])) => set_wrdO h (k / M) (us.getD (k / M) 0 ||| 2 ^ (k % M)) hul)
        have i0 : (0 : Int) ≤ ((k / M : Nat) : Int) := Int.natCast_nonneg _
        have i1 : ((k / M : Nat) : Int) < (n : Int) := by exact_mod_cast hkn
        generalize k / M = i at *
        generalize k % M = j at *
        generalize us.getD i 0 ||| 2 ^ j = nu at *
        have neN : ¬ M = 0 := by have := unhide HW1; omega
        have wk : IntKind.i64.wrap (i : Int) = (i : Int) := by rw [IntKind.wrap_i64]; omega
        clear hbk hmod hul hkn
        go_wp2
        refine wp_region_held (S := fun W' => BC q p (M : Int) (.slice A n ca) (.slice (some ⟨b1, off, none⟩) m cb) W') (by kernel_rfl) ?_
        have hS0 : BC q p (M : Int) (.slice A n ca) (.slice (some ⟨b1, off, none⟩) m cb) { wr with drawn := wr.drawn + 1 } := (unhide CQ).below (below_drewN (Below.refl _ _) 1)
        refine wpAnyH_take (i := 0) (oi := { dst := some 23, op := Op.move (Operand.tmp 3), type := 70, pos := "l10_bloom.go:63", after := #[], guard := none }) (v := ?_) rfl (by kernel_rfl) (by kernel_rfl) (by kernel_rfl) (fun _ _ _ h => h) (Or.inl ⟨by rfl, ?_⟩) hS0 ?_
        rotate_left
        · intro W hSw
          obtain ⟨_, c0, c1, c2, c3⟩ := hSw
          go_simp
          try with_reducible rfl
        simp only [Act.put, List.setIfInBounds_toArray, List.set_cons_zero, List.set_cons_succ]
        refine wpAnyH_take (i := 1) (oi := { dst := some 24, op := Op.move (Operand.tmp 4), type := 3, pos := "l10_bloom.go:63", after := #[], guard := none }) (v := ?_) rfl (by kernel_rfl) (by kernel_rfl) (by kernel_rfl) (fun _ _ _ h => h) (Or.inl ⟨by rfl, ?_⟩) hS0 ?_
        rotate_left
        · intro W hSw
          obtain ⟨_, c0, c1, c2, c3⟩ := hSw
          go_simp
          try with_reducible rfl
        simp only [Act.put, List.setIfInBounds_toArray, List.set_cons_zero, List.set_cons_succ]
        refine wpAnyH_take (i := 2) (oi := { dst := some 25, op := Op.move (Operand.tmp 0), type := 94, pos := "l10_bloom.go:63", after := #[], guard := none }) (v := ?_) rfl (by kernel_rfl) (by kernel_rfl) (by kernel_rfl) (fun _ _ _ h => h) (Or.inl ⟨by rfl, ?_⟩) hS0 ?_
        rotate_left
        · intro W hSw
          obtain ⟨_, c0, c1, c2, c3⟩ := hSw
          go_simp
          try with_reducible rfl
        simp only [Act.put, List.setIfInBounds_toArray, List.set_cons_zero, List.set_cons_succ]
        refine wpAnyH_take (i := 3) (oi := { dst := some 26, op := Op.nilCheck (Operand.tmp 25), type := 0, pos := "l10_bloom.go:63", after := #[{ on := 2, ground := Ground.data }], guard := none }) (v := ?_) rfl (by kernel_rfl) (by kernel_rfl) (by kernel_rfl) (fun _ _ _ h => h) (Or.inl ⟨by rfl, ?_⟩) hS0 ?_
        rotate_left
        · intro W hSw
          obtain ⟨_, c0, c1, c2, c3⟩ := hSw
          go_simp
          try with_reducible rfl
        simp only [Act.put, List.setIfInBounds_toArray, List.set_cons_zero, List.set_cons_succ]
        refine wpAnyH_take (i := 4) (oi := { dst := some 27, op := Op.fieldAddr 26 (Operand.tmp 26) 1, type := 0, pos := "l10_bloom.go:63", after := #[{ on := 3, ground := Ground.data }], guard := none }) (v := ?_) rfl (by kernel_rfl) (by kernel_rfl) (by kernel_rfl) (fun _ _ _ h => h) (Or.inl ⟨by rfl, ?_⟩) hS0 ?_
        rotate_left
        · intro W hSw
          obtain ⟨_, c0, c1, c2, c3⟩ := hSw
          go_simp
          try with_reducible rfl
        simp only [Act.put, List.setIfInBounds_toArray, List.set_cons_zero, List.set_cons_succ]
        refine wpAnyH_take (i := 5) (oi := { dst := some 28, op := Op.load 3 (Operand.tmp 27), type := 3, pos := "l10_bloom.go:63", after := #[{ on := 4, ground := Ground.data }], guard := none }) (v := ?_) rfl (by kernel_rfl) (by kernel_rfl) (by kernel_rfl) (fun _ _ _ h => h) (Or.inl ⟨by rfl, ?_⟩) hS0 ?_
        rotate_left
        · intro W hSw
          obtain ⟨_, c0, c1, c2, c3⟩ := hSw
          go_simp
          try with_reducible rfl
        simp only [Act.put, List.setIfInBounds_toArray, List.set_cons_zero, List.set_cons_succ]
        refine wpAnyH_take (i := 6) (oi := { dst := some 29, op := Op.binOp BinOp.quo 3 (Operand.tmp 24) (Operand.tmp 28) 3, type := 3, pos := "l10_bloom.go:63", after := #[{ on := 1, ground := Ground.data }, { on := 5, ground := Ground.data }], guard := none }) (v := ?_) rfl (by kernel_rfl) (by kernel_rfl) (by kernel_rfl) (fun _ _ _ h => h) (Or.inl ⟨by rfl, ?_⟩) hS0 ?_
        rotate_left
        · intro W hSw
          obtain ⟨_, c0, c1, c2, c3⟩ := hSw
          go_simp
          try with_reducible rfl
        simp only [Act.put, List.setIfInBounds_toArray, List.set_cons_zero, List.set_cons_succ]
        refine wpAnyH_take (i := 7) (oi := { dst := some 30, op := Op.indexAddr 70 (Operand.tmp 23) (Operand.tmp 29), type := 0, pos := "l10_bloom.go:63", after := #[{ on := 0, ground := Ground.data }, { on := 6, ground := Ground.data }], guard := none }) (v := ?_) rfl (by kernel_rfl) (by kernel_rfl) (by kernel_rfl) (fun _ _ _ h => h) (Or.inl ⟨by rfl, ?_⟩) hS0 ?_
        rotate_left
        · intro W hSw
          obtain ⟨_, c0, c1, c2, c3⟩ := hSw
          go_simp
          try with_reducible rfl
        simp only [Act.put, List.setIfInBounds_toArray, List.set_cons_zero, List.set_cons_succ]
        refine wpAnyH_take (i := 8) (oi := { dst := some 31, op := Op.move (Operand.tmp 4), type := 3, pos := "l10_bloom.go:63", after := #[], guard := none }) (v := ?_) rfl (by kernel_rfl) (by kernel_rfl) (by kernel_rfl) (fun _ _ _ h => h) (Or.inl ⟨by rfl, ?_⟩) hS0 ?_
        rotate_left
        · intro W hSw
          obtain ⟨_, c0, c1, c2, c3⟩ := hSw
          go_simp
          try with_reducible rfl
        simp only [Act.put, List.setIfInBounds_toArray, List.set_cons_zero, List.set_cons_succ]
        refine wpAnyH_take (i := 9) (oi := { dst := some 32, op := Op.move (Operand.tmp 0), type := 94, pos := "l10_bloom.go:63", after := #[], guard := none }) (v := ?_) rfl (by kernel_rfl) (by kernel_rfl) (by kernel_rfl) (fun _ _ _ h => h) (Or.inl ⟨by rfl, ?_⟩) hS0 ?_
        rotate_left
        · intro W hSw
          obtain ⟨_, c0, c1, c2, c3⟩ := hSw
          go_simp
          try with_reducible rfl
        simp only [Act.put, List.setIfInBounds_toArray, List.set_cons_zero, List.set_cons_succ]
        refine wpAnyH_take (i := 10) (oi := { dst := some 33, op := Op.nilCheck (Operand.tmp 32), type := 0, pos := "l10_bloom.go:63", after := #[{ on := 9, ground := Ground.data }], guard := none }) (v := ?_) rfl (by kernel_rfl) (by kernel_rfl) (by kernel_rfl) (fun _ _ _ h => h) (Or.inl ⟨by rfl, ?_⟩) hS0 ?_
        rotate_left
        · intro W hSw
          obtain ⟨_, c0, c1, c2, c3⟩ := hSw
          go_simp
          try with_reducible rfl
        simp only [Act.put, List.setIfInBounds_toArray, List.set_cons_zero, List.set_cons_succ]
        refine wpAnyH_take (i := 11) (oi := { dst := some 34, op := Op.fieldAddr 26 (Operand.tmp 33) 1, type := 0, pos := "l10_bloom.go:63", after := #[{ on := 10, ground := Ground.data }], guard := none }) (v := ?_) rfl (by kernel_rfl) (by kernel_rfl) (by kernel_rfl) (fun _ _ _ h => h) (Or.inl ⟨by rfl, ?_⟩) hS0 ?_
        rotate_left
        · intro W hSw
          obtain ⟨_, c0, c1, c2, c3⟩ := hSw
          go_simp
          try with_reducible rfl
        simp only [Act.put, List.setIfInBounds_toArray, List.set_cons_zero, List.set_cons_succ]
        refine wpAnyH_take (i := 12) (oi := { dst := some 35, op := Op.load 3 (Operand.tmp 34), type := 3, pos := "l10_bloom.go:63", after := #[{ on := 11, ground := Ground.data }], guard := none }) (v := ?_) rfl (by kernel_rfl) (by kernel_rfl) (by kernel_rfl) (fun _ _ _ h => h) (Or.inl ⟨by rfl, ?_⟩) hS0 ?_
        rotate_left
        · intro W hSw
          obtain ⟨_, c0, c1, c2, c3⟩ := hSw
          go_simp
          try with_reducible rfl
        simp only [Act.put, List.setIfInBounds_toArray, List.set_cons_zero, List.set_cons_succ]
        refine wpAnyH_take (i := 13) (oi := { dst := some 36, op := Op.binOp BinOp.rem 3 (Operand.tmp 31) (Operand.tmp 35) 3, type := 3, pos := "l10_bloom.go:63", after := #[{ on := 8, ground := Ground.data }, { on := 12, ground := Ground.data }], guard := none }) (v := ?_) rfl (by kernel_rfl) (by kernel_rfl) (by kernel_rfl) (fun _ _ _ h => h) (Or.inl ⟨by rfl, ?_⟩) hS0 ?_
        rotate_left
        · intro W hSw
          obtain ⟨_, c0, c1, c2, c3⟩ := hSw
          go_simp
          try with_reducible rfl
        simp only [Act.put, List.setIfInBounds_toArray, List.set_cons_zero, List.set_cons_succ]
        refine wpAnyH_one (i := 14) (by kernel_rfl) ?_
        refine wpOp_step (o := { dst := some 37, op := Op.call { callee := Callee.value (Operand.func 51), args := #[Operand.tmp 30, Operand.tmp 36], argTypes := #[73, 3] }, type := 0, pos := "l10_bloom.go:63", after := #[{ on := 7, ground := Ground.data }, { on := 13, ground := Ground.data }], guard := none }) rfl fun K' hK => step_enterW (by rfl) 51 #[.pointer (some ⟨w.heap.size, i, none⟩), .int .i64 (j : Int)] (by go_simp) ((unhide K1 { wr with drawn := wr.drawn + 1 } (unhide HO)).mono ?_)
        rintro e w3 ⟨rfl, hw3⟩
        have s3 : BC q p (M : Int) (.slice A n ca) (.slice (some ⟨b1, off, none⟩) m cb) w3 := by
          rw [hw3]
          exact (hS0.set (by have := unhide HQL; omega)).below (below_drewN (Below.refl _ _) 1)
        have O3 : Hid (w3.heap[w.heap.size]? = some (wrdO (us.set i nu) [])) := hide (by rw [hw3]; exact unhide HSET { wr with drawn := wr.drawn + 1 } (unhide HO))
        have B3 : Hid (Below w.heap.size w w3) := hide (by rw [hw3]; exact below_drewN (bl_set (below_drewN (unhide HBL) 1) (Nat.le_refl _)) 1)
        clear hw3
        refine ⟨_, rfl, hK _ _ ⟨s3, ?_⟩⟩
        simp only [Act.put, List.setIfInBounds_toArray, List.set_cons_zero, List.set_cons_succ]
        refine wpAnyH_done (by kernel_rfl) ?_ _
        clear s3 hS0
        go_wp2
        go_roundw
        case rel => exact ⟨k + 1, us.set i nu, unhide HJ, by go_num, unhide HS, unhide O3, unhide B3⟩
        case measure => have := unhide HJ; simp [intOf]; omega
    · obtain rfl : k = m := by omega
      have HH := hide (unhide HF us hh)
      have HO := hide ho
      have HBL := hide hbl
      have ul := hh.len
      clear hh ho hbl hlt
      go_wp2
      go_ret
      exact ⟨_, us, rfl, ⟨w.heap.size, n, [], by rw [ul]; rfl, Nat.le_refl _, (Array.getElem?_eq_some_iff.1 (unhide HO)).1, unhide HO⟩, unhide HH, unhide HBL⟩
end Go.Proofs.Ythckgccfjpgbaaa
