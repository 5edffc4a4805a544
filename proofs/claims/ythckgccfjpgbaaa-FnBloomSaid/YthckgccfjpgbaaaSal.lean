/- Salts: slices of them, what they read as, which of them a call made; the laws' helpers over them. -/
import Derived.Test.YthckgccfjpgbaaaInts
import Derived.Laws.ResultCell
namespace Go.Proofs.Ythckgccfjpgbaaa
open Go.RowKit
set_option maxHeartbeats 4000000
set_option maxRecDepth 20000
/-- the first j of one list, then the rest of another -/
def mixG {α : Type} (r xs : List α) (j : Nat) : List α := r.take j ++ xs.drop j
theorem mixG_len {α : Type} (r xs : List α) (j : Nat) (h : r.length = xs.length) : (mixG r xs j).length = xs.length := by simp [mixG]; omega
theorem mixG_zero {α : Type} (r xs : List α) : mixG r xs 0 = xs := by simp [mixG]
theorem mixG_all {α : Type} (r xs : List α) (h : r.length = xs.length) : mixG r xs xs.length = r := by simp [mixG, ← h]
theorem mixG_succ {α : Type} (d : α) (r xs : List α) (j : Nat) (h : r.length = xs.length) (hj : j < xs.length) : (mixG r xs j).set j (r.getD j d) = mixG r xs (j + 1) := by
  apply List.ext_getElem?
  intro i
  unfold mixG
  rcases Nat.lt_trichotomy i j with hi | hi | hi
  · rw [List.getElem?_set_ne (by omega), List.getElem?_append_left (by simp; omega), List.getElem?_append_left (by simp; omega), List.getElem?_take_of_lt hi, List.getElem?_take_of_lt (by omega)]
  · subst hi
    rw [List.getElem?_set_self (by simp; omega), List.getElem?_append_left (by simp; omega), List.getElem?_take_of_lt (by omega), List.getD_eq_getElem?_getD, List.getElem?_eq_getElem (by omega)]
    rfl
  · rw [List.getElem?_set_ne (by omega), List.getElem?_append_right (by simp; omega), List.getElem?_append_right (by simp; omega), List.getElem?_drop, List.getElem?_drop]
    congr 1
    simp; omega
abbrev Slt := Int × Int
abbrev noA : Slt := (0, 0)
abbrev saltV (s : Slt) : Value := .agg #[.int .i64 s.1, .int .i64 s.2]
/-- a salt's cells in block b from a place on -/
structure SC (b o : Nat) (s : Slt) (W : World) : Prop where
  c0 : W.cell? ⟨b, o, none⟩ = some (.int .i64 s.1)
  c1 : W.cell? ⟨b, o + 1, none⟩ = some (.int .i64 s.2)
/-- a slice that reads as these salts -/
def saltsV (w : World) (v : Value) (ss : List Slt) : Prop :=
  ∃ A cap, v = .slice A ss.length cap ∧ (0 < ss.length → ∃ b off, A = some ⟨b, off, none⟩ ∧ b < w.heap.size ∧ ∀ i, i < ss.length → SC b (off + i * 2) (ss.getD i noA) w)
theorem sc_new (w : World) (x y : Int) (ty : TypeId) : SC w.heap.size 0 (x, y) (w.alloc (.cells #[.int .i64 x, .int .i64 y] ty)) := by
  refine ⟨?_, ?_⟩ <;> rw [Go.cell_of_row _ _ _ _ _ _ (heap_alloc_new w _)] <;> rfl
theorem SC.below {b o : Nat} {s : Slt} {W W' : World} (h : SC b o s W) (hl : b < W.heap.size) (hb : Below W.heap.size W W') : SC b o s W' :=
  ⟨(cell_below hb hl).trans h.c0, (cell_below hb hl).trans h.c1⟩
theorem sz28 (v : Value) (ss : List Slt) (L : Int) (w : World) (hv : saltsV w v ss) (hl : ss.length ≤ maxLen) (hL : 0 ≤ L) (hL' : L ≤ 1048576) :
    Calls Try.prog 28 #[v, .int .i64 L] w fun e w' => e = .returned (.int .i64 (if (ss.length : Int) ≤ L then L - ss.length else -1)) ∧ w' = w := by
  obtain ⟨A, cap, rfl, hc⟩ := hv
  clear hc
  unfold maxLen at hl
  have n0 : (0 : Int) ≤ (ss.length : Int) := by omega
  have n1 : (ss.length : Int) ≤ 9223372036854775807 := by omega
  by_cases h : (ss.length : Int) ≤ L
  · rw [if_pos h]
    go_enter Try.func28, Try.ntmps28
    go_wp2
    go_ret
    exact ⟨rfl, rfl⟩
  · rw [if_neg h]
    have h' : L < (ss.length : Int) := by omega
    clear h
    go_enter Try.func28, Try.ntmps28
    go_wp2
    go_ret
    exact ⟨rfl, rfl⟩
def flatS : List Slt → List Value
  | [] => []
  | p :: ps => .int .i64 p.1 :: .int .i64 p.2 :: flatS ps
theorem flat_len : ∀ ps : List Slt, (flatS ps).length = ps.length * 2
  | [] => rfl
  | p :: ps => by simp [flatS, flat_len ps]; omega
theorem flat_at : ∀ (ps : List Slt) (i : Nat) (rest : List Value), i < ps.length → (flatS ps ++ rest)[i * 2]? = some (.int .i64 (ps.getD i noA).1) ∧ (flatS ps ++ rest)[i * 2 + 1]? = some (.int .i64 (ps.getD i noA).2)
  | [], i, rest, h => by simp at h
  | p :: ps, 0, rest, _ => ⟨rfl, rfl⟩
  | p :: ps, i + 1, rest, h => by
    have ih := flat_at ps i rest (by simpa using h)
    rw [show (i + 1) * 2 = i * 2 + 1 + 1 by omega]
    exact ih
theorem flat_set0 : ∀ (ps : List Slt) (i : Nat) (rest : List Value) (x : Int), i < ps.length → (flatS ps ++ rest).set (i * 2) (.int .i64 x) = flatS (ps.set i (x, (ps.getD i noA).2)) ++ rest
  | [], i, rest, x, h => by simp at h
  | p :: ps, 0, rest, x, _ => rfl
  | p :: ps, i + 1, rest, x, h => by
    have ih := flat_set0 ps i rest x (by simpa using h)
    rw [show (i + 1) * 2 = i * 2 + 1 + 1 by omega]
    exact congrArg (fun l => Value.int .i64 p.1 :: .int .i64 p.2 :: l) ih
theorem flat_set1 : ∀ (ps : List Slt) (i : Nat) (rest : List Value) (x : Int), i < ps.length → (flatS ps ++ rest).set (i * 2 + 1) (.int .i64 x) = flatS (ps.set i ((ps.getD i noA).1, x)) ++ rest
  | [], i, rest, x, h => by simp at h
  | p :: ps, 0, rest, x, _ => rfl
  | p :: ps, i + 1, rest, x, h => by
    have ih := flat_set1 ps i rest x (by simpa using h)
    rw [show (i + 1) * 2 = i * 2 + 1 + 1 by omega]
    exact congrArg (fun l => Value.int .i64 p.1 :: .int .i64 p.2 :: l) ih
def sltO (ps : List Slt) (rest : List Value) : Obj := .cells (flatS ps ++ rest).toArray 67 (0, 0)
/-- salts in a block of their own, between lo and hi -/
def ownA (lo hi : Nat) (w : World) (v : Value) (ps : List Slt) : Prop :=
  (v = .slice none 0 0 ∧ ps = []) ∨ ∃ g cap rest, v = .slice (some ⟨g, 0, none⟩) ps.length cap ∧ lo ≤ g ∧ g < hi ∧ w.heap[g]? = some (sltO ps rest) ∧ ps.length ≤ cap
theorem cell_sltO {w : World} {g : Nat} {ps : List Slt} {rest : List Value} (h : w.heap[g]? = some (sltO ps rest)) (i : Nat) (hi : i < ps.length) : SC g (i * 2) (ps.getD i noA) w := by
  obtain ⟨h0, h1⟩ := flat_at ps i rest hi
  refine ⟨?_, ?_⟩
  all_goals
    unfold World.cell?
    rw [show (⟨g, _, none⟩ : Addr).block = g from rfl, h]
    simp only [sltO]
    simpa using by assumption
theorem free_sltO {w : World} {g : Nat} {ps : List Slt} {rest : List Value} (h : w.heap[g]? = some (sltO ps rest)) (i : Nat) : w.frozen? ⟨g, i, none⟩ = false := by
  unfold World.frozen?
  rw [show (⟨g, i, none⟩ : Addr).block = g from rfl, h]
  simp [sltO]
theorem set_sltO {w : World} {g : Nat} {ps qs : List Slt} {rest : List Value} {i : Nat} {v : Value} (h : w.heap[g]? = some (sltO ps rest)) (hs : (flatS ps ++ rest).set i v = flatS qs ++ rest) : (w.setCell ⟨g, i, none⟩ v).heap[g]? = some (sltO qs rest) := by
  simp only [World.setCell, Array.getElem?_modify, if_true, h, Option.map_some, sltO]
  simp [hs]
theorem getD_set_self {ps : List Slt} {i : Nat} {p : Slt} (h : i < ps.length) : (ps.set i p).getD i noA = p := by
  rw [List.getD_eq_getElem?_getD, List.getElem?_set_self h]; rfl
abbrev put2 (W : World) (g o : Nat) (x y : Int) : World := (W.setCell ⟨g, o, none⟩ (.int .i64 x)).setCell ⟨g, o + 1, none⟩ (.int .i64 y)
theorem put_sltO {w : World} {g : Nat} {ps : List Slt} {rest : List Value} (h : w.heap[g]? = some (sltO ps rest)) (i : Nat) (hi : i < ps.length) (x y : Int) : (put2 w g (i * 2) x y).heap[g]? = some (sltO (ps.set i (x, y)) rest) := by
  have h0 := set_sltO h (flat_set0 ps i rest x hi)
  have h1 := set_sltO h0 (flat_set1 _ i rest y (by simpa using hi))
  simp only [List.set_set, hi, getD_set_self] at h1
  exact h1
theorem ownA.salts {lo hi : Nat} {w : World} {v : Value} {ps : List Slt} (h : ownA lo hi w v ps) : saltsV w v ps := by
  obtain ⟨rfl, rfl⟩ | ⟨g, cap, rest, rfl, hg, hh, hc, hcp⟩ := h
  · exact ⟨none, 0, rfl, fun h => by simp at h⟩
  · exact ⟨_, _, rfl, fun _ => ⟨g, 0, rfl, (Array.getElem?_eq_some_iff.1 hc).1, fun i hi => by rw [Nat.zero_add]; exact cell_sltO hc i hi⟩⟩
theorem saltsV.below {w w' : World} {v : Value} {ps : List Slt} (h : saltsV w v ps) (hb : Below w.heap.size w w') : saltsV w' v ps := by
  obtain ⟨A, cap, rfl, hc⟩ := h
  refine ⟨A, cap, rfl, fun hn => ?_⟩
  obtain ⟨b, off, rfl, hl, hc⟩ := hc hn
  exact ⟨b, off, rfl, Nat.lt_of_lt_of_le hl hb.size, fun i hi => (hc i hi).below hl hb⟩
theorem ownA.below {lo hi : Nat} {w w' : World} {v : Value} {ps : List Slt} (h : ownA lo hi w v ps) (hb : Below w.heap.size w w') : ownA lo hi w' v ps := by
  obtain h | ⟨g, cap, rest, rfl, hg, hh, hc, hcp⟩ := h
  · exact .inl h
  · exact .inr ⟨g, cap, rest, rfl, hg, hh, (hb.block g (Array.getElem?_eq_some_iff.1 hc).1).trans hc, hcp⟩
theorem ownA.wide {lo hi lo' hi' : Nat} {w : World} {v : Value} {ps : List Slt} (h : ownA lo hi w v ps) (h1 : lo' ≤ lo) (h2 : hi ≤ hi') : ownA lo' hi' w v ps := by
  obtain h | ⟨g, cap, rest, rfl, hg, hh, hc, hcp⟩ := h
  · exact .inl h
  · exact .inr ⟨g, cap, rest, rfl, by omega, by omega, hc, hcp⟩
theorem ownA.lies {lo hi : Nat} {w : World} {v : Value} {ps : List Slt} (h : ownA lo hi w v ps) : liesIn lo hi v := by
  intro g hg
  obtain ⟨rfl, _⟩ | ⟨g', cap, rest, rfl, h1, h2, _⟩ := h
  · cases hg
  · cases hg; exact ⟨h1, h2⟩
theorem ownA.touchS {lo hi lo' hi' : Nat} {w w' : World} {u v : Value} {ps : List Slt} (h : ownA lo hi w u ps) (ht : TouchS v w w') (hl : liesIn lo' hi' v) (hd : hi ≤ lo' ∨ hi' ≤ lo) : ownA lo hi w' u ps := by
  obtain h | ⟨g, cap, rest, rfl, hg, hh, hc, hcp⟩ := h
  · exact .inl h
  · refine .inr ⟨g, cap, rest, rfl, hg, hh, (ht.block g (Array.getElem?_eq_some_iff.1 hc).1 ?_).trans hc, hcp⟩
    intro e
    have := hl g e
    omega
theorem info67 : (Try.prog.info? 67).map (fun i => (i.zero, i.size, i.bytes)) = some (some (.agg #[.int .i64 0, .int .i64 0]), 2, 16) := by kernel_rfl
theorem flat_rep : ∀ n : Nat, flatS (List.replicate n noA) = (List.range (n * 2)).map fun i => (#[Value.int .i64 0, .int .i64 0] : Array Value).getD (i % 2) default
  | 0 => rfl
  | n + 1 => by
    rw [List.replicate_succ', show flatS (List.replicate n noA ++ [noA]) = flatS (List.replicate n noA) ++ flatS [noA] from ?_, flat_rep n, show (n + 1) * 2 = n * 2 + 2 by omega, List.range_add, List.map_append]
    · congr 1
      simp only [List.map_map]
      have e : ∀ k, (n * 2 + k) % 2 = k % 2 := fun k => by omega
      simp [flatS, List.range_succ, Function.comp_def, e]
    · generalize List.replicate n noA = l
      induction l with
      | nil => rfl
      | cons p l ih => simp [flatS, ih]
theorem make_salts (n : Nat) (hn : n ≤ 2097152) (w : World) : (Instr.makeSlice 23 (.int .i64 (n : Int)) (.int .i64 (n : Int))).run Try.prog w = .ok (.slice (some ⟨w.heap.size, 0, none⟩) n n) (w.alloc (sltO (List.replicate n noA) [])) := by
  obtain ⟨k0, hk0, kz0, kz1, kz2⟩ := info_parts info67
  have h := run_makeSlice w (P := Try.prog) 23 67 k0 (.agg #[.int .i64 0, .int .i64 0]) Try.underlying23 hk0 kz0 .i64 .i64 (n : Int) (n : Int) (by omega) (Int.le_refl _) (by rw [kz1]; omega) (by rw [kz2]; omega) (by omega)
  rw [kz1, Int.toNat_natCast] at h
  rw [h, sltO, flat_rep, List.append_nil]
  congr 3
  apply Array.ext_getElem?
  intro i
  by_cases hi : i < n * 2
  · simp [madeCells, Value.cells, hi]
  · simp [madeCells, Value.cells, hi]
theorem to67 (x y : Int) (w : World) :
    Calls Try.prog 67 #[saltV (x, y)] w fun e w' => e = .returned (saltV (x, y)) ∧ Below w.heap.size w w' := by
  obtain ⟨c0, c1⟩ := sc_new w x y 87
  go_enter Try.func67, Try.ntmps67
  go_wp2
  refine bodyPost_ret (v := saltV (x, y)) ?_ rfl ⟨rfl, ?_⟩
  · exact results_cell_row rfl _ _ (w.heap.size + 1) 67 _ (0, 0) _ rfl (by rw [Below.heap_alloc _ _ _ (by simp)]; exact heap_at _ _ _ (by simp)) Try.underlying67 rfl (by kernel_rfl)
  · exact bl_al (bl_al (bl_al (Below.refl _ _)))
theorem to30 (v : Value) (ps : List Slt) (w : World) (hv : saltsV w v ps) (hn : ps.length ≤ 2097152) :
    Calls Try.prog 30 #[v] w fun e w' => ∃ r, e = .returned r ∧ ownA w.heap.size w'.heap.size w' r ps ∧ Below w.heap.size w w' := by
  obtain ⟨A, cap, rfl, hc⟩ := hv
  have HC := hide hc
  obtain ⟨n, hnx⟩ : ∃ n, n = ps.length := ⟨_, rfl⟩
  rw [← hnx] at hn HC ⊢
  have HN := hide hnx
  have mk := make_salts n (by omega)
  clear hc hnx
  go_enter Try.func30, Try.ntmps30
  go_wp2
  clear mk
  go_loopw [4] (fun i wr => ∃ j : Nat, j ≤ n ∧ i = .int .i64 j ∧ wr.heap[w.heap.size]? = some (sltO (mixG ps (List.replicate n noA) j) []) ∧ Below w.heap.size w wr) (fun i _ => n - (intOf i).toNat)
  case atStart => exact ⟨0, by omega, rfl, by rw [mixG_zero, heap_at _ _ _ rfl], (Below.refl _ _).alloc (Nat.le_refl _) _⟩
  case round =>
    obtain ⟨j, hj, rfl, ho, hbl⟩ := hrel
    by_cases hlt : j < n
    · obtain ⟨b, off, hA, hbb, hcell⟩ := unhide HC (by omega)
      subst hA
      have q1 : (j : Int) < (n : Int) := by omega
      have q0 : (0 : Int) ≤ (j : Int) := by omega
      have hl : (mixG ps (List.replicate n noA) j).length = n := by rw [mixG_len _ _ _ (by simp [unhide HN])]; simp
      have pc := (hcell j hlt).below hbb hbl
      have HM := hide (mixG_succ noA ps (List.replicate n noA) j (by simp [unhide HN]) (by simpa using hlt))
      have HJ := hide hlt
      have HL := hide hl
      have HO := hide ho
      have HBL := hide hbl
      clear ho hbl hcell hbb hl hlt hj
      generalize hp : ps.getD j noA = p at *
      obtain ⟨x, y⟩ := p
      obtain ⟨c0, c1⟩ := pc
      dsimp only at c0 c1
      have H13 := hide (to67 x y wr)
      clear hp
      go_wp2_with fail
      refine (unhide H13).mono ?_
      rintro e w1 ⟨rfl, b1⟩
      have B1 := hide (bl_st b1 (unhide HBL))
      have ho1 := (b1.block _ (Array.getElem?_eq_some_iff.1 (unhide HO)).1).trans (unhide HO)
      have pm := cell_sltO ho1 j (by have := unhide HJ; have := unhide HL; omega)
      have y0 := free_sltO ho1 (j * 2)
      have y1 := free_sltO ho1 (j * 2 + 1)
      have P3 := hide (put_sltO ho1 j (by have := unhide HJ; have := unhide HL; omega) x y)
      rw [unhide HM] at P3
      have F3 := hide (show Below w.heap.size w (put2 w1 w.heap.size (j * 2) x y) from bl_set (bl_set (unhide B1) (Nat.le_refl _)) (Nat.le_refl _))
      clear b1 H13 ho1 c0 c1 HM
      generalize (mixG ps (List.replicate n noA) j).getD j noA = m at *
      obtain ⟨m0, m1⟩ := m
      obtain ⟨c0, c1⟩ := pm
      dsimp only at c0 c1
      go_wp2
      go_roundw
      case rel => exact ⟨j + 1, unhide HJ, by go_num, unhide P3, unhide F3⟩
      case measure => have := unhide HJ; simp [intOf]; omega
    · obtain rfl : j = n := by omega
      have hm := mixG_all ps (List.replicate j noA) (by simp [unhide HN])
      rw [List.length_replicate] at hm
      rw [hm] at ho
      have HO := hide ho
      have hbel := hide hbl
      clear ho hbl hm
      go_wp2
      go_ret
      refine ⟨_, rfl, .inr ⟨w.heap.size, j, [], ?_, Nat.le_refl _, (Array.getElem?_eq_some_iff.1 (unhide HO)).1, unhide HO, by rw [← unhide HN]; exact Nat.le_refl _⟩, unhide hbel⟩
      rw [← unhide HN]
      rfl
theorem eq69 (x y : Int) (w : World) :
    Calls Try.prog 69 #[saltV (x, y), saltV (x, y)] w fun e w' => e = .returned (.bool true) ∧ Below w.heap.size w w' := by
  have HB := hide (show Below w.heap.size w ((w.alloc (.cells #[.int .i64 x, .int .i64 y] 67)).alloc (.cells #[.int .i64 x, .int .i64 y] 67)) from bl_al (bl_al (Below.refl _ _)))
  go_enter Try.func69, Try.ntmps69
  go_wp2
  go_ret
  exact ⟨rfl, unhide HB⟩
theorem eq32 (a b : Value) (ps : List Slt) (w : World) (ha : saltsV w a ps) (hb : saltsV w b ps) (hn : ps.length ≤ 2097152) :
    Calls Try.prog 32 #[a, b] w fun e w' => e = .returned (.bool true) ∧ Below w.heap.size w w' := by
  obtain ⟨A, ca, rfl, hc⟩ := ha
  obtain ⟨A2, cb, rfl, hd⟩ := hb
  have HC := hide hc
  have HD := hide hd
  obtain ⟨n, hnx⟩ : ∃ n, n = ps.length := ⟨_, rfl⟩
  rw [← hnx] at hn HC HD ⊢
  clear hc hd hnx
  go_enter Try.func32, Try.ntmps32
  go_wp2
  go_loopw [5] (fun i wr => ∃ j : Nat, j ≤ n ∧ i = .int .i64 j ∧ Below w.heap.size w wr) (fun i _ => n - (intOf i).toNat)
  case atStart => exact ⟨0, by omega, rfl, Below.refl _ _⟩
  case round =>
    obtain ⟨j, hj, rfl, hbl⟩ := hrel
    have HB := hide hbl
    by_cases hlt : j < n
    · obtain ⟨b1, o1, hA, l1, hc1⟩ := unhide HC (by omega)
      obtain ⟨b2, o2, hA2, l2, hc2⟩ := unhide HD (by omega)
      subst hA hA2
      have q1 : (j : Int) < (n : Int) := by omega
      have q0 : (0 : Int) ≤ (j : Int) := by omega
      have PA := hide ((hc1 j hlt).below l1 hbl)
      have PB := hide ((hc2 j hlt).below l2 hbl)
      have LA := hide (Nat.lt_of_lt_of_le l1 hbl.size)
      have LB := hide (Nat.lt_of_lt_of_le l2 hbl.size)
      have HJ := hide hlt
      clear hc1 hc2 hlt hj l1 l2 hbl
      generalize ps.getD j noA = p at *
      obtain ⟨x, y⟩ := p
      go_wp2
      refine wp_region_held (S := fun W' => Below wr.heap.size wr W') (by kernel_rfl) ?_
      have hS0 : Below wr.heap.size wr { wr with drawn := wr.drawn + 1 } := below_drewN (Below.refl _ _) 1
      refine wpAnyH_take (i := 0) (oi := { dst := some 17, op := Op.move (Operand.tmp 0), type := 23, pos := "exact.go:658", after := #[], guard := none }) (v := ?_) rfl (by kernel_rfl) (by kernel_rfl) (by kernel_rfl) (fun _ _ _ h => h) (Or.inl ⟨by rfl, ?_⟩) hS0 ?_
      rotate_left
      · intro W hSw
        obtain ⟨c0, c1⟩ := (unhide PA).below (unhide LA) hSw
        obtain ⟨d0, d1⟩ := (unhide PB).below (unhide LB) hSw
        dsimp only at c0 c1 d0 d1
        go_simp
        try with_reducible rfl
      simp only [Act.put, List.setIfInBounds_toArray, List.set_cons_zero, List.set_cons_succ]
      refine wpAnyH_take (i := 1) (oi := { dst := some 18, op := Op.move (Operand.tmp 5), type := 3, pos := "exact.go:658", after := #[], guard := none }) (v := ?_) rfl (by kernel_rfl) (by kernel_rfl) (by kernel_rfl) (fun _ _ _ h => h) (Or.inl ⟨by rfl, ?_⟩) hS0 ?_
      rotate_left
      · intro W hSw
        obtain ⟨c0, c1⟩ := (unhide PA).below (unhide LA) hSw
        obtain ⟨d0, d1⟩ := (unhide PB).below (unhide LB) hSw
        dsimp only at c0 c1 d0 d1
        go_simp
        try with_reducible rfl
      simp only [Act.put, List.setIfInBounds_toArray, List.set_cons_zero, List.set_cons_succ]
      refine wpAnyH_take (i := 2) (oi := { dst := some 19, op := Op.indexAddr 23 (Operand.tmp 17) (Operand.tmp 18), type := 0, pos := "exact.go:658", after := #[{ on := 0, ground := Ground.data }, { on := 1, ground := Ground.data }], guard := none }) (v := ?_) rfl (by kernel_rfl) (by kernel_rfl) (by kernel_rfl) (fun _ _ _ h => h) (Or.inl ⟨by rfl, ?_⟩) hS0 ?_
      rotate_left
      · intro W hSw
        obtain ⟨c0, c1⟩ := (unhide PA).below (unhide LA) hSw
        obtain ⟨d0, d1⟩ := (unhide PB).below (unhide LB) hSw
        dsimp only at c0 c1 d0 d1
        go_simp
        try with_reducible rfl
      simp only [Act.put, List.setIfInBounds_toArray, List.set_cons_zero, List.set_cons_succ]
      refine wpAnyH_take (i := 3) (oi := { dst := some 20, op := Op.load 67 (Operand.tmp 19), type := 67, pos := "exact.go:658", after := #[{ on := 2, ground := Ground.data }], guard := none }) (v := ?_) rfl (by kernel_rfl) (by kernel_rfl) (by kernel_rfl) (fun _ _ _ h => h) (Or.inl ⟨by rfl, ?_⟩) hS0 ?_
      rotate_left
      · intro W hSw
        obtain ⟨c0, c1⟩ := (unhide PA).below (unhide LA) hSw
        obtain ⟨d0, d1⟩ := (unhide PB).below (unhide LB) hSw
        dsimp only at c0 c1 d0 d1
        go_simp
        try with_reducible rfl
      simp only [Act.put, List.setIfInBounds_toArray, List.set_cons_zero, List.set_cons_succ]
      refine wpAnyH_take (i := 4) (oi := { dst := some 21, op := Op.move (Operand.tmp 1), type := 23, pos := "exact.go:658", after := #[], guard := none }) (v := ?_) rfl (by kernel_rfl) (by kernel_rfl) (by kernel_rfl) (fun _ _ _ h => h) (Or.inl ⟨by rfl, ?_⟩) hS0 ?_
      rotate_left
      · intro W hSw
        obtain ⟨c0, c1⟩ := (unhide PA).below (unhide LA) hSw
        obtain ⟨d0, d1⟩ := (unhide PB).below (unhide LB) hSw
        dsimp only at c0 c1 d0 d1
        go_simp
        try with_reducible rfl
      simp only [Act.put, List.setIfInBounds_toArray, List.set_cons_zero, List.set_cons_succ]
      refine wpAnyH_take (i := 5) (oi := { dst := some 22, op := Op.move (Operand.tmp 5), type := 3, pos := "exact.go:658", after := #[], guard := none }) (v := ?_) rfl (by kernel_rfl) (by kernel_rfl) (by kernel_rfl) (fun _ _ _ h => h) (Or.inl ⟨by rfl, ?_⟩) hS0 ?_
      rotate_left
      · intro W hSw
        obtain ⟨c0, c1⟩ := (unhide PA).below (unhide LA) hSw
        obtain ⟨d0, d1⟩ := (unhide PB).below (unhide LB) hSw
        dsimp only at c0 c1 d0 d1
        go_simp
        try with_reducible rfl
      simp only [Act.put, List.setIfInBounds_toArray, List.set_cons_zero, List.set_cons_succ]
      refine wpAnyH_take (i := 6) (oi := { dst := some 23, op := Op.indexAddr 23 (Operand.tmp 21) (Operand.tmp 22), type := 0, pos := "exact.go:658", after := #[{ on := 4, ground := Ground.data }, { on := 5, ground := Ground.data }], guard := none }) (v := ?_) rfl (by kernel_rfl) (by kernel_rfl) (by kernel_rfl) (fun _ _ _ h => h) (Or.inl ⟨by rfl, ?_⟩) hS0 ?_
      rotate_left
      · intro W hSw
        obtain ⟨c0, c1⟩ := (unhide PA).below (unhide LA) hSw
        obtain ⟨d0, d1⟩ := (unhide PB).below (unhide LB) hSw
        dsimp only at c0 c1 d0 d1
        go_simp
        try with_reducible rfl
      simp only [Act.put, List.setIfInBounds_toArray, List.set_cons_zero, List.set_cons_succ]
      refine wpAnyH_take (i := 7) (oi := { dst := some 24, op := Op.load 67 (Operand.tmp 23), type := 67, pos := "exact.go:658", after := #[{ on := 6, ground := Ground.data }], guard := none }) (v := ?_) rfl (by kernel_rfl) (by kernel_rfl) (by kernel_rfl) (fun _ _ _ h => h) (Or.inl ⟨by rfl, ?_⟩) hS0 ?_
      rotate_left
      · intro W hSw
        obtain ⟨c0, c1⟩ := (unhide PA).below (unhide LA) hSw
        obtain ⟨d0, d1⟩ := (unhide PB).below (unhide LB) hSw
        dsimp only at c0 c1 d0 d1
        go_simp
        try with_reducible rfl
      simp only [Act.put, List.setIfInBounds_toArray, List.set_cons_zero, List.set_cons_succ]
      refine wpAnyH_one (i := 8) (by kernel_rfl) ?_
      refine wpOp_step (o := { dst := some 25, op := Op.call { callee := Callee.value (Operand.func 69), args := #[Operand.tmp 20, Operand.tmp 24], argTypes := #[67, 67] }, type := 4, pos := "exact.go:658", after := #[{ on := 3, ground := Ground.data }, { on := 7, ground := Ground.data }], guard := none }) rfl fun K' hK => step_enterW (by rfl) 69 #[saltV (x, y), saltV (x, y)] (by go_simp) ((eq69 x y _).mono ?_)
      rintro e w1 ⟨rfl, b1⟩
      have s1 := bl_st b1 hS0
      clear b1
      refine ⟨_, rfl, hK _ _ ⟨s1, ?_⟩⟩
      simp only [Act.put, List.setIfInBounds_toArray, List.set_cons_zero, List.set_cons_succ]
      refine wpAnyH_take (i := 9) (oi := { dst := some 26, op := Op.unOp UnOp.not 4 (Operand.tmp 25), type := 4, pos := "exact.go:658", after := #[{ on := 8, ground := Ground.data }], guard := none }) (v := ?_) rfl (by kernel_rfl) (by kernel_rfl) (by kernel_rfl) (fun _ _ _ h => h) (Or.inl ⟨by rfl, ?_⟩) s1 ?_
      rotate_left
      · intro W hSw
        obtain ⟨c0, c1⟩ := (unhide PA).below (unhide LA) hSw
        obtain ⟨d0, d1⟩ := (unhide PB).below (unhide LB) hSw
        dsimp only at c0 c1 d0 d1
        go_simp
        try with_reducible rfl
      simp only [Act.put, List.setIfInBounds_toArray, List.set_cons_zero, List.set_cons_succ]
      refine wpAnyH_done (by kernel_rfl) ?_ _
      have B1 := hide (bl_st s1 (unhide HB))
      clear s1 hS0
      go_wp2
      go_roundw
      case rel => exact ⟨j + 1, unhide HJ, by go_num, unhide B1⟩
      case measure => have := unhide HJ; simp [intOf]; omega
    · obtain rfl : j = n := by omega
      clear hlt hbl
      go_wp2
      go_ret
      exact ⟨rfl, unhide HB⟩
def marksA (k n : Nat) : List Slt := (List.range n).map fun i : Nat => ((k : Int) + (i : Int) * 2, (k : Int) + (i : Int) * 2 + 1)
theorem marksA_len (k n : Nat) : (marksA k n).length = n := by simp [marksA]
theorem marksA_at (k n i : Nat) (h : i < n) : (marksA k n).getD i noA = ((k : Int) + (i : Int) * 2, (k : Int) + (i : Int) * 2 + 1) := by
  rw [List.getD_eq_getElem?_getD, marksA, List.getElem?_map, List.getElem?_range h]; rfl
theorem mark33 (lo hi : Nat) (v : Value) (ps : List Slt) (k : Nat) (w : World) (hv : ownA lo hi w v ps) (hn : ps.length ≤ 1048577) (hk : k ≤ 16777216) :
    Calls Try.prog 33 #[v, .int .i64 (k : Int)] w fun e w' => e = .returned (.int .i64 ((k : Int) + (ps.length : Int) * 2)) ∧ ownA lo hi w' v (marksA k ps.length) ∧ TouchS v w w' := by
  obtain ⟨rfl, rfl⟩ | ⟨g, cap, rest, rfl, hg, hh, hc, hcp⟩ := hv
  · go_enter Try.func33, Try.ntmps33
    go_wp2
    refine wp_loop_rounds 1 ?_
    rw [rounds_succ]; go_wp2
    go_ret
    exact ⟨by simp, .inl ⟨rfl, rfl⟩, ⟨rfl, rfl, rfl, Nat.le_refl _, fun _ _ _ => rfl⟩⟩
  · obtain ⟨n, hnx⟩ : ∃ n, n = ps.length := ⟨_, rfl⟩
    rw [← hnx] at hn hcp ⊢
    have HCP := hide hcp
    have HN := hide hnx
    have HG := hide hg
    have HH := hide hh
    have HC : Hid (w.heap[g]? = some (sltO (mixG (marksA k n) ps 0) rest)) := hide (by rw [mixG_zero]; exact hc)
    have k0 : (0 : Int) ≤ (k : Int) := by omega
    have k1 : (k : Int) ≤ 16777216 := by omega
    clear hc hnx hg hcp hh hk
    go_enter Try.func33, Try.ntmps33
    go_wp2
    go_loopw [1, 5] (fun m i wr => ∃ j : Nat, j ≤ n ∧ i = .int .i64 j ∧ m = .int .i64 ((k : Int) + (j : Int) * 2) ∧ wr.heap[g]? = some (sltO (mixG (marksA k n) ps j) rest) ∧ Lone g w wr) (fun _ i _ => n - (intOf i).toNat)
    case atStart => exact ⟨0, by omega, rfl, by simp, unhide HC, Lone.refl _ _⟩
    case round =>
      obtain ⟨j, hj, rfl, rfl, ho, hlo⟩ := hrel
      by_cases hlt : j < n
      · have q1 : (j : Int) < (n : Int) := by omega
        have q0 : (0 : Int) ≤ (j : Int) := by omega
        have q2 : (n : Int) ≤ 1048577 := by omega
        have hl : (mixG (marksA k n) ps j).length = n := by rw [mixG_len _ _ _ (by rw [marksA_len]; exact unhide HN)]; exact (unhide HN).symm
        have HMS := hide (mixG_succ noA (marksA k n) ps j (by rw [marksA_len]; exact unhide HN) (by rw [← unhide HN]; exact hlt))
        rw [marksA_at k n j hlt] at HMS
        obtain ⟨c0, c1⟩ := cell_sltO ho j (by omega)
        have y0 := free_sltO ho (j * 2)
        have h1 := set_sltO ho (flat_set0 _ j rest ((k : Int) + (j : Int) * 2) (by omega))
        have l1 := hlo.trans (lone_setCell g (j * 2) wr (.int .i64 ((k : Int) + (j : Int) * 2)))
        have y1 := free_sltO h1 (j * 2 + 1)
        obtain ⟨_, d1⟩ := cell_sltO h1 j (by rw [List.length_set]; omega)
        have h2 := set_sltO h1 (flat_set1 _ j rest ((k : Int) + (j : Int) * 2 + 1) (by rw [List.length_set]; omega))
        have l2 := l1.trans (lone_setCell g (j * 2 + 1) _ (.int .i64 ((k : Int) + (j : Int) * 2 + 1)))
        simp only [List.set_set, getD_set_self (show j < (mixG (marksA k n) ps j).length by omega)] at h2 d1
        rw [unhide HMS] at h2
        have HJ := hide hlt
        have HO := hide h2
        have HL := hide l2
        clear hlt hj ho hlo HC h1 h2 l1 l2 hl HMS c1
        generalize (mixG (marksA k n) ps j).getD j noA = m at *
        obtain ⟨m0, m1⟩ := m
        dsimp only at *
        go_wp2
        go_roundw
        case rel => exact ⟨j + 1, unhide HJ, by go_num, by go_num, unhide HO, unhide HL⟩
        case measure => have := unhide HJ; simp [intOf]; omega
      · obtain rfl : j = n := by omega
        have hm := mixG_all (marksA k j) ps (by rw [marksA_len]; exact unhide HN)
        rw [← unhide HN] at hm
        rw [hm] at ho
        have HO := hide ho
        have HL := hide hlo
        clear hm ho hlo hlt
        go_wp2
        go_ret
        refine ⟨rfl, .inr ⟨g, cap, rest, by rw [marksA_len], unhide HG, unhide HH, unhide HO, by rw [marksA_len]; exact unhide HCP⟩, ⟨(unhide HL).os, (unhide HL).tape, (unhide HL).output, (unhide HL).size, fun k hk hne => (unhide HL).block k hk (fun e => hne (by rw [e]; rfl))⟩⟩
theorem held71 (v : Value) (k n : Nat) (w : World) (hv : saltsV w v (marksA k n)) (hn : n ≤ 1048577) (hk : k ≤ 16777216) :
    Calls Try.prog 71 #[v, .int .i64 (k : Int)] w fun e w' => e = .returned (.int .i64 ((k : Int) + (n : Int) * 2)) ∧ w' = w := by
  obtain ⟨A, cap, rfl, hc⟩ := hv
  rw [marksA_len] at hc ⊢
  have HC := hide hc
  have k0 : (0 : Int) ≤ (k : Int) := by omega
  have k1 : (k : Int) ≤ 16777216 := by omega
  clear hc hk
  go_enter Try.func71, Try.ntmps71
  go_wp2
  go_loopw [1, 5] (fun m i wr => ∃ j : Nat, j ≤ n ∧ i = .int .i64 j ∧ m = .int .i64 ((k : Int) + (j : Int) * 2) ∧ wr = w) (fun _ i _ => n - (intOf i).toNat)
  case atStart => exact ⟨0, by omega, rfl, by simp, rfl⟩
  case round =>
    obtain ⟨j, hj, rfl, rfl, rfl⟩ := hrel
    by_cases hlt : j < n
    · obtain ⟨b, off, hA, hlb, hcell⟩ := unhide HC (by omega)
      subst hA
      have q1 : (j : Int) < (n : Int) := by omega
      have q0 : (0 : Int) ≤ (j : Int) := by omega
      have q2 : (n : Int) ≤ 1048577 := by omega
      have pc := hcell j hlt
      rw [marksA_at k n j hlt] at pc
      obtain ⟨c0, c1⟩ := pc
      have HJ := hide hlt
      clear hcell hlt hj hlb
      dsimp only at *
      go_wp2
      go_roundw
      case rel => exact ⟨j + 1, unhide HJ, by go_num, by go_num, by first | rfl | trivial⟩
      case measure => have := unhide HJ; simp [intOf]; omega
    · obtain rfl : j = n := by omega
      clear hlt
      go_wp2
      go_ret
      exact ⟨rfl, rfl⟩
end Go.Proofs.Ythckgccfjpgbaaa
