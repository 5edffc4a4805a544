/- Posts: slices of them, what they read as, which of them a call made; the laws' helpers over them. -/
import Derived.Test.YtgjkflhpnppkbaaBase
namespace Go.Proofs.Ytgjkflhpnppkbaa
open Go.RowKit
set_option maxHeartbeats 4000000
set_option maxRecDepth 20000
/-- a post: round, layer, root -/
abbrev Pst := Int × Int × ByteArray
abbrev noP : Pst := (0, 0, noS)
abbrev postV (p : Pst) : Value := .agg #[.int .i64 p.1, .int .i64 p.2.1, .string p.2.2]
/-- a post's cells in block b from a place on -/
structure PC (b o : Nat) (p : Pst) (W : World) : Prop where
  c0 : W.cell? ⟨b, o, none⟩ = some (.int .i64 p.1)
  c1 : W.cell? ⟨b, o + 1, none⟩ = some (.int .i64 p.2.1)
  c2 : W.cell? ⟨b, o + 2, none⟩ = some (.string p.2.2)
/-- a slice that reads as these posts -/
def postsV (w : World) (v : Value) (ps : List Pst) : Prop :=
  ∃ A cap, v = .slice A ps.length cap ∧ (0 < ps.length → ∃ b off, A = some ⟨b, off, none⟩ ∧ b < w.heap.size ∧ ∀ i, i < ps.length → PC b (off + i * 3) (ps.getD i noP) w)
theorem pc_new (w : World) (r l : Int) (t : ByteArray) (ty : TypeId) : PC w.heap.size 0 (r, l, t) (w.alloc (.cells #[.int .i64 r, .int .i64 l, .string t] ty)) := by
  refine ⟨?_, ?_, ?_⟩ <;> rw [Go.cell_of_row _ _ _ _ _ _ (heap_alloc_new w _)] <;> rfl
theorem PC.below {b o : Nat} {p : Pst} {W W' : World} (h : PC b o p W) (hl : b < W.heap.size) (hb : Below W.heap.size W W') : PC b o p W' :=
  ⟨(cell_below hb hl).trans h.c0, (cell_below hb hl).trans h.c1, (cell_below hb hl).trans h.c2⟩
theorem sz11 (r l L : Int) (t : ByteArray) (w : World) (hL : 0 ≤ L) (hL' : L ≤ 1048576) (ht : t.size ≤ maxLen) :
    Calls Try.prog 11 #[postV (r, l, t), .int .i64 L] w fun e w' => ∃ z : Int, e = .returned (.int .i64 z) ∧ (z < 0 ∨ 0 ≤ z ∧ z ≤ L) ∧ Below w.heap.size w w' := by
  obtain ⟨c0, c1, c2⟩ := pc_new w r l t 30
  have HB := hide (show Below w.heap.size w (w.alloc (.cells #[.int .i64 r, .int .i64 l, .string t] 30)) from bl_al (Below.refl _ _))
  unfold maxLen at ht
  have z0 : (0 : Int) ≤ (t.size : Int) := by omega
  have z1 : (t.size : Int) ≤ 9223372036854775807 := by omega
  clear ht
  by_cases h : L < (t.size : Int)
  · go_enter Try.func11, Try.ntmps11
    go_wp2
    go_ret
    exact ⟨_, rfl, .inl (by omega), unhide HB⟩
  · have h' : (t.size : Int) ≤ L := by omega
    clear h
    go_enter Try.func11, Try.ntmps11
    go_wp2
    go_ret
    exact ⟨_, rfl, .inr (by omega), unhide HB⟩
theorem sz6 (v : Value) (ps : List Pst) (w : World) (hv : postsV w v ps) (hl : ps.length ≤ maxLen) (hs : ∀ p ∈ ps, p.2.2.size ≤ maxLen) :
    Calls Try.prog 6 #[v, .int .i64 1048576] w fun e w' => ∃ z : Int, e = .returned (.int .i64 z) ∧ (z < 0 ∨ 0 ≤ z ∧ z ≤ 1048576 ∧ ps.length ≤ 1048576) ∧ Below w.heap.size w w' := by
  obtain ⟨A, cap, rfl, hc⟩ := hv
  have HC := hide hc
  have HS := hide hs
  clear hc hs
  obtain ⟨n, hnx⟩ : ∃ n, n = ps.length := ⟨_, rfl⟩
  rw [← hnx] at hl HC ⊢
  have HN := hide hnx
  unfold maxLen at hl
  have n0 : (0 : Int) ≤ (n : Int) := by omega
  have n1 : (n : Int) ≤ 9223372036854775807 := by omega
  clear hnx
  by_cases hb : 1048576 < n
  · have q : (1048576 : Int) < (n : Int) := by omega
    clear hb hl
    go_enter Try.func6, Try.ntmps6
    go_wp2
    go_ret
    exact ⟨_, rfl, .inl (by omega), Below.refl _ _⟩
  · have q : (n : Int) ≤ 1048576 := by omega
    have HB := hide (show n ≤ 1048576 by omega)
    clear hb hl n1
    go_enter Try.func6, Try.ntmps6
    go_wp2
    go_loopw [1, 5] (fun left i wr => ∃ (j : Nat) (l : Int), j ≤ n ∧ i = .int .i64 j ∧ left = .int .i64 l ∧ 0 ≤ l ∧ l ≤ 1048576 ∧ Below w.heap.size w wr) (fun _ i _ => n - (intOf i).toNat)
    case atStart => exact ⟨0, _, by omega, rfl, rfl, by omega, by omega, Below.refl _ _⟩
    case round =>
      obtain ⟨j, l, hj, rfl, rfl, l0, l1, hbl⟩ := hrel
      by_cases hlt : j < n
      · obtain ⟨b, off, hA, hlb, hcell⟩ := unhide HC (by omega)
        subst hA
        have q1 : (j : Int) < (n : Int) := by omega
        have q0 : (0 : Int) ≤ (j : Int) := by omega
        have sz : (ps.getD j noP).2.2.size ≤ maxLen := unhide HS _ (by rw [List.getD_eq_getElem?_getD, List.getElem?_eq_getElem (by rw [← unhide HN]; exact hlt)]; exact List.getElem_mem _)
        have pc := (hcell j hlt).below hlb hbl
        have HJ := hide hlt
        have HBL := hide hbl
        have HL0 := hide l0
        have HL1 := hide l1
        clear hcell hlt hj hbl
        generalize ps.getD j noP = p at *
        obtain ⟨r, ly, t⟩ := p
        obtain ⟨c0, c1, c2⟩ := pc
        dsimp only at c0 c1 c2
        have H11 := hide (sz11 r ly l t wr l0 l1 sz)
        clear sz
        go_wp2_with fail
        refine (unhide H11).mono ?_
        rintro e w1 ⟨z, rfl, hz, b1⟩
        have B1 := hide (bl_st b1 (unhide HBL))
        have HZ := hide hz
        clear b1 H11 hz c0 c1 c2 l0 l1
        by_cases hneg : z < 0
        · go_wp2
          go_ret
          exact ⟨_, rfl, .inl (by omega), unhide B1⟩
        · have hge : 0 ≤ z := by omega
          have HZ' := hide (Or.resolve_left (unhide HZ) hneg)
          clear hneg
          go_wp2
          go_roundw
          case rel => exact ⟨j + 1, _, unhide HJ, by go_num, rfl, (unhide HZ').1, by have := (unhide HZ').2; have := unhide HL1; omega, unhide B1⟩
          case measure => have := unhide HJ; simp [intOf]; omega
      · obtain rfl : j = n := by omega
        have HBL := hide hbl
        clear hlt hbl
        go_wp2
        go_ret
        exact ⟨_, rfl, .inr ⟨l0, l1, unhide HB⟩, unhide HBL⟩

def flatP : List Pst → List Value
  | [] => []
  | p :: ps => .int .i64 p.1 :: .int .i64 p.2.1 :: .string p.2.2 :: flatP ps
theorem flat_len : ∀ ps : List Pst, (flatP ps).length = ps.length * 3
  | [] => rfl
  | p :: ps => by simp [flatP, flat_len ps]; omega
theorem flat_at : ∀ (ps : List Pst) (i : Nat) (rest : List Value), i < ps.length → (flatP ps ++ rest)[i * 3]? = some (.int .i64 (ps.getD i noP).1) ∧ (flatP ps ++ rest)[i * 3 + 1]? = some (.int .i64 (ps.getD i noP).2.1) ∧ (flatP ps ++ rest)[i * 3 + 2]? = some (.string (ps.getD i noP).2.2)
  | [], i, rest, h => by simp at h
  | p :: ps, 0, rest, _ => ⟨rfl, rfl, rfl⟩
  | p :: ps, i + 1, rest, h => by
    have ih := flat_at ps i rest (by simpa using h)
    rw [show (i + 1) * 3 = i * 3 + 1 + 1 + 1 by omega]
    exact ih
theorem flat_set0 : ∀ (ps : List Pst) (i : Nat) (rest : List Value) (x : Int), i < ps.length → (flatP ps ++ rest).set (i * 3) (.int .i64 x) = flatP (ps.set i (x, (ps.getD i noP).2)) ++ rest
  | [], i, rest, x, h => by simp at h
  | p :: ps, 0, rest, x, _ => rfl
  | p :: ps, i + 1, rest, x, h => by
    have ih := flat_set0 ps i rest x (by simpa using h)
    rw [show (i + 1) * 3 = i * 3 + 1 + 1 + 1 by omega]
    exact congrArg (fun l => Value.int .i64 p.1 :: .int .i64 p.2.1 :: .string p.2.2 :: l) ih
theorem flat_set1 : ∀ (ps : List Pst) (i : Nat) (rest : List Value) (x : Int), i < ps.length → (flatP ps ++ rest).set (i * 3 + 1) (.int .i64 x) = flatP (ps.set i ((ps.getD i noP).1, x, (ps.getD i noP).2.2)) ++ rest
  | [], i, rest, x, h => by simp at h
  | p :: ps, 0, rest, x, _ => rfl
  | p :: ps, i + 1, rest, x, h => by
    have ih := flat_set1 ps i rest x (by simpa using h)
    rw [show (i + 1) * 3 = i * 3 + 1 + 1 + 1 by omega]
    exact congrArg (fun l => Value.int .i64 p.1 :: .int .i64 p.2.1 :: .string p.2.2 :: l) ih
theorem flat_set2 : ∀ (ps : List Pst) (i : Nat) (rest : List Value) (x : ByteArray), i < ps.length → (flatP ps ++ rest).set (i * 3 + 2) (.string x) = flatP (ps.set i ((ps.getD i noP).1, (ps.getD i noP).2.1, x)) ++ rest
  | [], i, rest, x, h => by simp at h
  | p :: ps, 0, rest, x, _ => rfl
  | p :: ps, i + 1, rest, x, h => by
    have ih := flat_set2 ps i rest x (by simpa using h)
    rw [show (i + 1) * 3 = i * 3 + 1 + 1 + 1 by omega]
    exact congrArg (fun l => Value.int .i64 p.1 :: .int .i64 p.2.1 :: .string p.2.2 :: l) ih
def pstO (ps : List Pst) (rest : List Value) : Obj := .cells (flatP ps ++ rest).toArray 34 (0, 0)
/-- posts in a block of their own, between lo and hi -/
def ownP (lo hi : Nat) (w : World) (v : Value) (ps : List Pst) : Prop :=
  (v = .slice none 0 0 ∧ ps = []) ∨ ∃ g cap rest, v = .slice (some ⟨g, 0, none⟩) ps.length cap ∧ lo ≤ g ∧ g < hi ∧ w.heap[g]? = some (pstO ps rest) ∧ ps.length ≤ cap
theorem cell_pstO {w : World} {g : Nat} {ps : List Pst} {rest : List Value} (h : w.heap[g]? = some (pstO ps rest)) (i : Nat) (hi : i < ps.length) : PC g (i * 3) (ps.getD i noP) w := by
  obtain ⟨h0, h1, h2⟩ := flat_at ps i rest hi
  refine ⟨?_, ?_, ?_⟩
  all_goals
    unfold World.cell?
    rw [show (⟨g, _, none⟩ : Addr).block = g from rfl, h]
    simp only [pstO]
    simpa using by assumption
theorem free_pstO {w : World} {g : Nat} {ps : List Pst} {rest : List Value} (h : w.heap[g]? = some (pstO ps rest)) (i : Nat) : w.frozen? ⟨g, i, none⟩ = false := by
  unfold World.frozen?
  rw [show (⟨g, i, none⟩ : Addr).block = g from rfl, h]
  simp [pstO]
theorem set_pstO {w : World} {g : Nat} {ps qs : List Pst} {rest : List Value} {i : Nat} {v : Value} (h : w.heap[g]? = some (pstO ps rest)) (hs : (flatP ps ++ rest).set i v = flatP qs ++ rest) : (w.setCell ⟨g, i, none⟩ v).heap[g]? = some (pstO qs rest) := by
  simp only [World.setCell, Array.getElem?_modify, if_true, h, Option.map_some, pstO]
  simp [hs]
theorem getD_set_self {ps : List Pst} {i : Nat} {p : Pst} (h : i < ps.length) : (ps.set i p).getD i noP = p := by
  rw [List.getD_eq_getElem?_getD, List.getElem?_set_self h]; rfl
/-- three cells of a post, one after the other -/
abbrev put3 (W : World) (g o : Nat) (r l : Int) (t : ByteArray) : World := ((W.setCell ⟨g, o, none⟩ (.int .i64 r)).setCell ⟨g, o + 1, none⟩ (.int .i64 l)).setCell ⟨g, o + 2, none⟩ (.string t)
theorem put_pstO {w : World} {g : Nat} {ps : List Pst} {rest : List Value} (h : w.heap[g]? = some (pstO ps rest)) (i : Nat) (hi : i < ps.length) (r l : Int) (t : ByteArray) : (put3 w g (i * 3) r l t).heap[g]? = some (pstO (ps.set i (r, l, t)) rest) := by
  have h0 := set_pstO h (flat_set0 ps i rest r hi)
  have h1 := set_pstO h0 (flat_set1 _ i rest l (by simpa using hi))
  have h2 := set_pstO h1 (flat_set2 _ i rest t (by simpa using hi))
  simp only [List.set_set, hi, getD_set_self] at h2
  exact h2
theorem ownP.posts {lo hi : Nat} {w : World} {v : Value} {ps : List Pst} (h : ownP lo hi w v ps) : postsV w v ps := by
  obtain ⟨rfl, rfl⟩ | ⟨g, cap, rest, rfl, hg, hh, hc, hcp⟩ := h
  · exact ⟨none, 0, rfl, fun h => by simp at h⟩
  · exact ⟨_, _, rfl, fun _ => ⟨g, 0, rfl, (Array.getElem?_eq_some_iff.1 hc).1, fun i hi => by rw [Nat.zero_add]; exact cell_pstO hc i hi⟩⟩
theorem postsV.below {w w' : World} {v : Value} {ps : List Pst} (h : postsV w v ps) (hb : Below w.heap.size w w') : postsV w' v ps := by
  obtain ⟨A, cap, rfl, hc⟩ := h
  refine ⟨A, cap, rfl, fun hn => ?_⟩
  obtain ⟨b, off, rfl, hl, hc⟩ := hc hn
  exact ⟨b, off, rfl, Nat.lt_of_lt_of_le hl hb.size, fun i hi => (hc i hi).below hl hb⟩
theorem ownP.below {lo hi : Nat} {w w' : World} {v : Value} {ps : List Pst} (h : ownP lo hi w v ps) (hb : Below w.heap.size w w') : ownP lo hi w' v ps := by
  obtain h | ⟨g, cap, rest, rfl, hg, hh, hc, hcp⟩ := h
  · exact .inl h
  · exact .inr ⟨g, cap, rest, rfl, hg, hh, (hb.block g (Array.getElem?_eq_some_iff.1 hc).1).trans hc, hcp⟩
theorem ownP.wide {lo hi lo' hi' : Nat} {w : World} {v : Value} {ps : List Pst} (h : ownP lo hi w v ps) (h1 : lo' ≤ lo) (h2 : hi ≤ hi') : ownP lo' hi' w v ps := by
  obtain h | ⟨g, cap, rest, rfl, hg, hh, hc, hcp⟩ := h
  · exact .inl h
  · exact .inr ⟨g, cap, rest, rfl, by omega, by omega, hc, hcp⟩
theorem ownP.lies {lo hi : Nat} {w : World} {v : Value} {ps : List Pst} (h : ownP lo hi w v ps) : liesIn lo hi v := by
  intro g hg
  obtain ⟨rfl, _⟩ | ⟨g', cap, rest, rfl, h1, h2, _⟩ := h
  · cases hg
  · cases hg; exact ⟨h1, h2⟩
theorem ownP.touchS {lo hi lo' hi' : Nat} {w w' : World} {u v : Value} {ps : List Pst} (h : ownP lo hi w u ps) (ht : TouchS v w w') (hl : liesIn lo' hi' v) (hd : hi ≤ lo' ∨ hi' ≤ lo) : ownP lo hi w' u ps := by
  obtain h | ⟨g, cap, rest, rfl, hg, hh, hc, hcp⟩ := h
  · exact .inl h
  · refine .inr ⟨g, cap, rest, rfl, hg, hh, (ht.block g (Array.getElem?_eq_some_iff.1 hc).1 ?_).trans hc, hcp⟩
    intro e
    have := hl g e
    omega
theorem info34 : (Try.prog.info? 34).map (fun i => (i.zero, i.size, i.bytes)) = some (some (.agg #[.int .i64 0, .int .i64 0, .string ⟨#[]⟩]), 3, 32) := by kernel_rfl
theorem flat_rep : ∀ n : Nat, flatP (List.replicate n noP) = (List.range (n * 3)).map fun i => (#[Value.int .i64 0, .int .i64 0, .string ⟨#[]⟩] : Array Value).getD (i % 3) default
  | 0 => rfl
  | n + 1 => by
    rw [List.replicate_succ', show flatP (List.replicate n noP ++ [noP]) = flatP (List.replicate n noP) ++ flatP [noP] from ?_, flat_rep n, show (n + 1) * 3 = n * 3 + 3 by omega, List.range_add, List.map_append]
    · congr 1
      simp only [List.map_map]
      have e : ∀ k, (n * 3 + k) % 3 = k % 3 := fun k => by omega
      simp [flatP, List.range_succ, Function.comp_def, e]
    · generalize List.replicate n noP = l
      induction l with
      | nil => rfl
      | cons p l ih => simp [flatP, ih]
theorem make_posts (n : Nat) (hn : n ≤ 2097152) (w : World) : (Instr.makeSlice 25 (.int .i64 (n : Int)) (.int .i64 (n : Int))).run Try.prog w = .ok (.slice (some ⟨w.heap.size, 0, none⟩) n n) (w.alloc (pstO (List.replicate n noP) [])) := by
  obtain ⟨k0, hk0, kz0, kz1, kz2⟩ := info_parts info34
  have h := run_makeSlice w (P := Try.prog) 25 34 k0 (.agg #[.int .i64 0, .int .i64 0, .string ⟨#[]⟩]) Try.underlying25 hk0 kz0 .i64 .i64 (n : Int) (n : Int) (by omega) (Int.le_refl _) (by rw [kz1]; omega) (by rw [kz2]; omega) (by omega)
  rw [kz1, Int.toNat_natCast] at h
  rw [h, pstO, flat_rep, List.append_nil]
  congr 3
  apply Array.ext_getElem?
  intro i
  by_cases hi : i < n * 3
  · simp [madeCells, Value.cells, hi]
  · simp [madeCells, Value.cells, hi]
theorem to13 (r l : Int) (t : ByteArray) (w : World) :
    Calls Try.prog 13 #[postV (r, l, t)] w fun e w' => e = .returned (postV (r, l, t)) ∧ Below w.heap.size w w' := by
  obtain ⟨c0, c1, c2⟩ := pc_new w r l t 30
  go_enter Try.func13, Try.ntmps13
  go_wp2
  refine bodyPost_ret (v := postV (r, l, t)) ?_ rfl ⟨rfl, ?_⟩
  · exact results_cell_row rfl _ _ (w.heap.size + 1) 34 _ (0, 0) _ rfl (by rw [Below.heap_alloc _ _ _ (by simp)]; exact heap_at _ _ _ (by simp)) Try.underlying34 rfl (by kernel_rfl)
  · exact bl_al (bl_al (bl_al (Below.refl _ _)))
theorem to8 (v : Value) (ps : List Pst) (w : World) (hv : postsV w v ps) (hn : ps.length ≤ 2097152) :
    Calls Try.prog 8 #[v] w fun e w' => ∃ r, e = .returned r ∧ ownP w.heap.size w'.heap.size w' r ps ∧ Below w.heap.size w w' := by
  obtain ⟨A, cap, rfl, hc⟩ := hv
  have HC := hide hc
  obtain ⟨n, hnx⟩ : ∃ n, n = ps.length := ⟨_, rfl⟩
  rw [← hnx] at hn HC ⊢
  have HN := hide hnx
  have mk := make_posts n (by omega)
  clear hc hnx
  go_enter Try.func8, Try.ntmps8
  go_wp2
  clear mk
  go_loopw [4] (fun i wr => ∃ j : Nat, j ≤ n ∧ i = .int .i64 j ∧ wr.heap[w.heap.size]? = some (pstO (mixG ps (List.replicate n noP) j) []) ∧ Below w.heap.size w wr) (fun i _ => n - (intOf i).toNat)
  case atStart => exact ⟨0, by omega, rfl, by rw [mixG_zero, heap_at _ _ _ rfl], (Below.refl _ _).alloc (Nat.le_refl _) _⟩
  case round =>
    obtain ⟨j, hj, rfl, ho, hbl⟩ := hrel
    by_cases hlt : j < n
    · obtain ⟨b, off, hA, hbb, hcell⟩ := unhide HC (by omega)
      subst hA
      have q1 : (j : Int) < (n : Int) := by omega
      have q0 : (0 : Int) ≤ (j : Int) := by omega
      have hl : (mixG ps (List.replicate n noP) j).length = n := by rw [mixG_len _ _ _ (by simp [unhide HN])]; simp
      have pc := (hcell j hlt).below hbb hbl
      have HM := hide (mixG_succ noP ps (List.replicate n noP) j (by simp [unhide HN]) (by simpa using hlt))
      have HJ := hide hlt
      have HL := hide hl
      have HO := hide ho
      have HBL := hide hbl
      clear ho hbl hcell hbb hl hlt hj
      generalize hp : ps.getD j noP = p at *
      obtain ⟨r, l, t⟩ := p
      obtain ⟨c0, c1, c2⟩ := pc
      dsimp only at c0 c1 c2
      have H13 := hide (to13 r l t wr)
      clear hp
      go_wp2_with fail
      refine (unhide H13).mono ?_
      rintro e w1 ⟨rfl, b1⟩
      have B1 := hide (bl_st b1 (unhide HBL))
      have ho1 := (b1.block _ (Array.getElem?_eq_some_iff.1 (unhide HO)).1).trans (unhide HO)
      have pm := cell_pstO ho1 j (by have := unhide HJ; have := unhide HL; omega)
      have y0 := free_pstO ho1 (j * 3)
      have y1 := free_pstO ho1 (j * 3 + 1)
      have y2 := free_pstO ho1 (j * 3 + 2)
      have P3 := hide (put_pstO ho1 j (by have := unhide HJ; have := unhide HL; omega) r l t)
      rw [unhide HM] at P3
      have F3 := hide (show Below w.heap.size w (put3 w1 w.heap.size (j * 3) r l t) from bl_set (bl_set (bl_set (unhide B1) (Nat.le_refl _)) (Nat.le_refl _)) (Nat.le_refl _))
      clear b1 H13 ho1 c0 c1 c2 HM
      generalize (mixG ps (List.replicate n noP) j).getD j noP = m at *
      obtain ⟨m0, m1, m2⟩ := m
      obtain ⟨c0, c1, c2⟩ := pm
      dsimp only at c0 c1 c2
      go_wp2
      go_roundw
      case rel => exact ⟨j + 1, unhide HJ, by go_num, unhide P3, unhide F3⟩
      case measure => have := unhide HJ; simp [intOf]; omega
    · obtain rfl : j = n := by omega
      have hm := mixG_all ps (List.replicate j noP) (by simp [unhide HN])
      rw [List.length_replicate] at hm
      rw [hm] at ho
      have HO := hide ho
      have hbel := hide hbl
      clear ho hbl hm
      go_wp2
      go_ret
      refine ⟨_, rfl, .inr ⟨w.heap.size, j, [], ?_, Nat.le_refl _, (Array.getElem?_eq_some_iff.1 (unhide HO)).1, unhide HO, by rw [← unhide HN]; exact Nat.le_refl _⟩, unhide hbel⟩
      rw [← unhide HN]
      rfl
theorem eq23 (r l : Int) (t : ByteArray) (w : World) :
    Calls Try.prog 23 #[postV (r, l, t), postV (r, l, t)] w fun e w' => e = .returned (.bool true) ∧ Below w.heap.size w w' := by
  have HB := hide (show Below w.heap.size w ((w.alloc (.cells #[.int .i64 r, .int .i64 l, .string t] 34)).alloc (.cells #[.int .i64 r, .int .i64 l, .string t] 34)) from bl_al (bl_al (Below.refl _ _)))
  go_enter Try.func23, Try.ntmps23
  go_wp2
  go_ret
  exact ⟨rfl, unhide HB⟩
theorem eq10 (a b : Value) (ps : List Pst) (w : World) (ha : postsV w a ps) (hb : postsV w b ps) (hn : ps.length ≤ 2097152) :
    Calls Try.prog 10 #[a, b] w fun e w' => e = .returned (.bool true) ∧ Below w.heap.size w w' := by
  obtain ⟨A, ca, rfl, hc⟩ := ha
  obtain ⟨A2, cb, rfl, hd⟩ := hb
  have HC := hide hc
  have HD := hide hd
  obtain ⟨n, hnx⟩ : ∃ n, n = ps.length := ⟨_, rfl⟩
  rw [← hnx] at hn HC HD ⊢
  clear hc hd hnx
  go_enter Try.func10, Try.ntmps10
  go_wp2
  go_loopw [5] (fun i wr => ∃ j : Nat, j ≤ n ∧ i = .int .i64 j ∧ Below w.heap.size w wr) (fun i _ => n - (intOf i).toNat)
  case atStart => exact ⟨0, by omega, rfl, Below.refl _ _⟩
  case round =>
    obtain ⟨j, hj, rfl, hbl⟩ := hrel
    have HB := hide hbl
    by_cases hlt : j < n
    · obtain ⟨b1, o1, hA, l1, hc1⟩ := unhide HC (by omega)
      obtain ⟨b2, o2, hA2, l2, hc2⟩ := unhide HD (by omega)
      subst hA hA2
      have q1 : (j : Int) < (n : Int) := by omega
      have q0 : (0 : Int) ≤ (j : Int) := by omega
      have PA := hide ((hc1 j hlt).below l1 hbl)
      have PB := hide ((hc2 j hlt).below l2 hbl)
      have LA := hide (Nat.lt_of_lt_of_le l1 hbl.size)
      have LB := hide (Nat.lt_of_lt_of_le l2 hbl.size)
      have HJ := hide hlt
      clear hc1 hc2 hlt hj l1 l2 hbl
      generalize ps.getD j noP = p at *
      obtain ⟨r, l, t⟩ := p
      go_wp2
      refine wp_region_held (S := fun W' => Below wr.heap.size wr W') (by kernel_rfl) ?_
      have hS0 : Below wr.heap.size wr { wr with drawn := wr.drawn + 1 } := below_drewN (Below.refl _ _) 1
      refine wpAnyH_take (i := 0) (oi := { dst := some 17, op := Op.move (Operand.tmp 0), type := 25, pos := "exact.go:364", after := #[], guard := none }) (v := ?_) rfl (by kernel_rfl) (by kernel_rfl) (by kernel_rfl) (fun _ _ _ h => h) (Or.inl ⟨by rfl, ?_⟩) hS0 ?_
      rotate_left
      · intro W hSw
        obtain ⟨c0, c1, c2⟩ := (unhide PA).below (unhide LA) hSw
        obtain ⟨d0, d1, d2⟩ := (unhide PB).below (unhide LB) hSw
        dsimp only at c0 c1 c2 d0 d1 d2
        go_simp
        try with_reducible rfl
      simp only [Act.put, List.setIfInBounds_toArray, List.set_cons_zero, List.set_cons_succ]
      refine wpAnyH_take (i := 1) (oi := { dst := some 18, op := Op.move (Operand.tmp 5), type := 3, pos := "exact.go:364", after := #[], guard := none }) (v := ?_) rfl (by kernel_rfl) (by kernel_rfl) (by kernel_rfl) (fun _ _ _ h => h) (Or.inl ⟨by rfl, ?_⟩) hS0 ?_
      rotate_left
      · intro W hSw
        obtain ⟨c0, c1, c2⟩ := (unhide PA).below (unhide LA) hSw
        obtain ⟨d0, d1, d2⟩ := (unhide PB).below (unhide LB) hSw
        dsimp only at c0 c1 c2 d0 d1 d2
        go_simp
        try with_reducible rfl
      simp only [Act.put, List.setIfInBounds_toArray, List.set_cons_zero, List.set_cons_succ]
      refine wpAnyH_take (i := 2) (oi := { dst := some 19, op := Op.indexAddr 25 (Operand.tmp 17) (Operand.tmp 18), type := 0, pos := "exact.go:364", after := #[{ on := 0, ground := Ground.data }, { on := 1, ground := Ground.data }], guard := none }) (v := ?_) rfl (by kernel_rfl) (by kernel_rfl) (by kernel_rfl) (fun _ _ _ h => h) (Or.inl ⟨by rfl, ?_⟩) hS0 ?_
      rotate_left
      · intro W hSw
        obtain ⟨c0, c1, c2⟩ := (unhide PA).below (unhide LA) hSw
        obtain ⟨d0, d1, d2⟩ := (unhide PB).below (unhide LB) hSw
        dsimp only at c0 c1 c2 d0 d1 d2
        go_simp
        try with_reducible rfl
      simp only [Act.put, List.setIfInBounds_toArray, List.set_cons_zero, List.set_cons_succ]
      refine wpAnyH_take (i := 3) (oi := { dst := some 20, op := Op.load 34 (Operand.tmp 19), type := 34, pos := "exact.go:364", after := #[{ on := 2, ground := Ground.data }], guard := none }) (v := ?_) rfl (by kernel_rfl) (by kernel_rfl) (by kernel_rfl) (fun _ _ _ h => h) (Or.inl ⟨by rfl, ?_⟩) hS0 ?_
      rotate_left
      · intro W hSw
        obtain ⟨c0, c1, c2⟩ := (unhide PA).below (unhide LA) hSw
        obtain ⟨d0, d1, d2⟩ := (unhide PB).below (unhide LB) hSw
        dsimp only at c0 c1 c2 d0 d1 d2
        go_simp
        try with_reducible rfl
      simp only [Act.put, List.setIfInBounds_toArray, List.set_cons_zero, List.set_cons_succ]
      refine wpAnyH_take (i := 4) (oi := { dst := some 21, op := Op.move (Operand.tmp 1), type := 25, pos := "exact.go:364", after := #[], guard := none }) (v := ?_) rfl (by kernel_rfl) (by kernel_rfl) (by kernel_rfl) (fun _ _ _ h => h) (Or.inl ⟨by rfl, ?_⟩) hS0 ?_
      rotate_left
      · intro W hSw
        obtain ⟨c0, c1, c2⟩ := (unhide PA).below (unhide LA) hSw
        obtain ⟨d0, d1, d2⟩ := (unhide PB).below (unhide LB) hSw
        dsimp only at c0 c1 c2 d0 d1 d2
        go_simp
        try with_reducible rfl
      simp only [Act.put, List.setIfInBounds_toArray, List.set_cons_zero, List.set_cons_succ]
      refine wpAnyH_take (i := 5) (oi := { dst := some 22, op := Op.move (Operand.tmp 5), type := 3, pos := "exact.go:364", after := #[], guard := none }) (v := ?_) rfl (by kernel_rfl) (by kernel_rfl) (by kernel_rfl) (fun _ _ _ h => h) (Or.inl ⟨by rfl, ?_⟩) hS0 ?_
      rotate_left
      · intro W hSw
        obtain ⟨c0, c1, c2⟩ := (unhide PA).below (unhide LA) hSw
        obtain ⟨d0, d1, d2⟩ := (unhide PB).below (unhide LB) hSw
        dsimp only at c0 c1 c2 d0 d1 d2
        go_simp
        try with_reducible rfl
      simp only [Act.put, List.setIfInBounds_toArray, List.set_cons_zero, List.set_cons_succ]
      refine wpAnyH_take (i := 6) (oi := { dst := some 23, op := Op.indexAddr 25 (Operand.tmp 21) (Operand.tmp 22), type := 0, pos := "exact.go:364", after := #[{ on := 4, ground := Ground.data }, { on := 5, ground := Ground.data }], guard := none }) (v := ?_) rfl (by kernel_rfl) (by kernel_rfl) (by kernel_rfl) (fun _ _ _ h => h) (Or.inl ⟨by rfl, ?_⟩) hS0 ?_
      rotate_left
      · intro W hSw
        obtain ⟨c0, c1, c2⟩ := (unhide PA).below (unhide LA) hSw
        obtain ⟨d0, d1, d2⟩ := (unhide PB).below (unhide LB) hSw
        dsimp only at c0 c1 c2 d0 d1 d2
        go_simp
        try with_reducible rfl
      simp only [Act.put, List.setIfInBounds_toArray, List.set_cons_zero, List.set_cons_succ]
      refine wpAnyH_take (i := 7) (oi := { dst := some 24, op := Op.load 34 (Operand.tmp 23), type := 34, pos := "exact.go:364", after := #[{ on := 6, ground := Ground.data }], guard := none }) (v := ?_) rfl (by kernel_rfl) (by kernel_rfl) (by kernel_rfl) (fun _ _ _ h => h) (Or.inl ⟨by rfl, ?_⟩) hS0 ?_
      rotate_left
      · intro W hSw
        obtain ⟨c0, c1, c2⟩ := (unhide PA).below (unhide LA) hSw
        obtain ⟨d0, d1, d2⟩ := (unhide PB).below (unhide LB) hSw
        dsimp only at c0 c1 c2 d0 d1 d2
        go_simp
        try with_reducible rfl
      simp only [Act.put, List.setIfInBounds_toArray, List.set_cons_zero, List.set_cons_succ]
      refine wpAnyH_one (i := 8) (by kernel_rfl) ?_
      refine wpOp_step (o := { dst := some 25, op := Op.call { callee := Callee.value (Operand.func 23), args := #[Operand.tmp 20, Operand.tmp 24], argTypes := #[34, 34] }, type := 4, pos := "exact.go:364", after := #[{ on := 3, ground := Ground.data }, { on := 7, ground := Ground.data }], guard := none }) rfl fun K' hK => step_enterW (by rfl) 23 #[postV (r, l, t), postV (r, l, t)] (by go_simp) ((eq23 r l t _).mono ?_)
      rintro e w1 ⟨rfl, b1⟩
      have s1 := bl_st b1 hS0
      clear b1
      refine ⟨_, rfl, hK _ _ ⟨s1, ?_⟩⟩
      simp only [Act.put, List.setIfInBounds_toArray, List.set_cons_zero, List.set_cons_succ]
      refine wpAnyH_take (i := 9) (oi := { dst := some 26, op := Op.unOp UnOp.not 4 (Operand.tmp 25), type := 4, pos := "exact.go:364", after := #[{ on := 8, ground := Ground.data }], guard := none }) (v := ?_) rfl (by kernel_rfl) (by kernel_rfl) (by kernel_rfl) (fun _ _ _ h => h) (Or.inl ⟨by rfl, ?_⟩) s1 ?_
      rotate_left
      · intro W hSw
        obtain ⟨c0, c1, c2⟩ := (unhide PA).below (unhide LA) hSw
        obtain ⟨d0, d1, d2⟩ := (unhide PB).below (unhide LB) hSw
        dsimp only at c0 c1 c2 d0 d1 d2
        go_simp
        try with_reducible rfl
      simp only [Act.put, List.setIfInBounds_toArray, List.set_cons_zero, List.set_cons_succ]
      refine wpAnyH_done (by kernel_rfl) ?_ _
      have B1 := hide (bl_st s1 (unhide HB))
      clear s1 hS0
      go_wp2
      go_roundw
      case rel => exact ⟨j + 1, unhide HJ, by go_num, unhide B1⟩
      case measure => have := unhide HJ; simp [intOf]; omega
    · obtain rfl : j = n := by omega
      clear hlt hbl
      go_wp2
      go_ret
      exact ⟨rfl, unhide HB⟩
def marksP (n : Nat) : List Pst := (List.range n).map fun i : Nat => (1 + (i : Int) * 3, 1 + (i : Int) * 3 + 1, mkT (1 + i * 3 + 2))
theorem marksP_len (n : Nat) : (marksP n).length = n := by simp [marksP]
theorem marksP_at (n i : Nat) (h : i < n) : (marksP n).getD i noP = (1 + (i : Int) * 3, 1 + (i : Int) * 3 + 1, mkT (1 + i * 3 + 2)) := by
  rw [List.getD_eq_getElem?_getD, marksP, List.getElem?_map, List.getElem?_range h]; rfl
theorem mark15 (lo hi : Nat) (v : Value) (ps : List Pst) (w : World) (hv : ownP lo hi w v ps) (hn : ps.length ≤ 1048577) :
    Calls Try.prog 15 #[v, .int .i64 1] w fun e w' => e = .returned (.int .i64 (1 + (ps.length : Int) * 3)) ∧ ownP lo hi w' v (marksP ps.length) ∧ TouchS v w w' := by
  obtain ⟨rfl, rfl⟩ | ⟨g, cap, rest, rfl, hg, hh, hc, hcp⟩ := hv
  · go_enter Try.func15, Try.ntmps15
    go_wp2
    refine wp_loop_rounds 1 ?_
    rw [rounds_succ]; go_wp2
    go_ret
    exact ⟨rfl, .inl ⟨rfl, rfl⟩, ⟨rfl, rfl, rfl, Nat.le_refl _, fun _ _ _ => rfl⟩⟩
  · obtain ⟨n, hnx⟩ : ∃ n, n = ps.length := ⟨_, rfl⟩
    rw [← hnx] at hn hcp ⊢
    have HCP := hide hcp
    have HN := hide hnx
    have HG := hide hg
    have HH := hide hh
    have HC : Hid (w.heap[g]? = some (pstO (mixG (marksP n) ps 0) rest)) := hide (by rw [mixG_zero]; exact hc)
    clear hc hnx hg hcp hh
    go_enter Try.func15, Try.ntmps15
    go_wp2
    go_loopw [1, 5] (fun k i wr => ∃ j : Nat, j ≤ n ∧ i = .int .i64 j ∧ k = .int .i64 (1 + (j : Int) * 3) ∧ wr.heap[g]? = some (pstO (mixG (marksP n) ps j) rest) ∧ Lone g w wr) (fun _ i _ => n - (intOf i).toNat)
    case atStart => exact ⟨0, by omega, rfl, rfl, unhide HC, Lone.refl _ _⟩
    case round =>
      obtain ⟨j, hj, rfl, rfl, ho, hlo⟩ := hrel
      by_cases hlt : j < n
      · have q1 : (j : Int) < (n : Int) := by omega
        have q0 : (0 : Int) ≤ (j : Int) := by omega
        have q2 : (n : Int) ≤ 1048577 := by omega
        have hl : (mixG (marksP n) ps j).length = n := by rw [mixG_len _ _ _ (by rw [marksP_len]; exact unhide HN)]; exact (unhide HN).symm
        have HMS := hide (mixG_succ noP (marksP n) ps j (by rw [marksP_len]; exact unhide HN) (by rw [← unhide HN]; exact hlt))
        rw [marksP_at n j hlt] at HMS
        obtain ⟨c0, c1, c2⟩ := cell_pstO ho j (by omega)
        have y0 := free_pstO ho (j * 3)
        have h1 := set_pstO ho (flat_set0 _ j rest (1 + (j : Int) * 3) (by omega))
        have l1 := hlo.trans (lone_setCell g (j * 3) wr (.int .i64 (1 + (j : Int) * 3)))
        have y1 := free_pstO h1 (j * 3 + 1)
        obtain ⟨_, d1, _⟩ := cell_pstO h1 j (by rw [List.length_set]; omega)
        have h2 := set_pstO h1 (flat_set1 _ j rest (1 + (j : Int) * 3 + 1) (by rw [List.length_set]; omega))
        have l2 := l1.trans (lone_setCell g (j * 3 + 1) _ (.int .i64 (1 + (j : Int) * 3 + 1)))
        simp only [List.set_set, getD_set_self (show j < (mixG (marksP n) ps j).length by omega)] at h2 d1
        have HJ := hide hlt
        have HO := hide h2
        have HL := hide l2
        have HLN := hide hl
        have HLT := hide (show j < (mixG (marksP n) ps j).length by omega)
        have hm := hide (fun W => mt38 (1 + j * 3 + 2) (by omega) W)
        rw [show (((1 + j * 3 + 2 : Nat)) : Int) = 1 + (j : Int) * 3 + 1 + 1 by omega] at hm
        clear hlt hj ho hlo HC h1 h2 l1 l2 hl c1 c2
        generalize (mixG (marksP n) ps j).getD j noP = m at *
        obtain ⟨m0, m1, m2⟩ := m
        dsimp only at *
        generalize mkT (1 + j * 3 + 2) = tx at *
        go_wp2_with fail
        refine (unhide hm _).mono ?_
        rintro e w1 ⟨rfl, b1⟩
        have ho := (b1.block g (Array.getElem?_eq_some_iff.1 (unhide HO)).1).trans (unhide HO)
        have L1 := hide ((unhide HL).trans (Lone.of_below b1))
        obtain ⟨_, _, c2⟩ := cell_pstO ho j (by rw [List.length_set]; exact unhide HLT)
        have y2 := free_pstO ho (j * 3 + 2)
        have h3 := set_pstO ho (flat_set2 _ j rest tx (by rw [List.length_set]; exact unhide HLT))
        simp only [List.set_set, getD_set_self (unhide HLT)] at h3 c2
        rw [unhide HMS] at h3
        have P3 := hide h3
        have L3 := hide ((unhide L1).trans (lone_setCell g (j * 3 + 2) w1 (.string tx)))
        clear h3 ho b1 HL HO hm d1 y0 y1 c0 L1
        go_wp2
        go_roundw
        case rel => exact ⟨j + 1, unhide HJ, by go_num, by go_num, unhide P3, unhide L3⟩
        case measure => have := unhide HJ; simp [intOf]; omega
      · obtain rfl : j = n := by omega
        have hm := mixG_all (marksP j) ps (by rw [marksP_len]; exact unhide HN)
        rw [← unhide HN] at hm
        rw [hm] at ho
        have HO := hide ho
        have HL := hide hlo
        clear hm ho hlo hlt
        go_wp2
        go_ret
        refine ⟨rfl, .inr ⟨g, cap, rest, by rw [marksP_len], unhide HG, unhide HH, unhide HO, by rw [marksP_len]; exact unhide HCP⟩, ⟨(unhide HL).os, (unhide HL).tape, (unhide HL).output, (unhide HL).size, fun k hk hne => (unhide HL).block k hk (fun e => hne (by rw [e]; rfl))⟩⟩
theorem held16 (v : Value) (n : Nat) (w : World) (hv : postsV w v (marksP n)) (hn : n ≤ 1048577) :
    Calls Try.prog 16 #[v, .int .i64 1] w fun e w' => e = .returned (.int .i64 (1 + (n : Int) * 3)) ∧ Below w.heap.size w w' := by
  obtain ⟨A, cap, rfl, hc⟩ := hv
  rw [marksP_len] at hc ⊢
  have HC := hide hc
  clear hc
  go_enter Try.func16, Try.ntmps16
  go_wp2
  go_loopw [1, 5] (fun k i wr => ∃ j : Nat, j ≤ n ∧ i = .int .i64 j ∧ k = .int .i64 (1 + (j : Int) * 3) ∧ Below w.heap.size w wr) (fun _ i _ => n - (intOf i).toNat)
  case atStart => exact ⟨0, by omega, rfl, rfl, Below.refl _ _⟩
  case round =>
    obtain ⟨j, hj, rfl, rfl, hbl⟩ := hrel
    by_cases hlt : j < n
    · obtain ⟨b, off, hA, hlb, hcell⟩ := unhide HC (by omega)
      subst hA
      have q1 : (j : Int) < (n : Int) := by omega
      have q0 : (0 : Int) ≤ (j : Int) := by omega
      have q2 : (n : Int) ≤ 1048577 := by omega
      have pc := hcell j hlt
      rw [marksP_at n j hlt] at pc
      have HPC := hide pc
      have LB := hide (Nat.lt_of_lt_of_le hlb hbl.size)
      obtain ⟨c0, c1, c2⟩ := pc.below hlb hbl
      have hm := hide (fun W => mt38 (1 + j * 3 + 2) (by omega) W)
      rw [show (((1 + j * 3 + 2 : Nat)) : Int) = 1 + (j : Int) * 3 + 1 + 1 by omega] at hm
      have HJ := hide hlt
      have HB := hide hbl
      have HLB := hide hlb
      clear hcell hlt hj pc hbl hlb
      dsimp only at *
      generalize mkT (1 + j * 3 + 2) = tx at *
      have PA := hide (PC.mk (p := (1 + (j : Int) * 3, 1 + (j : Int) * 3 + 1, tx)) c0 c1 c2)
      go_wp2
      clear c0 c1 c2
      refine wp_region_held (S := fun W' => Below wr.heap.size wr W') (by kernel_rfl) ?_
      have hS0 : Below wr.heap.size wr { wr with drawn := wr.drawn + 1 } := below_drewN (Below.refl _ _) 1
      refine wpAnyH_take (i := 0) (oi := { dst := some 30, op := Op.move (Operand.tmp 0), type := 25, pos := "exact.go:393", after := #[], guard := none }) (v := ?_) rfl (by kernel_rfl) (by kernel_rfl) (by kernel_rfl) (fun _ _ _ h => h) (Or.inl ⟨by rfl, ?_⟩) hS0 ?_
      rotate_left
      · intro W hSw
        obtain ⟨c0, c1, c2⟩ := (unhide PA).below (unhide LB) hSw
        dsimp only at c0 c1 c2
        go_simp
        try with_reducible rfl
      simp only [Act.put, List.setIfInBounds_toArray, List.set_cons_zero, List.set_cons_succ]
      refine wpAnyH_take (i := 1) (oi := { dst := some 31, op := Op.move (Operand.tmp 5), type := 3, pos := "exact.go:393", after := #[], guard := none }) (v := ?_) rfl (by kernel_rfl) (by kernel_rfl) (by kernel_rfl) (fun _ _ _ h => h) (Or.inl ⟨by rfl, ?_⟩) hS0 ?_
      rotate_left
      · intro W hSw
        obtain ⟨c0, c1, c2⟩ := (unhide PA).below (unhide LB) hSw
        dsimp only at c0 c1 c2
        go_simp
        try with_reducible rfl
      simp only [Act.put, List.setIfInBounds_toArray, List.set_cons_zero, List.set_cons_succ]
      refine wpAnyH_take (i := 2) (oi := { dst := some 32, op := Op.indexAddr 25 (Operand.tmp 30) (Operand.tmp 31), type := 0, pos := "exact.go:393", after := #[{ on := 0, ground := Ground.data }, { on := 1, ground := Ground.data }], guard := none }) (v := ?_) rfl (by kernel_rfl) (by kernel_rfl) (by kernel_rfl) (fun _ _ _ h => h) (Or.inl ⟨by rfl, ?_⟩) hS0 ?_
      rotate_left
      · intro W hSw
        obtain ⟨c0, c1, c2⟩ := (unhide PA).below (unhide LB) hSw
        dsimp only at c0 c1 c2
        go_simp
        try with_reducible rfl
      simp only [Act.put, List.setIfInBounds_toArray, List.set_cons_zero, List.set_cons_succ]
      refine wpAnyH_take (i := 3) (oi := { dst := some 33, op := Op.fieldAddr 34 (Operand.tmp 32) 2, type := 0, pos := "exact.go:393", after := #[{ on := 2, ground := Ground.data }], guard := none }) (v := ?_) rfl (by kernel_rfl) (by kernel_rfl) (by kernel_rfl) (fun _ _ _ h => h) (Or.inl ⟨by rfl, ?_⟩) hS0 ?_
      rotate_left
      · intro W hSw
        obtain ⟨c0, c1, c2⟩ := (unhide PA).below (unhide LB) hSw
        dsimp only at c0 c1 c2
        go_simp
        try with_reducible rfl
      simp only [Act.put, List.setIfInBounds_toArray, List.set_cons_zero, List.set_cons_succ]
      refine wpAnyH_take (i := 4) (oi := { dst := some 34, op := Op.load 9 (Operand.tmp 33), type := 9, pos := "exact.go:393", after := #[{ on := 3, ground := Ground.data }], guard := none }) (v := ?_) rfl (by kernel_rfl) (by kernel_rfl) (by kernel_rfl) (fun _ _ _ h => h) (Or.inl ⟨by rfl, ?_⟩) hS0 ?_
      rotate_left
      · intro W hSw
        obtain ⟨c0, c1, c2⟩ := (unhide PA).below (unhide LB) hSw
        dsimp only at c0 c1 c2
        go_simp
        try with_reducible rfl
      simp only [Act.put, List.setIfInBounds_toArray, List.set_cons_zero, List.set_cons_succ]
      refine wpAnyH_take (i := 5) (oi := { dst := some 35, op := Op.move (Operand.tmp 1), type := 3, pos := "exact.go:393", after := #[], guard := none }) (v := ?_) rfl (by kernel_rfl) (by kernel_rfl) (by kernel_rfl) (fun _ _ _ h => h) (Or.inl ⟨by rfl, ?_⟩) hS0 ?_
      rotate_left
      · intro W hSw
        obtain ⟨c0, c1, c2⟩ := (unhide PA).below (unhide LB) hSw
        dsimp only at c0 c1 c2
        go_simp
        try with_reducible rfl
      simp only [Act.put, List.setIfInBounds_toArray, List.set_cons_zero, List.set_cons_succ]
      refine wpAnyH_one (i := 6) (by kernel_rfl) ?_
      refine wpOp_step (o := { dst := some 36, op := Op.call { callee := Callee.value (Operand.func 27), args := #[Operand.tmp 35], argTypes := #[3] }, type := 9, pos := "exact.go:393", after := #[{ on := 5, ground := Ground.data }], guard := none }) rfl fun K' hK => step_enterW (by rfl) 27 #[.int .i64 (1 + (j : Int) * 3 + 1 + 1)] (by go_simp) ((unhide hm _).mono ?_)
      rintro e w1 ⟨rfl, b1⟩
      have s1 := bl_st b1 hS0
      clear b1
      refine ⟨_, rfl, hK _ _ ⟨s1, ?_⟩⟩
      simp only [Act.put, List.setIfInBounds_toArray, List.set_cons_zero, List.set_cons_succ]
      refine wpAnyH_take (i := 7) (oi := { dst := some 37, op := Op.binOp BinOp.neq 9 (Operand.tmp 34) (Operand.tmp 36) 9, type := 4, pos := "exact.go:393", after := #[{ on := 4, ground := Ground.data }, { on := 6, ground := Ground.data }], guard := none }) (v := ?_) rfl (by kernel_rfl) (by kernel_rfl) (by kernel_rfl) (fun _ _ _ h => h) (Or.inl ⟨by rfl, ?_⟩) s1 ?_
      rotate_left
      · intro W hSw
        obtain ⟨c0, c1, c2⟩ := (unhide PA).below (unhide LB) hSw
        dsimp only at c0 c1 c2
        go_simp
        try with_reducible rfl
      simp only [Act.put, List.setIfInBounds_toArray, List.set_cons_zero, List.set_cons_succ]
      refine wpAnyH_done (by kernel_rfl) ?_ _
      have B1 := hide (bl_st s1 (unhide HB))
      clear s1 hS0
      go_wp2
      go_roundw
      case rel => exact ⟨j + 1, unhide HJ, by go_num, by go_num, unhide B1⟩
      case measure => have := unhide HJ; simp [intOf]; omega
    · obtain rfl : j = n := by omega
      have HB := hide hbl
      clear hlt hbl
      go_wp2
      go_ret
      exact ⟨rfl, unhide HB⟩
end Go.Proofs.Ytgjkflhpnppkbaa
