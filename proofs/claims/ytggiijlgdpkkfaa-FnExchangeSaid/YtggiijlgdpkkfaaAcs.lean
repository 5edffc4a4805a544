/- Accesses: slices of them, what they read as, which of them a call made; the laws' helpers over them. -/
import Derived.Test.YtggiijlgdpkkfaaStr
namespace Go.Proofs.Ytggiijlgdpkkfaa
open Go.RowKit
set_option maxHeartbeats 4000000
set_option maxRecDepth 20000
/-- an access: drop, body -/
abbrev Acs := ByteArray × ByteArray
abbrev noA : Acs := (noS, noS)
abbrev acV (p : Acs) : Value := .agg #[.string p.1, .string p.2]
/-- an access's cells in block b from a place on -/
structure PC (b o : Nat) (p : Acs) (W : World) : Prop where
  c0 : W.cell? ⟨b, o, none⟩ = some (.string p.1)
  c1 : W.cell? ⟨b, o + 1, none⟩ = some (.string p.2)
/-- a slice that reads as these accesses -/
def acsV (w : World) (v : Value) (ps : List Acs) : Prop :=
  ∃ A cap, v = .slice A ps.length cap ∧ (0 < ps.length → ∃ b off, A = some ⟨b, off, none⟩ ∧ b < w.heap.size ∧ ∀ i, i < ps.length → PC b (off + i * 2) (ps.getD i noA) w)
theorem pc_new (w : World) (r t : ByteArray) (ty : TypeId) : PC w.heap.size 0 (r, t) (w.alloc (.cells #[.string r, .string t] ty)) := by
  refine ⟨?_, ?_⟩ <;> rw [Go.cell_of_row _ _ _ _ _ _ (heap_alloc_new w _)] <;> rfl
theorem PC.below {b o : Nat} {p : Acs} {W W' : World} (h : PC b o p W) (hl : b < W.heap.size) (hb : Below W.heap.size W W') : PC b o p W' :=
  ⟨(cell_below hb hl).trans h.c0, (cell_below hb hl).trans h.c1⟩
theorem sz44 (L : Int) (r t : ByteArray) (w : World) (hL : 0 ≤ L) (hL' : L ≤ 1048576) (hr : r.size ≤ maxLen) (ht : t.size ≤ maxLen) :
    Calls Try.prog 44 #[acV (r, t), .int .i64 L] w fun e w' => ∃ z : Int, e = .returned (.int .i64 z) ∧ (z < 0 ∨ 0 ≤ z ∧ z ≤ L) ∧ Below w.heap.size w w' := by
  obtain ⟨c0, c1⟩ := pc_new w r t 73
  have HB := hide (show Below w.heap.size w (w.alloc (.cells #[.string r, .string t] 73)) from bl_al (Below.refl _ _))
  unfold maxLen at ht hr
  have z0 : (0 : Int) ≤ (t.size : Int) := by omega
  have z1 : (t.size : Int) ≤ 9223372036854775807 := by omega
  have y0 : (0 : Int) ≤ (r.size : Int) := by omega
  have y1 : (r.size : Int) ≤ 9223372036854775807 := by omega
  clear ht hr
  by_cases h : L < (r.size : Int)
  · go_enter Try.func44, Try.ntmps44
    go_wp2
    go_ret
    exact ⟨_, rfl, .inl (by omega), unhide HB⟩
  · have h' : (r.size : Int) ≤ L := by omega
    clear h
    by_cases h2 : L - (r.size : Int) < (t.size : Int)
    · go_enter Try.func44, Try.ntmps44
      go_wp2
      go_ret
      exact ⟨_, rfl, .inl (by omega), unhide HB⟩
    · have h3 : (t.size : Int) ≤ L - (r.size : Int) := by omega
      clear h2
      go_enter Try.func44, Try.ntmps44
      go_wp2
      go_ret
      exact ⟨_, rfl, .inr (by omega), unhide HB⟩
theorem sz19 (v : Value) (ps : List Acs) (w : World) (hv : acsV w v ps) (hl : ps.length ≤ maxLen) (hs : ∀ p ∈ ps, p.1.size ≤ maxLen ∧ p.2.size ≤ maxLen) :
    Calls Try.prog 19 #[v, .int .i64 1048576] w fun e w' => ∃ z : Int, e = .returned (.int .i64 z) ∧ (z < 0 ∨ 0 ≤ z ∧ z ≤ 1048576 ∧ ps.length ≤ 1048576) ∧ Below w.heap.size w w' := by
  obtain ⟨A, cap, rfl, hc⟩ := hv
  have HC := hide hc
  have HS := hide hs
  clear hc hs
  obtain ⟨n, hnx⟩ : ∃ n, n = ps.length := ⟨_, rfl⟩
  rw [← hnx] at hl HC ⊢
  have HN := hide hnx
  unfold maxLen at hl
  have n0 : (0 : Int) ≤ (n : Int) := by omega
  have n1 : (n : Int) ≤ 9223372036854775807 := by omega
  clear hnx
  by_cases hb : 1048576 < n
  · have q : (1048576 : Int) < (n : Int) := by omega
    clear hb hl
    go_enter Try.func19, Try.ntmps19
    go_wp2
    go_ret
    exact ⟨_, rfl, .inl (by omega), Below.refl _ _⟩
  · have q : (n : Int) ≤ 1048576 := by omega
    have HB := hide (show n ≤ 1048576 by omega)
    clear hb hl n1
    go_enter Try.func19, Try.ntmps19
    go_wp2
    go_loopw [1, 5] (fun left i wr => ∃ (j : Nat) (l : Int), j ≤ n ∧ i = .int .i64 j ∧ left = .int .i64 l ∧ 0 ≤ l ∧ l ≤ 1048576 ∧ Below w.heap.size w wr) (fun _ i _ => n - (intOf i).toNat)
    case atStart => exact ⟨0, _, by omega, rfl, rfl, by omega, by omega, Below.refl _ _⟩
    case round =>
      obtain ⟨j, l, hj, rfl, rfl, l0, l1, hbl⟩ := hrel
      by_cases hlt : j < n
      · obtain ⟨b, off, hA, hlb, hcell⟩ := unhide HC (by omega)
        subst hA
        have q1 : (j : Int) < (n : Int) := by omega
        have q0 : (0 : Int) ≤ (j : Int) := by omega
        have sz := unhide HS (ps.getD j noA) (by rw [List.getD_eq_getElem?_getD, List.getElem?_eq_getElem (by rw [← unhide HN]; exact hlt)]; exact List.getElem_mem _)
        have pc := (hcell j hlt).below hlb hbl
        have HJ := hide hlt
        have HBL := hide hbl
        have HL0 := hide l0
        have HL1 := hide l1
        clear hcell hlt hj hbl
        generalize ps.getD j noA = p at *
        obtain ⟨r, t⟩ := p
        obtain ⟨c0, c1⟩ := pc
        dsimp only at c0 c1
        have H11 := hide (sz44 l r t wr l0 l1 sz.1 sz.2)
        clear sz
        go_wp2_with fail
        refine (unhide H11).mono ?_
        rintro e w1 ⟨z, rfl, hz, b1⟩
        have B1 := hide (bl_st b1 (unhide HBL))
        have HZ := hide hz
        clear b1 H11 hz c0 c1 l0 l1
        by_cases hneg : z < 0
        · go_wp2
          go_ret
          exact ⟨_, rfl, .inl (by omega), unhide B1⟩
        · have hge : 0 ≤ z := by omega
          have HZ' := hide (Or.resolve_left (unhide HZ) hneg)
          clear hneg
          go_wp2
          go_roundw
          case rel => exact ⟨j + 1, _, unhide HJ, by go_num, rfl, (unhide HZ').1, by have := (unhide HZ').2; have := unhide HL1; omega, unhide B1⟩
          case measure => have := unhide HJ; simp [intOf]; omega
      · obtain rfl : j = n := by omega
        have HBL := hide hbl
        clear hlt hbl
        go_wp2
        go_ret
        exact ⟨_, rfl, .inr ⟨l0, l1, unhide HB⟩, unhide HBL⟩
def flatA : List Acs → List Value
  | [] => []
  | p :: ps => .string p.1 :: .string p.2 :: flatA ps
theorem flat_len : ∀ ps : List Acs, (flatA ps).length = ps.length * 2
  | [] => rfl
  | p :: ps => by simp [flatA, flat_len ps]; omega
theorem flat_at : ∀ (ps : List Acs) (i : Nat) (rest : List Value), i < ps.length → (flatA ps ++ rest)[i * 2]? = some (.string (ps.getD i noA).1) ∧ (flatA ps ++ rest)[i * 2 + 1]? = some (.string (ps.getD i noA).2)
  | [], i, rest, h => by simp at h
  | p :: ps, 0, rest, _ => ⟨rfl, rfl⟩
  | p :: ps, i + 1, rest, h => by
    have ih := flat_at ps i rest (by simpa using h)
    rw [show (i + 1) * 2 = i * 2 + 1 + 1 by omega]
    exact ih
theorem flat_set0 : ∀ (ps : List Acs) (i : Nat) (rest : List Value) (x : ByteArray), i < ps.length → (flatA ps ++ rest).set (i * 2) (.string x) = flatA (ps.set i (x, (ps.getD i noA).2)) ++ rest
  | [], i, rest, x, h => by simp at h
  | p :: ps, 0, rest, x, _ => rfl
  | p :: ps, i + 1, rest, x, h => by
    have ih := flat_set0 ps i rest x (by simpa using h)
    rw [show (i + 1) * 2 = i * 2 + 1 + 1 by omega]
    exact congrArg (fun l => Value.string p.1 :: .string p.2 :: l) ih
theorem flat_set1 : ∀ (ps : List Acs) (i : Nat) (rest : List Value) (x : ByteArray), i < ps.length → (flatA ps ++ rest).set (i * 2 + 1) (.string x) = flatA (ps.set i ((ps.getD i noA).1, x)) ++ rest
  | [], i, rest, x, h => by simp at h
  | p :: ps, 0, rest, x, _ => rfl
  | p :: ps, i + 1, rest, x, h => by
    have ih := flat_set1 ps i rest x (by simpa using h)
    rw [show (i + 1) * 2 = i * 2 + 1 + 1 by omega]
    exact congrArg (fun l => Value.string p.1 :: .string p.2 :: l) ih
def acsO (ps : List Acs) (rest : List Value) : Obj := .cells (flatA ps ++ rest).toArray 27 (0, 0)
/-- accesses in a block of their own, between lo and hi -/
def ownA (lo hi : Nat) (w : World) (v : Value) (ps : List Acs) : Prop :=
  (v = .slice none 0 0 ∧ ps = []) ∨ ∃ g cap rest, v = .slice (some ⟨g, 0, none⟩) ps.length cap ∧ lo ≤ g ∧ g < hi ∧ w.heap[g]? = some (acsO ps rest) ∧ ps.length ≤ cap
theorem cell_acsO {w : World} {g : Nat} {ps : List Acs} {rest : List Value} (h : w.heap[g]? = some (acsO ps rest)) (i : Nat) (hi : i < ps.length) : PC g (i * 2) (ps.getD i noA) w := by
  obtain ⟨h0, h1⟩ := flat_at ps i rest hi
  refine ⟨?_, ?_⟩
  all_goals
    unfold World.cell?
    rw [show (⟨g, _, none⟩ : Addr).block = g from rfl, h]
    simp only [acsO]
    simpa using by assumption
theorem free_acsO {w : World} {g : Nat} {ps : List Acs} {rest : List Value} (h : w.heap[g]? = some (acsO ps rest)) (i : Nat) : w.frozen? ⟨g, i, none⟩ = false := by
  unfold World.frozen?
  rw [show (⟨g, i, none⟩ : Addr).block = g from rfl, h]
  simp [acsO]
theorem set_acsO {w : World} {g : Nat} {ps qs : List Acs} {rest : List Value} {i : Nat} {v : Value} (h : w.heap[g]? = some (acsO ps rest)) (hs : (flatA ps ++ rest).set i v = flatA qs ++ rest) : (w.setCell ⟨g, i, none⟩ v).heap[g]? = some (acsO qs rest) := by
  simp only [World.setCell, Array.getElem?_modify, if_true, h, Option.map_some, acsO]
  simp [hs]
theorem getD_set_self {ps : List Acs} {i : Nat} {p : Acs} (h : i < ps.length) : (ps.set i p).getD i noA = p := by
  rw [List.getD_eq_getElem?_getD, List.getElem?_set_self h]; rfl
/-- two cells of an access, one after the other -/
abbrev put2 (W : World) (g o : Nat) (r t : ByteArray) : World := (W.setCell ⟨g, o, none⟩ (.string r)).setCell ⟨g, o + 1, none⟩ (.string t)
theorem put_acsO {w : World} {g : Nat} {ps : List Acs} {rest : List Value} (h : w.heap[g]? = some (acsO ps rest)) (i : Nat) (hi : i < ps.length) (r t : ByteArray) : (put2 w g (i * 2) r t).heap[g]? = some (acsO (ps.set i (r, t)) rest) := by
  have h0 := set_acsO h (flat_set0 ps i rest r hi)
  have h1 := set_acsO h0 (flat_set1 _ i rest t (by simpa using hi))
  simp only [List.set_set, hi, getD_set_self] at h1
  exact h1
theorem ownA.acs {lo hi : Nat} {w : World} {v : Value} {ps : List Acs} (h : ownA lo hi w v ps) : acsV w v ps := by
  obtain ⟨rfl, rfl⟩ | ⟨g, cap, rest, rfl, hg, hh, hc, hcp⟩ := h
  · exact ⟨none, 0, rfl, fun h => by simp at h⟩
  · exact ⟨_, _, rfl, fun _ => ⟨g, 0, rfl, (Array.getElem?_eq_some_iff.1 hc).1, fun i hi => by rw [Nat.zero_add]; exact cell_acsO hc i hi⟩⟩
theorem acsV.below {w w' : World} {v : Value} {ps : List Acs} (h : acsV w v ps) (hb : Below w.heap.size w w') : acsV w' v ps := by
  obtain ⟨A, cap, rfl, hc⟩ := h
  refine ⟨A, cap, rfl, fun hn => ?_⟩
  obtain ⟨b, off, rfl, hl, hc⟩ := hc hn
  exact ⟨b, off, rfl, Nat.lt_of_lt_of_le hl hb.size, fun i hi => (hc i hi).below hl hb⟩
theorem ownA.below {lo hi : Nat} {w w' : World} {v : Value} {ps : List Acs} (h : ownA lo hi w v ps) (hb : Below w.heap.size w w') : ownA lo hi w' v ps := by
  obtain h | ⟨g, cap, rest, rfl, hg, hh, hc, hcp⟩ := h
  · exact .inl h
  · exact .inr ⟨g, cap, rest, rfl, hg, hh, (hb.block g (Array.getElem?_eq_some_iff.1 hc).1).trans hc, hcp⟩
theorem ownA.wide {lo hi lo' hi' : Nat} {w : World} {v : Value} {ps : List Acs} (h : ownA lo hi w v ps) (h1 : lo' ≤ lo) (h2 : hi ≤ hi') : ownA lo' hi' w v ps := by
  obtain h | ⟨g, cap, rest, rfl, hg, hh, hc, hcp⟩ := h
  · exact .inl h
  · exact .inr ⟨g, cap, rest, rfl, by omega, by omega, hc, hcp⟩
theorem ownA.lies {lo hi : Nat} {w : World} {v : Value} {ps : List Acs} (h : ownA lo hi w v ps) : liesIn lo hi v := by
  intro g hg
  obtain ⟨rfl, _⟩ | ⟨g', cap, rest, rfl, h1, h2, _⟩ := h
  · cases hg
  · cases hg; exact ⟨h1, h2⟩
theorem ownA.touchS {lo hi lo' hi' : Nat} {w w' : World} {u v : Value} {ps : List Acs} (h : ownA lo hi w u ps) (ht : TouchS v w w') (hl : liesIn lo' hi' v) (hd : hi ≤ lo' ∨ hi' ≤ lo) : ownA lo hi w' u ps := by
  obtain h | ⟨g, cap, rest, rfl, hg, hh, hc, hcp⟩ := h
  · exact .inl h
  · refine .inr ⟨g, cap, rest, rfl, hg, hh, (ht.block g (Array.getElem?_eq_some_iff.1 hc).1 ?_).trans hc, hcp⟩
    intro e
    have := hl g e
    omega
theorem ownS.touchS {lo hi lo' hi' : Nat} {w w' : World} {u v : Value} {ps : List ByteArray} (h : ownS lo hi w u ps) (ht : TouchS v w w') (hl : liesIn lo' hi' v) (hd : hi ≤ lo' ∨ hi' ≤ lo) : ownS lo hi w' u ps := by
  obtain h | ⟨g, cap, rest, rfl, hg, hh, hc, hcp⟩ := h
  · exact .inl h
  · refine .inr ⟨g, cap, rest, rfl, hg, hh, (ht.block g (Array.getElem?_eq_some_iff.1 hc).1 ?_).trans hc, hcp⟩
    intro e
    have := hl g e
    omega
theorem info27 : (Try.prog.info? 27).map (fun i => (i.zero, i.size, i.bytes)) = some (some (.agg #[.string ⟨#[]⟩, .string ⟨#[]⟩]), 2, 32) := by kernel_rfl
theorem flat_app : ∀ (ps qs : List Acs), flatA (ps ++ qs) = flatA ps ++ flatA qs
  | [], _ => rfl
  | p :: ps, qs => by simp [flatA, flat_app ps qs]
theorem flat_rep : ∀ n : Nat, flatA (List.replicate n noA) = (List.range (n * 2)).map fun i => (#[Value.string ⟨#[]⟩, .string ⟨#[]⟩] : Array Value).getD (i % 2) default
  | 0 => rfl
  | n + 1 => by
    rw [List.replicate_succ', flat_app, flat_rep n, show (n + 1) * 2 = n * 2 + 2 by omega, List.range_add, List.map_append]
    congr 1
    simp only [List.map_map]
    have e : ∀ k, (n * 2 + k) % 2 = k % 2 := fun k => by omega
    simp [flatA, List.range_succ, Function.comp_def, e]
theorem make_acs (n : Nat) (hn : n ≤ 2097152) (w : World) : (Instr.makeSlice 23 (.int .i64 (n : Int)) (.int .i64 (n : Int))).run Try.prog w = .ok (.slice (some ⟨w.heap.size, 0, none⟩) n n) (w.alloc (acsO (List.replicate n noA) [])) := by
  obtain ⟨k0, hk0, kz0, kz1, kz2⟩ := info_parts info27
  have h := run_makeSlice w (P := Try.prog) 23 27 k0 (.agg #[.string ⟨#[]⟩, .string ⟨#[]⟩]) Try.underlying23 hk0 kz0 .i64 .i64 (n : Int) (n : Int) (by omega) (Int.le_refl _) (by rw [kz1]; omega) (by rw [kz2]; omega) (by omega)
  rw [kz1, Int.toNat_natCast] at h
  rw [h, acsO, flat_rep, List.append_nil]
  congr 3
  apply Array.ext_getElem?
  intro i
  by_cases hi : i < n * 2
  · simp [madeCells, Value.cells, hi]
  · simp [madeCells, Value.cells, hi]
theorem to45 (r t : ByteArray) (w : World) :
    Calls Try.prog 45 #[acV (r, t)] w fun e w' => e = .returned (acV (r, t)) ∧ Below w.heap.size w w' := by
  obtain ⟨c0, c1⟩ := pc_new w r t 73
  go_enter Try.func45, Try.ntmps45
  go_wp2
  refine bodyPost_ret (v := acV (r, t)) ?_ rfl ⟨rfl, ?_⟩
  · exact results_cell_row rfl _ _ (w.heap.size + 1) 27 _ (0, 0) _ rfl (by rw [Below.heap_alloc _ _ _ (by simp)]; exact heap_at _ _ _ (by simp)) Try.underlying27 rfl (by kernel_rfl)
  · exact bl_al (bl_al (bl_al (Below.refl _ _)))
theorem to20 (v : Value) (ps : List Acs) (w : World) (hv : acsV w v ps) (hn : ps.length ≤ 2097152) :
    Calls Try.prog 20 #[v] w fun e w' => ∃ r, e = .returned r ∧ ownA w.heap.size w'.heap.size w' r ps ∧ Below w.heap.size w w' := by
  obtain ⟨A, cap, rfl, hc⟩ := hv
  have HC := hide hc
  obtain ⟨n, hnx⟩ : ∃ n, n = ps.length := ⟨_, rfl⟩
  rw [← hnx] at hn HC ⊢
  have HN := hide hnx
  have mk := make_acs n (by omega)
  clear hc hnx
  go_enter Try.func20, Try.ntmps20
  go_wp2
  clear mk
  go_loopw [4] (fun i wr => ∃ j : Nat, j ≤ n ∧ i = .int .i64 j ∧ wr.heap[w.heap.size]? = some (acsO (mixG ps (List.replicate n noA) j) []) ∧ Below w.heap.size w wr) (fun i _ => n - (intOf i).toNat)
  case atStart => exact ⟨0, by omega, rfl, by rw [mixG_zero, heap_at _ _ _ rfl], (Below.refl _ _).alloc (Nat.le_refl _) _⟩
  case round =>
    obtain ⟨j, hj, rfl, ho, hbl⟩ := hrel
    by_cases hlt : j < n
    · obtain ⟨b, off, hA, hbb, hcell⟩ := unhide HC (by omega)
      subst hA
      have q1 : (j : Int) < (n : Int) := by omega
      have q0 : (0 : Int) ≤ (j : Int) := by omega
      have hl : (mixG ps (List.replicate n noA) j).length = n := by rw [mixG_len _ _ _ (by simp [unhide HN])]; simp
      have pc := (hcell j hlt).below hbb hbl
      have HM := hide (mixG_succ noA ps (List.replicate n noA) j (by simp [unhide HN]) (by simpa using hlt))
      have HJ := hide hlt
      have HL := hide hl
      have HO := hide ho
      have HBL := hide hbl
      clear ho hbl hcell hbb hl hlt hj
      generalize hp : ps.getD j noA = p at *
      obtain ⟨r, t⟩ := p
      obtain ⟨c0, c1⟩ := pc
      dsimp only at c0 c1
      have H13 := hide (to45 r t wr)
      clear hp
      go_wp2_with fail
      refine (unhide H13).mono ?_
      rintro e w1 ⟨rfl, b1⟩
      have B1 := hide (bl_st b1 (unhide HBL))
      have ho1 := (b1.block _ (Array.getElem?_eq_some_iff.1 (unhide HO)).1).trans (unhide HO)
      have pm := cell_acsO ho1 j (by have := unhide HJ; have := unhide HL; omega)
      have y0 := free_acsO ho1 (j * 2)
      have y1 := free_acsO ho1 (j * 2 + 1)
      have P3 := hide (put_acsO ho1 j (by have := unhide HJ; have := unhide HL; omega) r t)
      rw [unhide HM] at P3
      have F3 := hide (show Below w.heap.size w (put2 w1 w.heap.size (j * 2) r t) from bl_set (bl_set (unhide B1) (Nat.le_refl _)) (Nat.le_refl _))
      clear b1 H13 ho1 c0 c1 HM
      generalize (mixG ps (List.replicate n noA) j).getD j noA = m at *
      obtain ⟨m0, m1⟩ := m
      obtain ⟨c0, c1⟩ := pm
      dsimp only at c0 c1
      go_wp2
      go_roundw
      case rel => exact ⟨j + 1, unhide HJ, by go_num, unhide P3, unhide F3⟩
      case measure => have := unhide HJ; simp [intOf]; omega
    · obtain rfl : j = n := by omega
      have hm := mixG_all ps (List.replicate j noA) (by simp [unhide HN])
      rw [List.length_replicate] at hm
      rw [hm] at ho
      have HO := hide ho
      have hbel := hide hbl
      clear ho hbl hm
      go_wp2
      go_ret
      refine ⟨_, rfl, .inr ⟨w.heap.size, j, [], ?_, Nat.le_refl _, (Array.getElem?_eq_some_iff.1 (unhide HO)).1, unhide HO, by rw [← unhide HN]; exact Nat.le_refl _⟩, unhide hbel⟩
      rw [← unhide HN]
      rfl
theorem eq46 (r t : ByteArray) (w : World) :
    Calls Try.prog 46 #[acV (r, t), acV (r, t)] w fun e w' => e = .returned (.bool true) ∧ Below w.heap.size w w' := by
  have HB := hide (show Below w.heap.size w ((w.alloc (.cells #[.string r, .string t] 27)).alloc (.cells #[.string r, .string t] 27)) from bl_al (bl_al (Below.refl _ _)))
  go_enter Try.func46, Try.ntmps46
  go_wp2
  go_ret
  exact ⟨rfl, unhide HB⟩
theorem eq21 (a b : Value) (ps : List Acs) (w : World) (ha : acsV w a ps) (hb : acsV w b ps) (hn : ps.length ≤ 2097152) :
    Calls Try.prog 21 #[a, b] w fun e w' => e = .returned (.bool true) ∧ Below w.heap.size w w' := by
  obtain ⟨A, ca, rfl, hc⟩ := ha
  obtain ⟨A2, cb, rfl, hd⟩ := hb
  have HC := hide hc
  have HD := hide hd
  obtain ⟨n, hnx⟩ : ∃ n, n = ps.length := ⟨_, rfl⟩
  rw [← hnx] at hn HC HD ⊢
  clear hc hd hnx
  go_enter Try.func21, Try.ntmps21
  go_wp2
  go_loopw [5] (fun i wr => ∃ j : Nat, j ≤ n ∧ i = .int .i64 j ∧ Below w.heap.size w wr) (fun i _ => n - (intOf i).toNat)
  case atStart => exact ⟨0, by omega, rfl, Below.refl _ _⟩
  case round =>
    obtain ⟨j, hj, rfl, hbl⟩ := hrel
    have HB := hide hbl
    by_cases hlt : j < n
    · obtain ⟨b1, o1, hA, l1, hc1⟩ := unhide HC (by omega)
      obtain ⟨b2, o2, hA2, l2, hc2⟩ := unhide HD (by omega)
      subst hA hA2
      have q1 : (j : Int) < (n : Int) := by omega
      have q0 : (0 : Int) ≤ (j : Int) := by omega
      have PA := hide ((hc1 j hlt).below l1 hbl)
      have PB := hide ((hc2 j hlt).below l2 hbl)
      have LA := hide (Nat.lt_of_lt_of_le l1 hbl.size)
      have LB := hide (Nat.lt_of_lt_of_le l2 hbl.size)
      have HJ := hide hlt
      clear hc1 hc2 hlt hj l1 l2 hbl
      generalize ps.getD j noA = p at *
      obtain ⟨r, t⟩ := p
      go_wp2
      refine wp_region_held (S := fun W' => Below wr.heap.size wr W') (by kernel_rfl) ?_
      have hS0 : Below wr.heap.size wr { wr with drawn := wr.drawn + 1 } := below_drewN (Below.refl _ _) 1
      refine wpAnyH_take (i := 0) (oi := { dst := some 17, op := Op.move (Operand.tmp 0), type := 23, pos := "exact.go:948", after := #[], guard := none }) (v := ?_) rfl (by kernel_rfl) (by kernel_rfl) (by kernel_rfl) (fun _ _ _ h => h) (Or.inl ⟨by rfl, ?_⟩) hS0 ?_
      rotate_left
      · intro W hSw
        obtain ⟨c0, c1⟩ := (unhide PA).below (unhide LA) hSw
        obtain ⟨d0, d1⟩ := (unhide PB).below (unhide LB) hSw
        dsimp only at c0 c1 d0 d1
        go_simp
        try with_reducible rfl
      simp only [Act.put, List.setIfInBounds_toArray, List.set_cons_zero, List.set_cons_succ]
      refine wpAnyH_take (i := 1) (oi := { dst := some 18, op := Op.move (Operand.tmp 5), type := 3, pos := "exact.go:948", after := #[], guard := none }) (v := ?_) rfl (by kernel_rfl) (by kernel_rfl) (by kernel_rfl) (fun _ _ _ h => h) (Or.inl ⟨by rfl, ?_⟩) hS0 ?_
      rotate_left
      · intro W hSw
        obtain ⟨c0, c1⟩ := (unhide PA).below (unhide LA) hSw
        obtain ⟨d0, d1⟩ := (unhide PB).below (unhide LB) hSw
        dsimp only at c0 c1 d0 d1
        go_simp
        try with_reducible rfl
      simp only [Act.put, List.setIfInBounds_toArray, List.set_cons_zero, List.set_cons_succ]
      refine wpAnyH_take (i := 2) (oi := { dst := some 19, op := Op.indexAddr 23 (Operand.tmp 17) (Operand.tmp 18), type := 0, pos := "exact.go:948", after := #[{ on := 0, ground := Ground.data }, { on := 1, ground := Ground.data }], guard := none }) (v := ?_) rfl (by kernel_rfl) (by kernel_rfl) (by kernel_rfl) (fun _ _ _ h => h) (Or.inl ⟨by rfl, ?_⟩) hS0 ?_
      rotate_left
      · intro W hSw
        obtain ⟨c0, c1⟩ := (unhide PA).below (unhide LA) hSw
        obtain ⟨d0, d1⟩ := (unhide PB).below (unhide LB) hSw
        dsimp only at c0 c1 d0 d1
        go_simp
        try with_reducible rfl
      simp only [Act.put, List.setIfInBounds_toArray, List.set_cons_zero, List.set_cons_succ]
      refine wpAnyH_take (i := 3) (oi := { dst := some 20, op := Op.load 27 (Operand.tmp 19), type := 27, pos := "exact.go:948", after := #[{ on := 2, ground := Ground.data }], guard := none }) (v := ?_) rfl (by kernel_rfl) (by kernel_rfl) (by kernel_rfl) (fun _ _ _ h => h) (Or.inl ⟨by rfl, ?_⟩) hS0 ?_
      rotate_left
      · intro W hSw
        obtain ⟨c0, c1⟩ := (unhide PA).below (unhide LA) hSw
        obtain ⟨d0, d1⟩ := (unhide PB).below (unhide LB) hSw
        dsimp only at c0 c1 d0 d1
        go_simp
        try with_reducible rfl
      simp only [Act.put, List.setIfInBounds_toArray, List.set_cons_zero, List.set_cons_succ]
      refine wpAnyH_take (i := 4) (oi := { dst := some 21, op := Op.move (Operand.tmp 1), type := 23, pos := "exact.go:948", after := #[], guard := none }) (v := ?_) rfl (by kernel_rfl) (by kernel_rfl) (by kernel_rfl) (fun _ _ _ h => h) (Or.inl ⟨by rfl, ?_⟩) hS0 ?_
      rotate_left
      · intro W hSw
        obtain ⟨c0, c1⟩ := (unhide PA).below (unhide LA) hSw
        obtain ⟨d0, d1⟩ := (unhide PB).below (unhide LB) hSw
        dsimp only at c0 c1 d0 d1
        go_simp
        try with_reducible rfl
      simp only [Act.put, List.setIfInBounds_toArray, List.set_cons_zero, List.set_cons_succ]
      refine wpAnyH_take (i := 5) (oi := { dst := some 22, op := Op.move (Operand.tmp 5), type := 3, pos := "exact.go:948", after := #[], guard := none }) (v := ?_) rfl (by kernel_rfl) (by kernel_rfl) (by kernel_rfl) (fun _ _ _ h => h) (Or.inl ⟨by rfl, ?_⟩) hS0 ?_
      rotate_left
      · intro W hSw
        obtain ⟨c0, c1⟩ := (unhide PA).below (unhide LA) hSw
        obtain ⟨d0, d1⟩ := (unhide PB).below (unhide LB) hSw
        dsimp only at c0 c1 d0 d1
        go_simp
        try with_reducible rfl
      simp only [Act.put, List.setIfInBounds_toArray, List.set_cons_zero, List.set_cons_succ]
      refine wpAnyH_take (i := 6) (oi := { dst := some 23, op := Op.indexAddr 23 (Operand.tmp 21) (Operand.tmp 22), type := 0, pos := "exact.go:948", after := #[{ on := 4, ground := Ground.data }, { on := 5, ground := Ground.data }], guard := none }) (v := ?_) rfl (by kernel_rfl) (by kernel_rfl) (by kernel_rfl) (fun _ _ _ h => h) (Or.inl ⟨by rfl, ?_⟩) hS0 ?_
      rotate_left
      · intro W hSw
        obtain ⟨c0, c1⟩ := (unhide PA).below (unhide LA) hSw
        obtain ⟨d0, d1⟩ := (unhide PB).below (unhide LB) hSw
        dsimp only at c0 c1 d0 d1
        go_simp
        try with_reducible rfl
      simp only [Act.put, List.setIfInBounds_toArray, List.set_cons_zero, List.set_cons_succ]
      refine wpAnyH_take (i := 7) (oi := { dst := some 24, op := Op.load 27 (Operand.tmp 23), type := 27, pos := "exact.go:948", after := #[{ on := 6, ground := Ground.data }], guard := none }) (v := ?_) rfl (by kernel_rfl) (by kernel_rfl) (by kernel_rfl) (fun _ _ _ h => h) (Or.inl ⟨by rfl, ?_⟩) hS0 ?_
      rotate_left
      · intro W hSw
        obtain ⟨c0, c1⟩ := (unhide PA).below (unhide LA) hSw
        obtain ⟨d0, d1⟩ := (unhide PB).below (unhide LB) hSw
        dsimp only at c0 c1 d0 d1
        go_simp
        try with_reducible rfl
      simp only [Act.put, List.setIfInBounds_toArray, List.set_cons_zero, List.set_cons_succ]
      refine wpAnyH_one (i := 8) (by kernel_rfl) ?_
      refine wpOp_step (o := { dst := some 25, op := Op.call { callee := Callee.value (Operand.func 46), args := #[Operand.tmp 20, Operand.tmp 24], argTypes := #[27, 27] }, type := 4, pos := "exact.go:948", after := #[{ on := 3, ground := Ground.data }, { on := 7, ground := Ground.data }], guard := none }) rfl fun K' hK => step_enterW (by rfl) 46 #[acV (r, t), acV (r, t)] (by go_simp) ((eq46 r t _).mono ?_)
      rintro e w1 ⟨rfl, b1⟩
      have s1 := bl_st b1 hS0
      clear b1
      refine ⟨_, rfl, hK _ _ ⟨s1, ?_⟩⟩
      simp only [Act.put, List.setIfInBounds_toArray, List.set_cons_zero, List.set_cons_succ]
      refine wpAnyH_take (i := 9) (oi := { dst := some 26, op := Op.unOp UnOp.not 4 (Operand.tmp 25), type := 4, pos := "exact.go:948", after := #[{ on := 8, ground := Ground.data }], guard := none }) (v := ?_) rfl (by kernel_rfl) (by kernel_rfl) (by kernel_rfl) (fun _ _ _ h => h) (Or.inl ⟨by rfl, ?_⟩) s1 ?_
      rotate_left
      · intro W hSw
        obtain ⟨c0, c1⟩ := (unhide PA).below (unhide LA) hSw
        obtain ⟨d0, d1⟩ := (unhide PB).below (unhide LB) hSw
        dsimp only at c0 c1 d0 d1
        go_simp
        try with_reducible rfl
      simp only [Act.put, List.setIfInBounds_toArray, List.set_cons_zero, List.set_cons_succ]
      refine wpAnyH_done (by kernel_rfl) ?_ _
      have B1 := hide (bl_st s1 (unhide HB))
      clear s1 hS0
      go_wp2
      go_roundw
      case rel => exact ⟨j + 1, unhide HJ, by go_num, unhide B1⟩
      case measure => have := unhide HJ; simp [intOf]; omega
    · obtain rfl : j = n := by omega
      clear hlt hbl
      go_wp2
      go_ret
      exact ⟨rfl, unhide HB⟩
def marksA (n : Nat) : List Acs := (List.range n).map fun i : Nat => (mkT (1 + i * 2), mkT (1 + i * 2 + 1))
theorem marksA_len (n : Nat) : (marksA n).length = n := by simp [marksA]
theorem marksA_at (n i : Nat) (h : i < n) : (marksA n).getD i noA = (mkT (1 + i * 2), mkT (1 + i * 2 + 1)) := by
  rw [List.getD_eq_getElem?_getD, marksA, List.getElem?_map, List.getElem?_range h]; rfl
theorem mark22 (lo hi : Nat) (v : Value) (ps : List Acs) (w : World) (hv : ownA lo hi w v ps) (hn : ps.length ≤ 1048577) :
    Calls Try.prog 22 #[v, .int .i64 1] w fun e w' => e = .returned (.int .i64 (1 + (ps.length : Int) * 2)) ∧ ownA lo hi w' v (marksA ps.length) ∧ TouchS v w w' := by
  obtain ⟨rfl, rfl⟩ | ⟨g, cap, rest, rfl, hg, hh, hc, hcp⟩ := hv
  · go_enter Try.func22, Try.ntmps22
    go_wp2
    refine wp_loop_rounds 1 ?_
    rw [rounds_succ]; go_wp2
    go_ret
    exact ⟨rfl, .inl ⟨rfl, rfl⟩, ⟨rfl, rfl, rfl, Nat.le_refl _, fun _ _ _ => rfl⟩⟩
  · obtain ⟨n, hnx⟩ : ∃ n, n = ps.length := ⟨_, rfl⟩
    rw [← hnx] at hn hcp ⊢
    have HCP := hide hcp
    have HN := hide hnx
    have HG := hide hg
    have HH := hide hh
    have HC : Hid (w.heap[g]? = some (acsO (mixG (marksA n) ps 0) rest)) := hide (by rw [mixG_zero]; exact hc)
    clear hc hnx hg hcp hh
    go_enter Try.func22, Try.ntmps22
    go_wp2
    go_loopw [1, 5] (fun k i wr => ∃ j : Nat, j ≤ n ∧ i = .int .i64 j ∧ k = .int .i64 (1 + (j : Int) * 2) ∧ wr.heap[g]? = some (acsO (mixG (marksA n) ps j) rest) ∧ Lone g w wr) (fun _ i _ => n - (intOf i).toNat)
    case atStart => exact ⟨0, by omega, rfl, rfl, unhide HC, Lone.refl _ _⟩
    case round =>
      obtain ⟨j, hj, rfl, rfl, ho, hlo⟩ := hrel
      by_cases hlt : j < n
      · have q1 : (j : Int) < (n : Int) := by omega
        have q0 : (0 : Int) ≤ (j : Int) := by omega
        have q2 : (n : Int) ≤ 1048577 := by omega
        have hl : (mixG (marksA n) ps j).length = n := by rw [mixG_len _ _ _ (by rw [marksA_len]; exact unhide HN)]; exact (unhide HN).symm
        have HMS := hide (mixG_succ noA (marksA n) ps j (by rw [marksA_len]; exact unhide HN) (by rw [← unhide HN]; exact hlt))
        rw [marksA_at n j hlt] at HMS
        have HJ := hide hlt
        have HO := hide ho
        have HL := hide hlo
        have HLT := hide (show j < (mixG (marksA n) ps j).length by omega)
        have hm1 := hide (fun W => mt38 (1 + j * 2) (by omega) W)
        have hm2 := hide (fun W => mt38 (1 + j * 2 + 1) (by omega) W)
        rw [show (((1 + j * 2 : Nat)) : Int) = 1 + (j : Int) * 2 by omega] at hm1
        rw [show (((1 + j * 2 + 1 : Nat)) : Int) = 1 + (j : Int) * 2 + 1 by omega] at hm2
        clear hlt hj ho hlo HC hl
        generalize mkT (1 + j * 2) = tx at *
        generalize mkT (1 + j * 2 + 1) = ty at *
        go_wp2_with fail
        refine (unhide hm1 _).mono ?_
        rintro e w1 ⟨rfl, b1⟩
        have ho := (b1.block g (Array.getElem?_eq_some_iff.1 (unhide HO)).1).trans (unhide HO)
        have L1 := hide ((unhide HL).trans (Lone.of_below b1))
        obtain ⟨c0, _⟩ := cell_acsO ho j (unhide HLT)
        have y0 := free_acsO ho (j * 2)
        have h1 := set_acsO ho (flat_set0 _ j rest tx (unhide HLT))
        have P1 := hide h1
        have L2 := hide ((unhide L1).trans (lone_setCell g (j * 2) w1 (.string tx)))
        clear ho b1 HL HO hm1 L1 h1
        go_wp2_with fail
        generalize w1.setCell ⟨g, j * 2, none⟩ (.string tx) = w2 at *
        refine (unhide hm2 _).mono ?_
        rintro e w3 ⟨rfl, b3⟩
        have ho := (b3.block g (Array.getElem?_eq_some_iff.1 (unhide P1)).1).trans (unhide P1)
        have L3 := hide ((unhide L2).trans (Lone.of_below b3))
        obtain ⟨_, c1⟩ := cell_acsO ho j (by rw [List.length_set]; exact unhide HLT)
        have y1 := free_acsO ho (j * 2 + 1)
        have h3 := set_acsO ho (flat_set1 _ j rest ty (by rw [List.length_set]; exact unhide HLT))
        simp only [List.set_set, getD_set_self (unhide HLT)] at h3
        rw [unhide HMS] at h3
        have P3 := hide h3
        have L4 := hide ((unhide L3).trans (lone_setCell g (j * 2 + 1) w3 (.string ty)))
        clear h3 ho b3 P1 L2 L3 hm2 y0 c0 HMS HLT
        go_wp2
        go_roundw
        case rel => exact ⟨j + 1, unhide HJ, by go_num, by go_num, unhide P3, unhide L4⟩
        case measure => have := unhide HJ; simp [intOf]; omega
      · obtain rfl : j = n := by omega
        have hm := mixG_all (marksA j) ps (by rw [marksA_len]; exact unhide HN)
        rw [← unhide HN] at hm
        rw [hm] at ho
        have HO := hide ho
        have HL := hide hlo
        clear hm ho hlo hlt
        go_wp2
        go_ret
        refine ⟨rfl, .inr ⟨g, cap, rest, by rw [marksA_len], unhide HG, unhide HH, unhide HO, by rw [marksA_len]; exact unhide HCP⟩, ⟨(unhide HL).os, (unhide HL).tape, (unhide HL).output, (unhide HL).size, fun k hk hne => (unhide HL).block k hk (fun e => hne (by rw [e]; rfl))⟩⟩
end Go.Proofs.Ytggiijlgdpkkfaa
