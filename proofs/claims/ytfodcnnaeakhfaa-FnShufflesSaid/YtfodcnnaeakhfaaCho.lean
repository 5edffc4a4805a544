/- ChoicesOf, both sides, and the law of it, walked. -/
import Derived.Test.YtfodcnnaeakhfaaIvp
import Derived.Deep.AppendLies
namespace Go.Proofs.Ytfodcnnaeakhfaa
open Go.RowKit
set_option maxHeartbeats 4000000
set_option maxRecDepth 20000
theorem idx_step {o : List Int} {x : Int} {j : Nat} (h : ∀ i, i < j → o.getD i 0 ≠ x) (hj : j < o.length) (he : o.getD j 0 = x) : idx o x = j := by
  have h1 := idx_lt he
  rcases Nat.lt_or_ge (idx o x) j with h2 | h2
  · exact absurd (idx_at o x (by omega)) (h _ h2)
  · omega
theorem index33 (v : Value) (o : List Int) (x : Int) (w : World) (hv : intsV w v o) (hn : o.length ≤ 4096) (hx : idx o x < o.length) : Calls Try.prog 33 #[v, .int .i64 x] w fun e w' => e = .returned (.int .i64 ((idx o x : Nat) : Int)) ∧ w' = w := by
  obtain ⟨A, cap, rfl, hcell⟩ := hv
  have HC := hide hcell
  have HX := hide hx
  have n0 : (0 : Int) ≤ (o.length : Int) := by omega
  have n1 : (o.length : Int) ≤ 4096 := by omega
  clear hcell hx hn
  go_enter Try.func33, Try.ntmps33
  go_wp2
  go_loopw [8] (fun i wr => ∃ (j : Nat), j ≤ idx o x ∧ i = .int .i64 j ∧ wr = w) (fun i _ => o.length - (intOf i).toNat)
  case atStart => exact ⟨0, by omega, rfl, rfl⟩
  case round =>
    obtain ⟨j, hj, rfl, rfl⟩ := hrel
    have hlt : j < o.length := by have := unhide HX; omega
    obtain ⟨b, off, hA, hbb, hcell⟩ := unhide HC (by omega)
    subst hA
    have q1 : (j : Int) < (o.length : Int) := by omega
    have q0 : (0 : Int) ≤ (j : Int) := by omega
    have p0 := hcell j hlt
    have HJ := hide hlt
    by_cases he : j = idx o x
    · have h1 := idx_at o x (unhide HX)
      rw [← he] at h1
      rw [h1] at p0
      have HE := hide he
      clear hcell hlt hj hbb h1 he
      go_wp2
      go_ret
      exact ⟨by rw [← unhide HE]; rfl, rfl⟩
    · have h1 := idx_before o x j (by omega)
      have h2 : (x == o.getD j 0) = false := by simpa using fun h => h1 h.symm
      have HL := hide (show j + 1 ≤ idx o x by omega)
      clear hcell hlt hj hbb h1 he
      generalize o.getD j 0 = y at *
      go_wp2
      go_roundw
      case rel => exact ⟨j + 1, unhide HL, by go_num, by first | rfl | trivial⟩
      case measure => have := unhide HJ; simp [intOf]; omega
def chR (ps : List Int) : List Int × Int := if pmC ps = 0 then (chF ps (ps.length - 1) (rg ps.length), 0) else ([], pmC ps)
theorem chR_code {ps : List Int} {c : Int} (h : pmC ps = c) (hc : c ≠ 0) : chR ps = ([], c) := by unfold chR; rw [h, if_neg hc]
theorem chR_ok {ps : List Int} (h : pmC ps = 0) : chR ps = (chF ps (ps.length - 1) (rg ps.length), 0) := by unfold chR; rw [if_pos h]
theorem idx_has {n : Nat} {o : List Int} {x : Int} (h : hasAll n o) (h0 : 0 ≤ x) (h1 : x < n) : idx o x < o.length := by
  obtain ⟨k, hk, e⟩ := h x h0 h1
  have := idx_lt e
  omega
theorem map_snoc (xs : List Int) (x : Int) : (xs ++ [x]).map (Value.int .i64) = xs.map (Value.int .i64) ++ [.int .i64 x] := by rw [List.map_append]; rfl
theorem ownsRow_lone {w w' : World} {q base : Nat} {e : TypeId} {size : Nat} {v : Value} {n : Nat} {xs : List Value} (h : w.ownsRow base e size v n xs) (hl : Lone q w w') (hq : q < base) : w'.ownsRow base e size v n xs := by
  refine ⟨h.1, ?_⟩
  rcases h.2 with h | ⟨g, c, cur, hv, hb, hg, h1⟩
  · exact .inl h
  · exact .inr ⟨g, c, cur, hv, hb, (hl.block g (Array.getElem?_eq_some_iff.1 hg).1 (by omega)).trans hg, h1⟩
theorem lone_drew (q : Nat) (w : World) : Lone q w w.drew := ⟨rfl, rfl, rfl, Nat.le_refl _, fun _ _ _ => rfl⟩
theorem choices12 (v : Value) (ps : List Int) (w : World) (hv : intsV w v ps) (hn : ps.length ≤ 1048576) : Calls Try.prog 12 #[v] w fun e w' => outI w (chR ps).1 (chR ps).2 e w' := by
  obtain ⟨i0, hi0, hz0, hz1, hz2⟩ := info_parts info3b
  have K1 := hide (code31 v ps w hv hn)
  have HV := hide hv
  obtain ⟨A, cap, rfl, _⟩ := hv
  have n0 : (0 : Int) ≤ (ps.length : Int) := by omega
  have n1 : (ps.length : Int) ≤ 1048576 := by omega
  rcases pmC_ok (ps := ps) with ⟨hg, hp⟩ | ⟨hne, _⟩
  · rw [chR_ok hg]
    rw [hg] at K1
    obtain ⟨hi, h16, h1⟩ := pOK_in hp
    have HI := hide hi
    have q : (ps.length : Int) ≤ 16 := by omega
    have q' : (1 : Int) ≤ (ps.length : Int) := by omega
    clear hg hn hp hi n1
    go_enter Try.func12, Try.ntmps12
    go_wp2_with fail
    refine (unhide K1).mono ?_
    rintro e w1 ⟨rfl, hb⟩
    have V1 := (unhide HV).below hb
    have HB1 := hide hb
    obtain ⟨A', cap', he, hcell⟩ := V1
    simp only [Value.slice.injEq] at he
    obtain ⟨rfl, _, rfl⟩ := he
    have HC := hide hcell
    have K2 := hide (stand32 ps.length (by omega) w1)
    clear K1 hb hcell HV
    go_wp2_with fail
    refine (unhide K2).mono ?_
    rintro e w2 ⟨rfl, hr, hb⟩
    have HR := hide hr
    have HB2 := hide hb
    clear K2 hr hb
    go_wp2
    go_loopw [6, 7] (fun u i wr => ∃ (p : Nat) (o cs : List Int), p < ps.length ∧ i = .int .i64 (p : Int) ∧ o.length = ps.length ∧ hasAll ps.length o ∧ cs.length + p + 1 = ps.length ∧ cs ++ chF ps p o = chF ps (ps.length - 1) (rg ps.length) ∧ wr.heap[w1.heap.size]? = some (rowObj 3 .i64 o []) ∧ wr.ownsRow (w1.heap.size + 1) 3 1 u cs.length (cs.map (Value.int .i64)) ∧ Below w1.heap.size w1 wr) (fun _ i _ => (intOf i).toNat)
    case atStart =>
      refine ⟨ps.length - 1, rg ps.length, [], by omega, by go_num, rg_len _, hasAll_rg _, by simp; omega, rfl, unhide HR, ?_, unhide HB2⟩
      exact ⟨by simp, .inl ⟨rfl, by simp⟩⟩
    case round =>
      obtain ⟨p, o, cs, hpl, rfl, ho, hall, hcl, hch, hrow, hown, hbl⟩ := hrel
      by_cases hp0 : p = 0
      · subst hp0
        rw [chF, List.append_nil] at hch
        subst hch
        have HO := hide (rowI hown (by rw [chF_len]))
        have HB := hide hbl
        clear hrow hown hbl hall ho
        go_wp2
        go_ret2
        exact ⟨_, rfl, (unhide HO).wide (by have := (unhide HB1).size; omega) (Nat.le_refl _), bl_st (unhide HB) (unhide HB1)⟩
      · obtain ⟨i, rfl⟩ : ∃ i, p = i + 1 := ⟨p - 1, by omega⟩
        rw [chF] at hch
        obtain ⟨b, off, hA, hbb, hcell⟩ := unhide HC (by omega)
        subst hA
        obtain ⟨x0, x1⟩ := unhide HI (i + 1) hpl
        have p0 : wr.cell? ⟨b, off + (i + 1), none⟩ = some (.int .i64 (ps.getD (i + 1) 0)) := (cell_below hbl hbb).trans (hcell (i + 1) hpl)
        have hix := idx_has hall x0 x1
        have hiv : intsV wr (.slice (some ⟨w1.heap.size, 0, none⟩) ps.length ps.length) o := ⟨_, _, by rw [ho], fun _ => ⟨w1.heap.size, 0, rfl, (Array.getElem?_eq_some_iff.1 hrow).1, fun k hk => by rw [Nat.zero_add]; exact cell_rowO hrow k hk⟩⟩
        have K := hide (index33 _ o (ps.getD (i + 1) 0) wr hiv (by omega) hix)
        have hxat := idx_at o _ hix
        generalize ps.getD (i + 1) 0 = x at *
        generalize idx o x = c at *
        have q1 : ((i + 1 : Nat) : Int) < (ps.length : Int) := by omega
        have q0 : (1 : Int) ≤ ((i + 1 : Nat) : Int) := by omega
        have c1 : (c : Int) < (ps.length : Int) := by omega
        have c0 : (0 : Int) ≤ (c : Int) := by omega
        obtain ⟨P, hP⟩ : ∃ P, i + 1 = P := ⟨_, rfl⟩
        rw [hP] at p0 q1 q0 hch ⊢
        have p1 := cell_rowO hrow P (by omega)
        have p2 := free_rowO hrow P
        have p3 := cell_rowO hrow c (by omega)
        have s1 := set_rowO hrow P (o.getD c 0) (by omega)
        have p4 := free_rowO s1 c
        have p5 := cell_rowO s1 c (by rw [List.length_set]; omega)
        have s2 := set_rowO s1 c (o.getD P 0) (by rw [List.length_set]; omega)
        have l1 : Lone w1.heap.size wr (((wr.setCell ⟨w1.heap.size, P, none⟩ (.int .i64 (o.getD c 0))).setCell ⟨w1.heap.size, c, none⟩ (.int .i64 (o.getD P 0))).drew) := ((lone_setCell _ P wr _).trans (lone_setCell _ c _ _)).trans (lone_drew _ _)
        have F1 : Hid ((((wr.setCell ⟨w1.heap.size, P, none⟩ (.int .i64 (o.getD c 0))).setCell ⟨w1.heap.size, c, none⟩ (.int .i64 (o.getD P 0))).drew).heap[w1.heap.size]? = some (rowObj 3 .i64 (swp o P c) [])) := hide s2
        have F2 := hide (ownsRow_lone hown l1 (by omega))
        have F3 := hide (l1.below hbl (Nat.le_refl _) hbl.size)
        have HO := hide (show (swp o P c).length = ps.length by rw [swp_len]; exact ho)
        have HH := hide (hasAll_swp (i := P) (j := c) hall (by omega) (by omega))
        have HX : Hid ((cs ++ [(c : Int)]) ++ chF ps i (swp o P c) = chF ps (ps.length - 1) (rg ps.length)) := hide (by rw [List.append_assoc]; exact hch)
        have HL : Hid (cs.length + P + 1 = ps.length) := hide (by omega)
        have HP := hide hP
        have cb : cs.length ≤ 16 := by omega
        clear hcell hbb hrow hown hbl hall ho hcl hch s1 s2 l1 hiv hix x0 x1 hpl hp0 hP
        generalize swp o P c = o2 at *
        generalize ((o.set P (o.getD c 0)).getD c 0) = z at *
        rw [hxat] at *
        generalize o.getD P 0 = y at *
        clear hxat
        go_wp2_with fail
        refine (unhide K).mono ?_
        rintro e w3 ⟨rfl, hw3⟩
        have hw4 := hw3.symm
        subst hw4
        clear K
        go_wp2
        go_region
        all_goals
          generalize (((wr.setCell ⟨w1.heap.size, P, none⟩ (.int .i64 x)).setCell ⟨w1.heap.size, c, none⟩ (.int .i64 y)).drew) = w5 at *
          have f2 := unhide F2
          have f3 := unhide F3
          go_wp2_with (at_builtin; refine wpList_append_lies _ rfl _ _ 23 rfl (w1.heap.size + 1) 3 i0 (.int .i64 0) 1 8 Try.underlying23 hi0 hz0 hz1 hz2 rfl (by omega) u6 cs.length (cs.map (Value.int .i64)) rfl (f2.alloc _) ⟨w5.heap.size, 0, none⟩ 1 1 [.int .i64 (c : Int)] rfl rfl (World.news_of_block (cs := #[.int .i64 (c : Int)]) (t := 3) (fr := (0, 0)) (heap_alloc_new w5 _)) (by simp [Value.oneCell']) (by omega) (by unfold maxLen; omega) (by omega) (by have := f3.size; have := (Array.getElem?_eq_some_iff.1 (unhide F1)).1; simp; omega) (w5.heap.size + 1) (by simp) ?_; intro gg cp w6 hown6 hgrow6 hat hltg)
          have B6 := hide ((bl_al f3).grown hgrow6 (bl_al f3).size fun k hk => by have := (f2.lt k hk).1; omega)
          have R6 : Hid (w6.heap[w1.heap.size]? = some (rowObj 3 .i64 o2 [])) := hide (by
            rw [hgrow6.block _ (by have := (Array.getElem?_eq_some_iff.1 (unhide F1)).1; simp; omega) (fun e => by have := (f2.lt _ e.symm).1; omega), Below.heap_alloc _ _ _ (Array.getElem?_eq_some_iff.1 (unhide F1)).1]
            exact unhide F1)
          have O6 : Hid (w6.ownsRow (w1.heap.size + 1) 3 1 (.slice (some ⟨gg, 0, none⟩) (cs.length + 1) cp) (cs ++ [(c : Int)]).length ((cs ++ [(c : Int)]).map (Value.int .i64))) := hide (by rw [map_snoc, List.length_append]; exact hown6)
          clear f2 f3 hown6 hgrow6 hat hltg F1 F2 F3
          go_wp2
          go_roundw
          case rel => exact ⟨i, o2, cs ++ [(c : Int)], by have := unhide HP; have := unhide HL; omega, by have := unhide HP; go_num, unhide HO, unhide HH, by have := unhide HP; have := unhide HL; rw [List.length_append, List.length_singleton]; omega, unhide HX, unhide R6, unhide O6, unhide B6⟩
          case measure => have := unhide HP; simp [intOf]; omega
  · rw [chR_code rfl hne]
    clear HV
    have h0 : (pmC ps != 0) = true := by simpa using hne
    clear hn hne
    generalize pmC ps = c at *
    go_enter Try.func12, Try.ntmps12
    go_wp2_with fail
    refine (unhide K1).mono ?_
    rintro e w1 ⟨rfl, hb⟩
    have HB1 := hide hb
    clear K1 hb
    go_wp2
    go_ret2
    exact ⟨_, rfl, .inl ⟨rfl, rfl⟩, unhide HB1⟩
end Go.Proofs.Ytfodcnnaeakhfaa
