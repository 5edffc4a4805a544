/- Texts at any place of a block of their own; marked. -/
import Derived.Test.YthonnlifgdnacaaMst
import Derived.Test.YthonnlifgdnacaaClo
import Derived.OwnWalk
namespace Go.Proofs.Ythonnlifgdnacaa
open Go.RowKit
set_option maxHeartbeats 4000000
set_option maxRecDepth 20000
/-- texts that lie in a block of their own, between lo and hi, from any place of it on -/
def ownG (lo hi : Nat) (w : World) (v : Value) (ts : List ByteArray) : Prop :=
  (v = .slice none 0 0 ∧ ts = []) ∨ ∃ g off cap cs, v = .slice (some ⟨g, off, none⟩) ts.length cap ∧ lo ≤ g ∧ g < hi ∧ w.heap[g]? = some (.cells cs 9 (0, 0)) ∧ ts.length ≤ cap ∧ ∀ i, i < ts.length → cs[off + i]? = some (.string (ts.getD i noS))
theorem ownG.strs {lo hi : Nat} {w : World} {v : Value} {ts : List ByteArray} (h : ownG lo hi w v ts) : strsV w v ts := by
  obtain ⟨rfl, rfl⟩ | ⟨g, off, cap, cs, rfl, hg, hh, hc, hcp, hi⟩ := h
  · exact ⟨none, 0, rfl, fun h => by simp at h⟩
  · exact ⟨_, _, rfl, fun _ => ⟨g, off, rfl, (Array.getElem?_eq_some_iff.1 hc).1, fun i h => by rw [row_cell hc]; exact hi i h⟩⟩
theorem ownG.below {lo hi : Nat} {w w' : World} {v : Value} {ts : List ByteArray} (h : ownG lo hi w v ts) (hb : Below w.heap.size w w') : ownG lo hi w' v ts := by
  obtain h | ⟨g, off, cap, cs, rfl, hg, hh, hc, hcp, hi⟩ := h
  · exact .inl h
  · exact .inr ⟨g, off, cap, cs, rfl, hg, hh, (hb.block g (Array.getElem?_eq_some_iff.1 hc).1).trans hc, hcp, hi⟩
theorem ownG.wide {lo hi lo' hi' : Nat} {w : World} {v : Value} {ts : List ByteArray} (h : ownG lo hi w v ts) (e1 : lo' ≤ lo) (e2 : hi ≤ hi') : ownG lo' hi' w v ts := by
  obtain h | ⟨g, off, cap, cs, rfl, hg, hh, hc, hcp, hi⟩ := h
  · exact .inl h
  · exact .inr ⟨g, off, cap, cs, rfl, by omega, by omega, hc, hcp, hi⟩
theorem ownG.lies {lo hi : Nat} {w : World} {v : Value} {ts : List ByteArray} (h : ownG lo hi w v ts) : liesIn lo hi v := by
  intro g hg
  obtain ⟨rfl, _⟩ | ⟨g', off, cap, cs, rfl, h1, h2, _⟩ := h
  · cases hg
  · cases hg; exact ⟨h1, h2⟩
theorem ownG.cap {lo hi : Nat} {w : World} {v : Value} {ts : List ByteArray} (h : ownG lo hi w v ts) : ∃ A c, v = .slice A ts.length c ∧ ts.length ≤ c := by
  obtain ⟨rfl, rfl⟩ | ⟨g, off, cap, cs, rfl, _, _, _, hcp, _⟩ := h
  · exact ⟨_, _, rfl, Nat.le_refl _⟩
  · exact ⟨_, _, rfl, hcp⟩
/-- nothing but the block of v has turned, which is another one -/
theorem ownG.touchS {lo hi : Nat} {w w' : World} {u v : Value} {ts : List ByteArray} (h : ownG lo hi w u ts) (ht : TouchS v w w') (hd : ∀ g, u.ownBlock = some g → v.ownBlock ≠ some g) : ownG lo hi w' u ts := by
  obtain h | ⟨g, off, cap, cs, rfl, hg, hh, hc, hcp, hi⟩ := h
  · exact .inl h
  · exact .inr ⟨g, off, cap, cs, rfl, hg, hh, (ht.block g (Array.getElem?_eq_some_iff.1 hc).1 (hd g rfl)).trans hc, hcp, hi⟩
theorem ownG.lone {q lo hi : Nat} {w w' : World} {v : Value} {ts : List ByteArray} (h : ownG lo hi w v ts) (hl : Lone q w w') (hq : q < lo ∨ hi ≤ q) : ownG lo hi w' v ts := by
  obtain h | ⟨g, off, cap, cs, rfl, hg, hh, hc, hcp, hi⟩ := h
  · exact .inl h
  · exact .inr ⟨g, off, cap, cs, rfl, hg, hh, (hl.block g (Array.getElem?_eq_some_iff.1 hc).1 (by omega)).trans hc, hcp, hi⟩
/-- nothing that was there has turned but what lies between lo and hi -/
structure TouchR (lo hi : Nat) (w w' : World) : Prop where
  os : w'.os = w.os
  tape : w'.tape = w.tape
  output : w'.output = w.output
  size : w.heap.size ≤ w'.heap.size
  block : ∀ k, k < w.heap.size → k < lo ∨ hi ≤ k → w'.heap[k]? = w.heap[k]?
theorem TouchR.trans {lo hi : Nat} {a b c : World} (h : TouchR lo hi a b) (g : TouchR lo hi b c) : TouchR lo hi a c :=
  ⟨g.os.trans h.os, g.tape.trans h.tape, g.output.trans h.output, Nat.le_trans h.size g.size, fun k hk hq => (g.block k (Nat.lt_of_lt_of_le hk h.size) hq).trans (h.block k hk hq)⟩
theorem TouchR.of_below {lo hi : Nat} {a b : World} (h : Below a.heap.size a b) : TouchR lo hi a b := ⟨h.os, h.tape, h.output, h.size, fun k hk _ => h.block k hk⟩
theorem TouchR.of_touch {lo hi : Nat} {v : Value} {a b : World} (h : TouchS v a b) (hl : liesIn lo hi v) : TouchR lo hi a b :=
  ⟨h.os, h.tape, h.output, h.size, fun k hk hq => h.block k hk fun e => by have := hl k e; omega⟩
theorem belowR {B lo hi : Nat} {a w w' : World} (h : Below B a w) (ht : TouchR lo hi w w') (hB : B ≤ lo) (hw : B ≤ w.heap.size) : Below B a w' :=
  ⟨ht.os.trans h.os, ht.tape.trans h.tape, ht.output.trans h.output, Nat.le_trans h.size ht.size, fun k hk => by
    rw [ht.block k (by omega) (by omega)]; exact h.block k hk⟩
theorem ownG.touchR {lo hi lo' hi' : Nat} {w w' : World} {u : Value} {xs : List ByteArray} (h : ownG lo hi w u xs) (ht : TouchR lo' hi' w w') (hd : hi ≤ lo' ∨ hi' ≤ lo) : ownG lo hi w' u xs := by
  obtain h | ⟨g, off, cap, cs, rfl, hg, hh, hc, hcp, hi⟩ := h
  · exact .inl h
  · exact .inr ⟨g, off, cap, cs, rfl, hg, hh, (ht.block g (Array.getElem?_eq_some_iff.1 hc).1 (by omega)).trans hc, hcp, hi⟩
theorem strsV.slice {w : World} {v : Value} {xs : List ByteArray} (h : strsV w v xs) : ∃ A c, v = .slice A xs.length c := by
  obtain ⟨A, c, e, _⟩ := h; exact ⟨A, c, e⟩
theorem ownG.of_ownS {lo hi : Nat} {w : World} {v : Value} {ts : List ByteArray} (h : ownS lo hi w v ts) : ownG lo hi w v ts := by
  obtain h | ⟨g, cap, rest, rfl, hg, hh, hc, hcp⟩ := h
  · exact .inl h
  · refine .inr ⟨g, 0, cap, _, rfl, hg, hh, hc, hcp, fun i hi => ?_⟩
    have := cell_strO hc i hi
    rw [strO] at hc
    rw [row_cell hc] at this
    rw [Nat.zero_add]; exact this
theorem ownG.of_row {base hi : Nat} {w : World} {v : Value} {ts : List ByteArray} {n : Nat} (hn : n = ts.length) (h : w.ownsRow base 9 1 v n (ts.map Value.string)) (hh : ∀ g, v.ownBlock = some g → g < hi) : ownG base hi w v ts := by
  subst hn
  obtain ⟨_, ⟨rfl, h0⟩ | ⟨g, cap, cur, rfl, hb, hc, h1, _, h3, h4⟩⟩ := h
  · exact .inl ⟨rfl, List.length_eq_zero_iff.1 h0⟩
  · refine .inr ⟨g, 0, cap, cur, rfl, hb, hh g rfl, hc, h1, fun i hi => ?_⟩
    have := congrArg (fun l => l[i]?) h4
    simp only [Nat.mul_one] at this
    rw [List.getElem?_take, if_pos hi, List.getElem?_map, List.getElem?_eq_getElem hi, Array.getElem?_toList] at this
    rw [Nat.zero_add, this, List.getD_eq_getElem?_getD, List.getElem?_eq_getElem hi]
    rfl
theorem clone55 (t : ByteArray) (w : World) (hl : t.size ≤ 2097152) :
    Calls Try.prog 55 #[.string t] w fun e w' => e = .returned (.string t) ∧ Below w.heap.size w w' := by
  by_cases h0 : 0 < t.size
  · exact clone26 t w h0 hl
  · have he : t = noS := by
      have e : t.size = 0 := by omega
      cases t with | mk d =>
        simp only [ByteArray.size] at e
        rw [Array.eq_empty_of_size_eq_zero e]
    subst he
    clear h0 hl
    have h : Hid (Calls Try.prog 83 #[.string noS] w fun e w' => e = .returned (.string noS) ∧ w' = w) := by
      apply hide
      go_enter Try.func83, Try.ntmps83
      go_wp2
      go_ret
      exact ⟨rfl, rfl⟩
    go_enter Try.func55, Try.ntmps55
    go_wp2_with fail
    refine (unhide h).mono ?_
    rintro e w1 ⟨rfl, rfl⟩
    go_wp2
    go_ret
    exact ⟨rfl, Below.refl _ _⟩
theorem szS (v : Value) (ts : List ByteArray) (L : Int) (w : World) (hv : strsV w v ts) (hl : ts.length ≤ maxLen) (hs : ∀ t ∈ ts, t.size ≤ maxLen) (hL : 0 ≤ L) (hL' : L ≤ 1048576) :
    Calls Try.prog 62 #[v, .int .i64 L] w fun e w' => ∃ z : Int, e = .returned (.int .i64 z) ∧ (z < 0 ∨ 0 ≤ z ∧ z + (ts.length : Int) ≤ L) ∧ w' = w := by
  obtain ⟨A, cap, rfl, hc⟩ := hv
  have HC := hide hc
  have HS := hide hs
  clear hc hs
  obtain ⟨n, hnx⟩ : ∃ n, n = ts.length := ⟨_, rfl⟩
  rw [← hnx] at hl HC ⊢
  have HN := hide hnx
  unfold maxLen at hl
  have n0 : (0 : Int) ≤ (n : Int) := by omega
  have n1 : (n : Int) ≤ 9223372036854775807 := by omega
  clear hnx
  by_cases hb : L < (n : Int)
  · clear hl
    go_enter Try.func62, Try.ntmps62
    go_wp2
    go_ret
    exact ⟨_, rfl, .inl (by omega), rfl⟩
  · have q : (n : Int) ≤ L := by omega
    clear hb hl n1
    go_enter Try.func62, Try.ntmps62
    go_wp2
    go_loopw [1, 5] (fun left i wr => ∃ (j : Nat) (l : Int), j ≤ n ∧ i = .int .i64 j ∧ left = .int .i64 l ∧ 0 ≤ l ∧ l + (n : Int) ≤ L ∧ wr = w) (fun _ i _ => n - (intOf i).toNat)
    case atStart => exact ⟨0, _, by omega, rfl, rfl, by omega, by omega, rfl⟩
    case round =>
      obtain ⟨j, l, hj, rfl, rfl, l0, l1, rfl⟩ := hrel
      by_cases hlt : j < n
      · obtain ⟨b, off, hA, _, hcell⟩ := unhide HC (by omega)
        subst hA
        have q1 : (j : Int) < (n : Int) := by omega
        have q0 : (0 : Int) ≤ (j : Int) := by omega
        have p0 := hcell j hlt
        have sz : (ts.getD j noS).size ≤ maxLen := unhide HS _ (by rw [List.getD_eq_getElem?_getD, List.getElem?_eq_getElem (by rw [← unhide HN]; exact hlt)]; exact List.getElem_mem _)
        unfold maxLen at sz
        have z0 : (0 : Int) ≤ ((ts.getD j noS).size : Int) := by omega
        have z1 : ((ts.getD j noS).size : Int) ≤ 9223372036854775807 := by omega
        have HJ := hide hlt
        clear hcell hlt hj sz
        generalize ts.getD j noS = t at *
        by_cases hneg : l < (t.size : Int)
        · go_wp2
          go_ret
          exact ⟨_, rfl, .inl (by omega), rfl⟩
        · have hge : (t.size : Int) ≤ l := by omega
          clear hneg
          go_wp2
          go_roundw
          case rel => exact ⟨j + 1, _, unhide HJ, by go_num, rfl, by omega, by omega, by first | rfl | trivial⟩
          case measure => have := unhide HJ; simp [intOf]; omega
      · obtain rfl : j = n := by omega
        clear hlt
        go_wp2
        go_ret
        exact ⟨_, rfl, .inr ⟨l0, l1⟩, rfl⟩
theorem markG (lo hi : Nat) (v : Value) (ts : List ByteArray) (K : Nat) (w : World) (hv : ownG lo hi w v ts) (hn : ts.length ≤ 2097152) (hK : K ≤ 2097152) :
    Calls Try.prog 65 #[v, .int .i64 (K : Int)] w fun e w' => e = .returned (.int .i64 ((K : Int) + (ts.length : Int))) ∧ ownG lo hi w' v (marksK K ts.length) ∧ TouchS v w w' := by
  obtain ⟨rfl, rfl⟩ | ⟨g, off, cap, cs, rfl, hg, hh, hc, hcp, hcs⟩ := hv
  · go_enter Try.func65, Try.ntmps65
    go_wp2
    refine wp_loop_rounds 1 ?_
    rw [rounds_succ]; go_wp2
    go_ret
    exact ⟨by simp, .inl ⟨rfl, rfl⟩, ⟨rfl, rfl, rfl, Nat.le_refl _, fun _ _ _ => rfl⟩⟩
  · obtain ⟨n, hnx⟩ : ∃ n, n = ts.length := ⟨_, rfl⟩
    rw [← hnx] at hn hcs hcp ⊢
    have HS := hide hcs
    have HCP := hide hcp
    have HN := hide hnx
    have HG := hide hg
    have HH := hide hh
    have HC := hide hc
    have k0 : (0 : Int) ≤ (K : Int) := by omega
    have k1 : (K : Int) ≤ 2097152 := by omega
    clear hc hnx hg hcs hh hcp
    go_enter Try.func65, Try.ntmps65
    go_wp2
    go_loopw [1, 5] (fun k i wr => ∃ (j : Nat) (ds : Array Value), j ≤ n ∧ i = .int .i64 j ∧ k = .int .i64 ((K : Int) + (j : Int)) ∧ wr.heap[g]? = some (.cells ds 9 (0, 0)) ∧ (∀ i, i < j → ds[off + i]? = some (.string (mkT (K + i)))) ∧ (∀ i, j ≤ i → i < n → ∃ t, ds[off + i]? = some (.string t)) ∧ Lone g w wr) (fun _ i _ => n - (intOf i).toNat)
    case atStart => exact ⟨0, cs, by omega, rfl, by simp, unhide HC, fun i h => by omega, fun i _ h => ⟨_, unhide HS i h⟩, Lone.refl _ _⟩
    case round =>
      obtain ⟨j, ds, hj, rfl, rfl, ho, hd1, hd2, hlo⟩ := hrel
      by_cases hlt : j < n
      · have q1 : (j : Int) < (n : Int) := by omega
        have q0 : (0 : Int) ≤ (j : Int) := by omega
        have q2 : (n : Int) ≤ 2097152 := by omega
        have hm := hide (mt38 (K + j) (by omega) wr)
        have eK : ((K + j : Nat) : Int) = (K : Int) + (j : Int) := by omega
        obtain ⟨z, hz⟩ : ∃ z : Int, (K : Int) + (j : Int) = z := ⟨_, rfl⟩
        rw [eK, hz] at hm
        rw [hz]
        have z0 : 0 ≤ z := by omega
        have z1 : z ≤ 4194304 := by omega
        have HZ := hide hz
        have HJ := hide hlt
        have HO := hide ho
        have HL := hide hlo
        have HD1 := hide hd1
        have HD2 := hide hd2
        clear hlt hj ho hlo HC eK hz hd1 hd2
        go_wp2_with fail
        refine (unhide hm).mono ?_
        rintro e w1 ⟨rfl, b1⟩
        have ho := (b1.block g (Array.getElem?_eq_some_iff.1 (unhide HO)).1).trans (unhide HO)
        obtain ⟨t0, ht0⟩ := unhide HD2 j (Nat.le_refl _) (unhide HJ)
        have p1 : w1.cell? ⟨g, off + j, none⟩ = some (.string t0) := by rw [row_cell ho]; exact ht0
        have p2 : w1.frozen? ⟨g, off + j, none⟩ = false := row_free ho
        have hlt2 : off + j < ds.size := (Array.getElem?_eq_some_iff.1 ht0).1
        have P3 := hide (row_set (i := off + j) (v := .string (mkT (K + j))) ho)
        have Q1 : Hid (∀ i, i < j + 1 → (ds.setIfInBounds (off + j) (.string (mkT (K + j))))[off + i]? = some (.string (mkT (K + i)))) := hide fun i hi => by
          rw [Array.getElem?_setIfInBounds]
          rcases Nat.lt_or_ge i j with h | h
          · rw [if_neg (by omega)]; exact unhide HD1 i h
          · obtain rfl : i = j := by omega
            rw [if_pos rfl, if_pos hlt2]
        have Q2 : Hid (∀ i, j + 1 ≤ i → i < n → ∃ t, (ds.setIfInBounds (off + j) (.string (mkT (K + j))))[off + i]? = some (.string t)) := hide fun i h1 h2 => by
          rw [Array.getElem?_setIfInBounds, if_neg (by omega)]
          exact unhide HD2 i (by omega) h2
        have L3 := hide (((unhide HL).trans (Lone.of_below b1)).trans (lone_setCell g (off + j) w1 (.string (mkT (K + j)))))
        clear ho b1 HL HO hm ht0 hlt2 HD1 HD2
        generalize ds.setIfInBounds (off + j) (.string (mkT (K + j))) = ds2 at *
        generalize mkT (K + j) = tx at *
        go_wp2
        go_roundw
        case rel => exact ⟨j + 1, ds2, unhide HJ, by go_num, by rw [← unhide HZ]; go_num, unhide P3, unhide Q1, unhide Q2, unhide L3⟩
        case measure => have := unhide HJ; simp [intOf]; omega
      · obtain rfl : j = n := by omega
        have HO := hide ho
        have HL := hide hlo
        have HD1 := hide hd1
        clear ho hlo hlt hd1 hd2
        go_wp2
        go_ret
        refine ⟨rfl, .inr ⟨g, off, cap, ds, by rw [marksK_len], unhide HG, unhide HH, unhide HO, by rw [marksK_len]; exact unhide HCP, fun i hi => by rw [marksK_len] at hi; rw [marksK_at _ _ _ hi]; exact unhide HD1 i hi⟩, ⟨(unhide HL).os, (unhide HL).tape, (unhide HL).output, (unhide HL).size, fun k hk hne => (unhide HL).block k hk (fun e => hne (by rw [e]; rfl))⟩⟩
end Go.Proofs.Ythonnlifgdnacaa
