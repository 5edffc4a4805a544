/- What RouteBack asks for: the program's code. -/
import Derived.Test.YtggiijlgdpkkfaaDoorBks
import Derived.Test.YtggiijlgdpkkfaaDoorMxs
import Derived.Deep.AppendLies
namespace Go.Proofs.YtggiijlgdpkkfaaDoor
open Go.RowKit
set_option maxHeartbeats 4000000
set_option maxRecDepth 20000
theorem ways28 (vf vr : Value) (fs : List Int) (rs : List ByteArray) (n : Nat) (w : World) (hf : intsV w vf fs) (hr : strsV w vr rs) (hl : fs.length ≤ 16) (hlr : rs.length = fs.length) (hn : n ≤ 16) :
    Calls Tryd.prog 28 #[vf, vr, .int .i64 (n : Int)] w fun e w' => e = .returned (.bool (wyB n fs rs (List.replicate n false))) ∧ Below w.heap.size w w' := by
  obtain ⟨i0, hi0, hz0, hz1, hz2⟩ := info_parts info3
  obtain ⟨A, cap, rfl, hcf⟩ := hf
  obtain ⟨A2, cap2, rfl, hcr⟩ := hr
  rw [hlr] at hcr ⊢
  have HF := hide hcf
  have HR := hide hcr
  have n0 : (0 : Int) ≤ (fs.length : Int) := by omega
  have n1 : (fs.length : Int) ≤ 16 := by omega
  have HL := hide hl
  have HN := hide hn
  have HEQ := hide (wyB_eq n fs rs (List.replicate n false))
  clear hcf hcr hlr hl hn
  go_enter Tryd.func28, Tryd.ntmps28
  go_wp2
  go_loopw [7, 12] (fun u i wr => ∃ (j : Nat), j ≤ fs.length ∧ i = .int .i64 (j : Int) ∧ keysB (fs.drop j) (rs.drop j) = keysB fs rs ∧ (plF (fs.take j)).length ≤ j ∧ wr.ownsRow w.heap.size 3 1 u (plF (fs.take j)).length ((plF (fs.take j)).map (Value.int .i64)) ∧ Below w.heap.size w wr) (fun _ i _ => fs.length - (intOf i).toNat)
  case atStart => exact ⟨0, by omega, rfl, rfl, Nat.le_refl _, ⟨rfl, .inl ⟨rfl, rfl⟩⟩, Below.refl _ _⟩
  case round =>
    obtain ⟨j, hj, rfl, hk, hpl, hown, hbl⟩ := hrel
    by_cases hlt : j < fs.length
    · obtain ⟨b, off, hA, hbb, hcf⟩ := unhide HF (by omega)
      obtain ⟨b2, off2, hA2, hbb2, hcr⟩ := unhide HR (by omega)
      subst hA hA2
      have q1 : (j : Int) < (fs.length : Int) := by omega
      have q0 : (0 : Int) ≤ (j : Int) := by omega
      have p0 : wr.cell? ⟨b, off + j, none⟩ = some (.int .i64 (fs.getD j 0)) := (cell_below hbl hbb).trans (hcf j hlt)
      have p1 : wr.cell? ⟨b2, off2 + j, none⟩ = some (.string (rs.getD j noS)) := (cell_below hbl hbb2).trans (hcr j hlt)
      have hsn := plF_snoc hlt
      rw [keysB_drop hlt] at hk
      have HJ := hide hlt
      clear hcf hcr hlt hj hbb hbb2
      generalize fs.getD j 0 = x at *
      generalize rs.getD j noS = t at *
      by_cases hx : x = -1
      · subst hx
        rw [if_pos rfl] at hsn
        have HK : Hid (keysB (fs.drop (j + 1)) (rs.drop (j + 1)) = keysB fs rs) := hide (by rw [← hk]; rfl)
        have HO : Hid (wr.ownsRow w.heap.size 3 1 u7 (plF (fs.take (j + 1))).length ((plF (fs.take (j + 1))).map (Value.int .i64))) := hide (by rw [hsn]; exact hown)
        have HP : Hid ((plF (fs.take (j + 1))).length ≤ j + 1) := hide (by rw [hsn]; omega)
        have HB := hide hbl
        clear hk hsn hown hpl hbl
        go_wp2
        go_roundw
        case rel => exact ⟨j + 1, unhide HJ, by go_num, unhide HK, unhide HP, unhide HO, unhide HB⟩
        case measure => have := unhide HJ; simp [intOf]; omega
      · have hx2 : (x == -1) = false := by simpa using hx
        rw [decide_eq_false hx, Bool.false_or] at hk
        rw [if_neg hx] at hsn
        have K := hide (fun W => no23 t W)
        generalize isK t = bb at *
        cases bb
        · have HK : Hid (keysB fs rs = false) := hide (by rw [← hk]; rfl)
          have HB := hide hbl
          clear hk hsn hown hpl hbl hx
          go_wp2_with fail
          refine (unhide K _).mono ?_
          rintro e w' ⟨rfl, hw'⟩
          have hw2 := hw'.symm
          subst hw2
          clear K
          go_wp2
          go_ret
          exact ⟨ret_bool (by rw [unhide HEQ, unhide HK]; rfl), unhide HB⟩
        · have HK : Hid (keysB (fs.drop (j + 1)) (rs.drop (j + 1)) = keysB fs rs) := hide (by rw [← hk]; rfl)
          have jb : (plF (fs.take j)).length ≤ 16 := by have := unhide HL; have := unhide HJ; omega
          have HP : Hid ((plF (fs.take (j + 1))).length ≤ j + 1) := hide (by rw [hsn, List.length_append, List.length_singleton]; omega)
          have HSN := hide hsn
          clear hk hsn hx
          generalize plF (fs.take j) = ps at *
          go_wp2_with fail
          refine (unhide K _).mono ?_
          rintro e w' ⟨rfl, hw'⟩
          have hw2 := hw'.symm
          subst hw2
          clear K
          go_wp2_with (at_builtin; refine wpList_append_lies _ rfl _ _ 23 rfl (w.heap.size) 3 i0 (.int .i64 0) 1 8 Tryd.underlying23 hi0 hz0 hz1 hz2 rfl (by omega) u7 ps.length (ps.map (Value.int .i64)) rfl (hown.alloc _) ⟨wr.heap.size, 0, none⟩ 1 1 [.int .i64 (x : Int)] rfl rfl (World.news_of_block (cs := #[.int .i64 (x : Int)]) (t := 3) (fr := (0, 0)) (heap_alloc_new wr _)) (by simp [Value.oneCell']) (by omega) (by unfold maxLen; omega) (by omega) (by have := hbl.size; simp; omega) (wr.heap.size + 1) (by simp) ?_; intro gg cp w3 hown3 hgrow3 hat hltg)
          have HB := hide ((bl_al hbl).grown hgrow3 (bl_al hbl).size fun k hk => (hown.lt k hk).1)
          have HO : Hid (w3.ownsRow w.heap.size 3 1 (.slice (some ⟨gg, 0, none⟩) (ps.length + 1) cp) (plF (fs.take (j + 1))).length ((plF (fs.take (j + 1))).map (Value.int .i64))) := hide (by rw [unhide HSN, List.map_append, List.length_append]; exact hown3)
          clear hown hpl hbl hown3 hgrow3 hat hltg
          go_wp2
          go_roundw
          case rel => exact ⟨j + 1, unhide HJ, by go_num, unhide HK, unhide HP, unhide HO, unhide HB⟩
          case measure => have := unhide HJ; simp [intOf]; omega
    · obtain rfl : j = fs.length := by omega
      rw [List.drop_length, keysB] at hk
      rw [List.take_length] at hpl hown
      have K := hide (diff44 u7 (plF fs) n wr (rowI hown rfl).ints (by omega) (by have := unhide HN; omega))
      have HK := hide hk.symm
      have HB := hide hbl
      clear hk hown hbl hpl hlt
      generalize disB n (plF fs) (List.replicate n false) = bb at *
      go_wp2_with fail
      refine (unhide K).mono ?_
      rintro e w1 ⟨rfl, hb⟩
      have HB1 := hide (bl_st hb (unhide HB))
      clear K hb
      go_wp2
      go_ret
      exact ⟨ret_bool (by rw [unhide HEQ, unhide HK]; rfl), unhide HB1⟩
def bkC (x : Mx) (c : Int) (bs : List ByteArray) : Int :=
  if 4096 < bs.length then 2 else if 0 ≤ c ∧ c ≤ 16 then (if (x.f.length ≤ 16 ∧ x.r.length = x.f.length ∧ bs.length = x.f.length) ∧ itB bs = true ∧ wyB c.toNat x.f x.r (List.replicate c.toNat false) = true then 0 else 1) else 4
theorem bkC_cases (x : Mx) (c : Int) (bs : List ByteArray) : (4096 < bs.length ∧ bkC x c bs = 2) ∨ (bs.length ≤ 4096 ∧ ¬ (0 ≤ c ∧ c ≤ 16) ∧ bkC x c bs = 4) ∨
    (bs.length ≤ 4096 ∧ (0 ≤ c ∧ c ≤ 16) ∧ ¬ (x.f.length ≤ 16 ∧ x.r.length = x.f.length ∧ bs.length = x.f.length) ∧ bkC x c bs = 1) ∨
    (bs.length ≤ 4096 ∧ (0 ≤ c ∧ c ≤ 16) ∧ (x.f.length ≤ 16 ∧ x.r.length = x.f.length ∧ bs.length = x.f.length) ∧ bkC x c bs = if (itB bs && wyB c.toNat x.f x.r (List.replicate c.toNat false)) = true then 0 else 1) := by
  unfold bkC
  by_cases h1 : 4096 < bs.length
  · exact .inl ⟨h1, by rw [if_pos h1]⟩
  · by_cases h2 : 0 ≤ c ∧ c ≤ 16
    · by_cases h3 : x.f.length ≤ 16 ∧ x.r.length = x.f.length ∧ bs.length = x.f.length
      · refine .inr (.inr (.inr ⟨by omega, h2, h3, ?_⟩))
        rw [if_neg h1, if_pos h2]
        simp only [h3, true_and, and_self, Bool.and_eq_true]
      · exact .inr (.inr (.inl ⟨by omega, h2, h3, by rw [if_neg h1, if_pos h2, if_neg (fun h => h3 h.1)]⟩))
    · exact .inr (.inl ⟨by omega, h2, by rw [if_neg h1, if_neg h2]⟩)
theorem back20 (i r f s vb : Value) (x : Mx) (c : Int) (bs : List ByteArray) (w : World) (hr : strsV w r x.r) (hf : intsV w f x.f) (hb : strsV w vb bs) (nr : x.r.length ≤ 1048576) (nf : x.f.length ≤ 1048576) (nb : bs.length ≤ 1048576) :
    Calls Tryd.prog 20 #[mxo i r f s x.b x.a, .int .i64 c, vb] w fun e w' => e = .returned (.int .i64 (bkC x c bs)) ∧ Below w.heap.size w w' := by
  obtain ⟨xi, xr, xf, xs, xb, xa⟩ := x
  dsimp only at *
  have B0 : Below w.heap.size w (w.alloc (.cells #[i, r, f, s, .int .i64 xb, .int .i64 xa] 30)) := bl_al (Below.refl _ _)
  have K1 := hide (long21 vb bs _ (hb.below B0) (by omega))
  have K2 := hide (items27 vb bs _ (hb.below B0) (by omega))
  have K3 := hide (fun (n : Nat) h1 h2 h3 => ways28 f r xf xr n _ (hf.below B0) (hr.below B0) h1 h2 h3)
  obtain ⟨_, c0, c1, c2, c3, c4, c5⟩ := mc_new w i r f s xb xa 30
  have HB0 := hide B0
  obtain ⟨A1, d1, rfl⟩ := hb.slice
  obtain ⟨A2, d2, rfl⟩ := hr.slice
  obtain ⟨A3, d3, rfl⟩ := hf.slice
  have n0 : (0 : Int) ≤ (bs.length : Int) := by omega
  have n1 : (bs.length : Int) ≤ 1048576 := by omega
  have n2 : (0 : Int) ≤ (xr.length : Int) := by omega
  have n3 : (xr.length : Int) ≤ 1048576 := by omega
  have n4 : (0 : Int) ≤ (xf.length : Int) := by omega
  have n5 : (xf.length : Int) ≤ 1048576 := by omega
  clear B0 hr hf hb
  rcases bkC_cases ⟨xi, xr, xf, xs, xb, xa⟩ c bs with ⟨h1, hg⟩ | ⟨h1, h2, hg⟩ | ⟨h1, h2, h3, hg⟩ | ⟨h1, h2, h3, hg⟩
  · rw [hg]
    rw [decide_eq_true h1] at K1
    clear h1 hg K2 K3 nr nf nb
    go_enter Tryd.func20, Tryd.ntmps20
    go_wp2_with fail
    refine (unhide K1).mono ?_
    rintro e w' ⟨rfl, hw'⟩
    have hw2 := hw'.symm
    subst hw2
    clear K1
    go_wp2
    go_ret
    exact ⟨rfl, unhide HB0⟩
  · rw [hg]
    rw [decide_eq_false (by omega)] at K1
    clear h1 hg K2 K3 nr nf nb
    by_cases h0 : c < 0
    · clear h2
      go_enter Tryd.func20, Tryd.ntmps20
      go_wp2_with fail
      refine (unhide K1).mono ?_
      rintro e w' ⟨rfl, hw'⟩
      have hw2 := hw'.symm
      subst hw2
      clear K1
      go_wp2
      go_ret
      exact ⟨rfl, unhide HB0⟩
    · have h4 : 0 ≤ c := by omega
      have h5 : 16 < c := by omega
      clear h2 h0
      go_enter Tryd.func20, Tryd.ntmps20
      go_wp2_with fail
      refine (unhide K1).mono ?_
      rintro e w' ⟨rfl, hw'⟩
      have hw2 := hw'.symm
      subst hw2
      clear K1
      go_wp2
      go_ret
      exact ⟨rfl, unhide HB0⟩
  · rw [hg]
    rw [decide_eq_false (by omega)] at K1
    obtain ⟨h4, h5⟩ := h2
    dsimp only at h3
    have hcase : 16 < xf.length ∨ (xf.length ≤ 16 ∧ xr.length ≠ xf.length) ∨ (xf.length ≤ 16 ∧ xr.length = xf.length ∧ bs.length ≠ xf.length) := by omega
    clear h1 hg K2 K3 nr nf nb h3
    rcases hcase with h | ⟨h, h'⟩ | ⟨h, h', h''⟩
    · have q : (16 : Int) < (xf.length : Int) := by omega
      clear h
      go_enter Tryd.func20, Tryd.ntmps20
      go_wp2_with fail
      refine (unhide K1).mono ?_
      rintro e w' ⟨rfl, hw'⟩
      have hw2 := hw'.symm
      subst hw2
      clear K1
      go_wp2
      go_ret
      exact ⟨rfl, unhide HB0⟩
    · have q : (xf.length : Int) ≤ 16 := by omega
      have q2 : ((xr.length : Int) != (xf.length : Int)) = true := by simp; omega
      clear h h'
      go_enter Tryd.func20, Tryd.ntmps20
      go_wp2_with fail
      refine (unhide K1).mono ?_
      rintro e w' ⟨rfl, hw'⟩
      have hw2 := hw'.symm
      subst hw2
      clear K1
      go_wp2
      go_ret
      exact ⟨rfl, unhide HB0⟩
    · have q : (xf.length : Int) ≤ 16 := by omega
      have q2 : ((xr.length : Int) != (xf.length : Int)) = false := by simp; omega
      have q3 : ((bs.length : Int) != (xf.length : Int)) = true := by simp; omega
      clear h h' h''
      go_enter Tryd.func20, Tryd.ntmps20
      go_wp2_with fail
      refine (unhide K1).mono ?_
      rintro e w' ⟨rfl, hw'⟩
      have hw2 := hw'.symm
      subst hw2
      clear K1
      go_wp2
      go_ret
      exact ⟨rfl, unhide HB0⟩
  · rw [hg]
    rw [decide_eq_false (by omega)] at K1
    obtain ⟨h4, h5⟩ := h2
    dsimp only at h3 ⊢
    obtain ⟨h, h', h''⟩ := h3
    have q : (xf.length : Int) ≤ 16 := by omega
    have q2 : ((xr.length : Int) != (xf.length : Int)) = false := by simp; omega
    have q3 : ((bs.length : Int) != (xf.length : Int)) = false := by simp; omega
    have K4 := hide (unhide K3 c.toNat h h' (by omega))
    rw [Int.toNat_of_nonneg h4] at K4
    clear K3 h1 hg nr nf nb h h' h''
    generalize wyB c.toNat xf xr (List.replicate c.toNat false) = b2 at *
    generalize itB bs = b1 at *
    cases b1
    · clear K4
      go_enter Tryd.func20, Tryd.ntmps20
      go_wp2_with fail
      refine (unhide K1).mono ?_
      rintro e w' ⟨rfl, hw'⟩
      have hw2 := hw'.symm
      subst hw2
      clear K1
      go_wp2_with fail
      refine (unhide K2).mono ?_
      rintro e w' ⟨rfl, hw'⟩
      have hw2 := hw'.symm
      subst hw2
      clear K2
      go_wp2
      go_ret
      exact ⟨rfl, unhide HB0⟩
    · cases b2
      all_goals
        go_enter Tryd.func20, Tryd.ntmps20
        go_wp2_with fail
        refine (unhide K1).mono ?_
        rintro e w' ⟨rfl, hw'⟩
        have hw2 := hw'.symm
        subst hw2
        clear K1
        go_wp2_with fail
        refine (unhide K2).mono ?_
        rintro e w' ⟨rfl, hw'⟩
        have hw2 := hw'.symm
        subst hw2
        clear K2
        go_wp2_with fail
        refine (unhide K4).mono ?_
        rintro e w1 ⟨rfl, hb⟩
        have HB1 := hide (bl_st hb (unhide HB0))
        clear K4 hb
        go_wp2
        go_ret
        exact ⟨rfl, unhide HB1⟩
end Go.Proofs.YtggiijlgdpkkfaaDoor
