/- Two who talk, by the program: both in one block, each with lists of its own; one who hangs up. -/
import Derived.Test.YtbkcgkffafjbgaaGreatDoorStp
import Derived.Test.YtbkcgkffafjbgaaGreatDoorSts
import Derived.Test.YtbkcgkffafjbgaaGreatDoorSth
import Derived.Test.YtbkcgkffafjbgaaGreatDoorGf
/- One act of two, by the specification. -/
namespace Go.Proofs.YtbkcgkffafjbgaaGreatDoor
open Go.RowKit
set_option maxHeartbeats 4000000
set_option maxRecDepth 20000
set_option linter.unusedVariables false
theorem step48 (v : Value) (z : Tw) (a : Ta) (w : World) (hv : twV w v z) (hx : peFew z.x) (hy : peFew z.y) (ht : a.t.size ≤ maxLen) (sx : 0 ≤ z.x.s ∧ z.x.s ≤ 1048576) (ex : 0 ≤ z.x.e ∧ z.x.e ≤ 1048576) (sy : 0 ≤ z.y.s ∧ z.y.s ≤ 1048576) (ey : 0 ≤ z.y.e ∧ z.y.e ≤ 1048576) :
    Calls Tryz.prog 22 #[v, taV a] w fun e w' => ∃ r, e = .returned (.tuple #[r, .int .i64 (stepF z a).2]) ∧ twV w' r (stepF z a).1 ∧ (∀ b, b < w.heap.size → offT b w v → offT b w' r) ∧ Below w.heap.size w w' := by
  by_cases h1 : a.k = 1
  · by_cases hw : okW a.w = true
    · rcases okW_cases hw with h | h
      · exact step_say0 v z a w hv hx hy ht sx ex sy ey h1 h
      · exact step_say1 v z a w hv hx hy ht sx ex sy ey h1 h
    · exact step_say_no v z a w hv hx hy ht sx ex sy ey h1 (by simpa using hw)
  by_cases h2 : a.k = 2
  · cases hla : a.la <;> cases hlb : a.lb
    · exact step_round00 v z a w hv hx hy ht sx ex sy ey h2 hla hlb
    · exact step_round01 v z a w hv hx hy ht sx ex sy ey h2 hla hlb
    · exact step_round10 v z a w hv hx hy ht sx ex sy ey h2 hla hlb
    · exact step_round11 v z a w hv hx hy ht sx ex sy ey h2 hla hlb
  by_cases h3 : a.k = 3
  · by_cases hw : okW a.w = true
    · rcases okW_cases hw with h | h
      · by_cases hq : z.x.q.length = 0
        · exact step_hang0e v z a w hv hx hy ht sx ex sy ey h3 h hq
        · exact step_hang0f v z a w hv hx hy ht sx ex sy ey h3 h hq
      · by_cases hq : z.y.q.length = 0
        · exact step_hang1e v z a w hv hx hy ht sx ex sy ey h3 h hq
        · exact step_hang1f v z a w hv hx hy ht sx ex sy ey h3 h hq
    · exact step_hang_no v z a w hv hx hy ht sx ex sy ey h3 (by simpa using hw)
  exact step_other v z a w hv hx hy ht sx ex sy ey h1 h2 h3
end Go.Proofs.YtbkcgkffafjbgaaGreatDoor
/- Lists of acts and of codes, as values. -/
namespace Go.Proofs.YtbkcgkffafjbgaaGreatDoor
open Go.RowKit
set_option maxHeartbeats 4000000
set_option maxRecDepth 20000
set_option linter.unusedVariables false
/-- an act's cells -/
structure AC (b o : Nat) (a : Ta) (W : World) : Prop where
  c0 : W.cell? ⟨b, o, none⟩ = some (.int .i64 a.k)
  c1 : W.cell? ⟨b, o + 1, none⟩ = some (.int .i64 a.w)
  c2 : W.cell? ⟨b, o + 2, none⟩ = some (.string a.t)
  c3 : W.cell? ⟨b, o + 3, none⟩ = some (.bool a.la)
  c4 : W.cell? ⟨b, o + 4, none⟩ = some (.bool a.lb)
def ta0 : Ta := ⟨0, 0, noS, false, false⟩
/-- a slice that reads as these acts -/
def actsV (w : World) (v : Value) (al : List Ta) : Prop :=
  ∃ A cap, v = .slice A al.length cap ∧ (0 < al.length → ∃ b off, A = some ⟨b, off, none⟩ ∧ b < w.heap.size ∧ ∀ i, i < al.length → AC b (off + i * 5) (al.getD i ta0) w)
theorem AC.below {b o : Nat} {a : Ta} {W W' : World} {B : Nat} (h : AC b o a W) (hb : Below B W W') (hB : b < B) : AC b o a W' :=
  ⟨(hb.cell hB).trans h.c0, (hb.cell hB).trans h.c1, (hb.cell hB).trans h.c2, (hb.cell hB).trans h.c3, (hb.cell hB).trans h.c4⟩
theorem actsV.below {w w' : World} {v : Value} {al : List Ta} (h : actsV w v al) (hb : Below w.heap.size w w') : actsV w' v al := by
  obtain ⟨A, cap, rfl, hc⟩ := h
  refine ⟨A, cap, rfl, fun hn => ?_⟩
  obtain ⟨b, off, rfl, hl, hc⟩ := hc hn
  exact ⟨b, off, rfl, Nat.lt_of_lt_of_le hl hb.size, fun i hi => (hc i hi).below hb hl⟩
theorem actsV.slice {w : World} {v : Value} {al : List Ta} (h : actsV w v al) : ∃ A c, v = .slice A al.length c := by
  obtain ⟨A, c, e, _⟩ := h; exact ⟨A, c, e⟩
/-- ints, as values -/
def ivs (xs : List Int) : List Value := xs.map (Value.int .i64)
theorem info3 : (Tryz.prog.info? 3).map (fun i => (i.zero, i.size, i.bytes)) = some (some (.int .i64 0), 1, 8) := by kernel_rfl
/-- a slice that reads as these ints -/
def intsV (w : World) (v : Value) (xs : List Int) : Prop :=
  ∃ A cap, v = .slice A xs.length cap ∧ (0 < xs.length → ∃ b off, A = some ⟨b, off, none⟩ ∧ b < w.heap.size ∧ ∀ i, i < xs.length → w.cell? ⟨b, off + i, none⟩ = some (.int .i64 (xs.getD i 0)))
theorem intsV.below {w w' : World} {v : Value} {xs : List Int} (h : intsV w v xs) (hb : Below w.heap.size w w') : intsV w' v xs := by
  obtain ⟨A, cap, rfl, hc⟩ := h
  refine ⟨A, cap, rfl, fun hn => ?_⟩
  obtain ⟨b, off, rfl, hl, hc⟩ := hc hn
  exact ⟨b, off, rfl, Nat.lt_of_lt_of_le hl hb.size, fun i hi => (cell_below hb hl).trans (hc i hi)⟩
theorem ints_row {base : Nat} {w : World} {v : Value} {xs : List Int} {n : Nat} (hn : n = xs.length) (h : w.ownsRow base 3 1 v n (ivs xs)) : intsV w v xs := by
  subst hn
  obtain ⟨_, ⟨rfl, h0⟩ | ⟨g, cap, cur, rfl, hb, hc, h1, _, h3, h4⟩⟩ := h
  · obtain rfl := List.length_eq_zero_iff.1 h0
    exact ⟨none, 0, rfl, fun h => by simp at h⟩
  · refine ⟨_, _, rfl, fun _ => ⟨g, 0, rfl, (Array.getElem?_eq_some_iff.1 hc).1, fun i hi => ?_⟩⟩
    have := congrArg (fun l => l[i]?) h4
    simp only [Nat.mul_one, ivs] at this
    rw [List.getElem?_take, if_pos hi, List.getElem?_map, List.getElem?_eq_getElem hi, Array.getElem?_toList] at this
    rw [row_cell hc, Nat.zero_add, this, List.getD_eq_getElem?_getD, List.getElem?_eq_getElem hi]
    rfl
def tw0 : Tw := ⟨pe0, pe0⟩
theorem run_ok (al : List Ta) : peOK (runF al tw0).x = true ∧ peOK (runF al tw0).y = true := by
  have h := both_all al
  exact ⟨way_ok h.a h.b, way_ok h.b h.a⟩
theorem runF_snoc : ∀ (al : List Ta) (a : Ta) (z : Tw), runF (al ++ [a]) z = (stepF (runF al z) a).1
  | [], _, _ => rfl
  | b :: bs, a, z => by simp only [List.cons_append, runF]; exact runF_snoc bs a _
theorem codesF_snoc : ∀ (al : List Ta) (a : Ta) (z : Tw), codesF (al ++ [a]) z = codesF al z ++ [(stepF (runF al z) a).2]
  | [], _, _ => rfl
  | b :: bs, a, z => by simp only [List.cons_append, codesF, runF]; rw [codesF_snoc bs a _]
theorem take_snoc {al : List Ta} {j : Nat} (h : j < al.length) : al.take (j + 1) = al.take j ++ [al.getD j ta0] := by
  rw [List.take_add_one, List.getElem?_eq_getElem h, List.getD_eq_getElem?_getD, List.getElem?_eq_getElem h]; rfl
/-- the code of a run -/
def tkC (al : List Ta) : Int := if 4096 < al.length then 2 else if 120 < al.length then 6 else if al.any (fun a => decide (65536 < a.t.size)) = true then 2 else 0
end Go.Proofs.YtbkcgkffafjbgaaGreatDoor
/- Two who talk, by the program: both in one block, each with lists of its own; one who hangs up. -/
namespace Go.Proofs.YtbkcgkffafjbgaaGreatDoor
open Go.RowKit
set_option maxHeartbeats 4000000
set_option maxRecDepth 20000
/-- both in block g; what their lists lie in was made from base on, and is each one's own -/
def TwO (base g : Nat) (z : Tw) (W : World) : Prop :=
  ∃ q0 i0 q1 i1 lo0 hi0 lo1 hi1, row8 W g q0 (.int .i64 z.x.s) (.int .i64 z.x.e) i0 q1 (.int .i64 z.y.s) (.int .i64 z.y.e) i1 [] ∧ peO lo0 hi0 W (peA q0 z.x.s z.x.e i0) z.x ∧ peO lo1 hi1 W (peA q1 z.y.s z.y.e i1) z.y ∧
    g < base ∧ base ≤ lo0 ∧ base ≤ lo1 ∧ hi0 ≤ W.heap.size ∧ hi1 ≤ W.heap.size ∧ (hi0 ≤ lo1 ∨ hi1 ≤ lo0)
theorem TwO.below {base g : Nat} {z : Tw} {W X : World} (h : TwO base g z W) (hb : Below W.heap.size W X) : TwO base g z X := by
  obtain ⟨q0, i0, q1, i1, lo0, hi0, lo1, hi1, hr, hx, hy, h1, h2, h3, h4, h5, h6⟩ := h
  have := hb.size
  exact ⟨q0, i0, q1, i1, lo0, hi0, lo1, hi1, hr.below hb, hx.below hb, hy.below hb, h1, h2, h3, by omega, by omega, h6⟩
/-- what is done to a block that is none of theirs leaves them -/
theorem TwO.lone {base g b : Nat} {z : Tw} {W X : World} (h : TwO base g z W) (hl : Lone b W X) (hg : g ≠ b) (hb : b < base) : TwO base g z X := by
  obtain ⟨q0, i0, q1, i1, lo0, hi0, lo1, hi1, hr, hx, hy, h1, h2, h3, h4, h5, h6⟩ := h
  have := hl.size
  exact ⟨q0, i0, q1, i1, lo0, hi0, lo1, hi1, hr.lone hl hg, hx.lone hl (by omega), hy.lone hl (by omega), h1, h2, h3, by omega, by omega, h6⟩
theorem TwO.put0 {base g : Nat} {z : Tw} {W X : World} (h : TwO base g z W) (hb : Below W.heap.size W X) {q i : Value} {p : Pe} (hp : peO W.heap.size X.heap.size X (peA q p.s p.e i) p) (hB : base ≤ W.heap.size) :
    TwO base g ⟨p, z.y⟩ ((((X.setCell ⟨g, 0, none⟩ q).setCell ⟨g, 1, none⟩ (.int .i64 p.s)).setCell ⟨g, 2, none⟩ (.int .i64 p.e)).setCell ⟨g, 3, none⟩ i) := by
  obtain ⟨q0, i0, q1, i1, lo0, hi0, lo1, hi1, hr, hx, hy, h1, h2, h3, h4, h5, h6⟩ := h
  have L := lone_put X g 0 1 2 3 q (.int .i64 p.s) (.int .i64 p.e) i
  have hs := hb.size
  exact ⟨q, i, q1, i1, W.heap.size, X.heap.size, lo1, hi1, (hr.below hb).put0 q _ _ i, hp.lone L (by omega), (hy.below hb).lone L (by omega), h1, hB, h3, by rw [size_put]; exact Nat.le_refl _, by rw [size_put]; omega, Or.inr h5⟩
theorem TwO.put4 {base g : Nat} {z : Tw} {W X : World} (h : TwO base g z W) (hb : Below W.heap.size W X) {q i : Value} {p : Pe} (hp : peO W.heap.size X.heap.size X (peA q p.s p.e i) p) (hB : base ≤ W.heap.size) :
    TwO base g ⟨z.x, p⟩ ((((X.setCell ⟨g, 4, none⟩ q).setCell ⟨g, 5, none⟩ (.int .i64 p.s)).setCell ⟨g, 6, none⟩ (.int .i64 p.e)).setCell ⟨g, 7, none⟩ i) := by
  obtain ⟨q0, i0, q1, i1, lo0, hi0, lo1, hi1, hr, hx, hy, h1, h2, h3, h4, h5, h6⟩ := h
  have L := lone_put X g 4 5 6 7 q (.int .i64 p.s) (.int .i64 p.e) i
  have hs := hb.size
  exact ⟨q0, i0, q, i, lo0, hi0, W.heap.size, X.heap.size, (hr.below hb).put4 q _ _ i, (hx.below hb).lone L (by omega), hp.lone L (by omega), h1, h2, hB, by rw [size_put]; omega, by rw [size_put]; exact Nat.le_refl _, Or.inl h4⟩
theorem ownG.take1 {lo hi : Nat} {w : World} {A : Option Addr} {n cap : Nat} {ts : List ByteArray} (h : ownG lo hi w (.slice A n cap) ts) (hn : 1 ≤ n) : ownG lo hi w (.slice A 1 cap) (ts.take 1) := by
  rcases h with ⟨e, _⟩ | ⟨g, off, cap', cs, e, h1, h2, h3, h4, h5⟩
  · injection e with _ e _; omega
  · injection e with e1 e2 e3
    subst e1 e2 e3
    cases ts with
    | nil => simp at hn
    | cons t ts =>
      refine Or.inr ⟨g, off, cap, cs, by simp, h1, h2, h3, by simp; simp at h4; omega, fun i hi => ?_⟩
      have hi : i = 0 := by simp at hi; omega
      subst hi
      have := h5 0 (by simp)
      simpa using this
theorem peO.hang {lo hi : Nat} {w : World} {A : Option Addr} {n cap : Nat} {i : Value} {p : Pe} (h : peO lo hi w (peA (.slice A n cap) p.s p.e i) p) (hn : 1 ≤ n) : peO lo hi w (peA (.slice A 1 cap) p.s p.e i) ⟨p.q.take 1, p.s, p.e, p.i⟩ := by
  obtain ⟨q, i', e, h1, h2, h3⟩ := h
  obtain ⟨rfl, rfl⟩ := peA_inj e
  exact ⟨_, _, rfl, h1.take1 hn, h2, fun g hg => h3 g (by cases A with | none => cases hg | some a => exact hg)⟩
theorem hang87e (g o : Nat) (A : Option Addr) (cap : Nat) (w : World) (c : w.cell? ⟨g, o, none⟩ = some (.slice A 0 cap)) :
    Calls Tryz.prog 93 #[.pointer (some ⟨g, o, none⟩)] w fun e w' => e = .returned (.int .i64 5) ∧ w' = w := by
  go_enter Tryz.func93, Tryz.ntmps93
  go_wp2
  go_ret
  exact ⟨rfl, rfl⟩
theorem hang87 (g o : Nat) (A : Option Addr) (n cap : Nat) (w : World) (c : w.cell? ⟨g, o, none⟩ = some (.slice A n cap)) (f : w.frozen? ⟨g, o, none⟩ = false) (hn : 1 ≤ n) (hc : n ≤ cap) (hm : n ≤ 1048576) :
    Calls Tryz.prog 93 #[.pointer (some ⟨g, o, none⟩)] w fun e w' => e = .returned (.int .i64 0) ∧ w' = w.setCell ⟨g, o, none⟩ (.slice A 1 cap) := by
  have hsl := slice_one (A := A) hn hc
  have n0 : ((n : Int) == 0) = false := by simp; omega
  have n1 : (n : Int) ≤ 1048576 := by omega
  clear hn hc hm
  go_enter Tryz.func93, Tryz.ntmps93
  go_wp2
  go_ret
  exact ⟨rfl, rfl⟩
theorem other88 (k : Int) (w : World) (h : k = 0 ∨ k = 1) : Calls Tryz.prog 96 #[.int .i64 k] w fun e w' => e = .returned (.int .i64 (1 - k)) ∧ w' = w := by
  rcases h with rfl | rfl
  · go_enter Tryz.func96, Tryz.ntmps96
    go_wp2
    go_ret
    exact ⟨rfl, rfl⟩
  · go_enter Tryz.func96, Tryz.ntmps96
    go_wp2
    go_ret
    exact ⟨rfl, rfl⟩
end Go.Proofs.YtbkcgkffafjbgaaGreatDoor
