/- Two who talk, by the program: both in one block, each with lists of its own; one who hangs up. -/
import Derived.Test.YthonnlifgdnacaaStq
import Derived.Test.YthonnlifgdnacaaAcs
namespace Go.Proofs.Ythonnlifgdnacaa
open Go.RowKit
set_option maxHeartbeats 4000000
set_option maxRecDepth 20000
/-- both in block g; what their lists lie in was made from base on, and is each one's own -/
def TwO (base g : Nat) (z : Tw) (W : World) : Prop :=
  ∃ q0 i0 q1 i1 lo0 hi0 lo1 hi1, row8 W g q0 (.int .i64 z.x.s) (.int .i64 z.x.e) i0 q1 (.int .i64 z.y.s) (.int .i64 z.y.e) i1 [] ∧ peO lo0 hi0 W (peA q0 z.x.s z.x.e i0) z.x ∧ peO lo1 hi1 W (peA q1 z.y.s z.y.e i1) z.y ∧
    g < base ∧ base ≤ lo0 ∧ base ≤ lo1 ∧ hi0 ≤ W.heap.size ∧ hi1 ≤ W.heap.size ∧ (hi0 ≤ lo1 ∨ hi1 ≤ lo0)
theorem TwO.below {base g : Nat} {z : Tw} {W X : World} (h : TwO base g z W) (hb : Below W.heap.size W X) : TwO base g z X := by
  obtain ⟨q0, i0, q1, i1, lo0, hi0, lo1, hi1, hr, hx, hy, h1, h2, h3, h4, h5, h6⟩ := h
  have := hb.size
  exact ⟨q0, i0, q1, i1, lo0, hi0, lo1, hi1, hr.below hb, hx.below hb, hy.below hb, h1, h2, h3, by omega, by omega, h6⟩
/-- what is done to a block that is none of theirs leaves them -/
theorem TwO.lone {base g b : Nat} {z : Tw} {W X : World} (h : TwO base g z W) (hl : Lone b W X) (hg : g ≠ b) (hb : b < base) : TwO base g z X := by
  obtain ⟨q0, i0, q1, i1, lo0, hi0, lo1, hi1, hr, hx, hy, h1, h2, h3, h4, h5, h6⟩ := h
  have := hl.size
  exact ⟨q0, i0, q1, i1, lo0, hi0, lo1, hi1, hr.lone hl hg, hx.lone hl (by omega), hy.lone hl (by omega), h1, h2, h3, by omega, by omega, h6⟩
theorem TwO.put0 {base g : Nat} {z : Tw} {W X : World} (h : TwO base g z W) (hb : Below W.heap.size W X) {q i : Value} {p : Pe} (hp : peO W.heap.size X.heap.size X (peA q p.s p.e i) p) (hB : base ≤ W.heap.size) :
    TwO base g ⟨p, z.y⟩ ((((X.setCell ⟨g, 0, none⟩ q).setCell ⟨g, 1, none⟩ (.int .i64 p.s)).setCell ⟨g, 2, none⟩ (.int .i64 p.e)).setCell ⟨g, 3, none⟩ i) := by
  obtain ⟨q0, i0, q1, i1, lo0, hi0, lo1, hi1, hr, hx, hy, h1, h2, h3, h4, h5, h6⟩ := h
  have L := lone_put X g 0 1 2 3 q (.int .i64 p.s) (.int .i64 p.e) i
  have hs := hb.size
  exact ⟨q, i, q1, i1, W.heap.size, X.heap.size, lo1, hi1, (hr.below hb).put0 q _ _ i, hp.lone L (by omega), (hy.below hb).lone L (by omega), h1, hB, h3, by rw [size_put]; exact Nat.le_refl _, by rw [size_put]; omega, Or.inr h5⟩
theorem TwO.put4 {base g : Nat} {z : Tw} {W X : World} (h : TwO base g z W) (hb : Below W.heap.size W X) {q i : Value} {p : Pe} (hp : peO W.heap.size X.heap.size X (peA q p.s p.e i) p) (hB : base ≤ W.heap.size) :
    TwO base g ⟨z.x, p⟩ ((((X.setCell ⟨g, 4, none⟩ q).setCell ⟨g, 5, none⟩ (.int .i64 p.s)).setCell ⟨g, 6, none⟩ (.int .i64 p.e)).setCell ⟨g, 7, none⟩ i) := by
  obtain ⟨q0, i0, q1, i1, lo0, hi0, lo1, hi1, hr, hx, hy, h1, h2, h3, h4, h5, h6⟩ := h
  have L := lone_put X g 4 5 6 7 q (.int .i64 p.s) (.int .i64 p.e) i
  have hs := hb.size
  exact ⟨q0, i0, q, i, lo0, hi0, W.heap.size, X.heap.size, (hr.below hb).put4 q _ _ i, (hx.below hb).lone L (by omega), hp.lone L (by omega), h1, h2, hB, by rw [size_put]; omega, by rw [size_put]; exact Nat.le_refl _, Or.inl h4⟩
theorem ownG.take1 {lo hi : Nat} {w : World} {A : Option Addr} {n cap : Nat} {ts : List ByteArray} (h : ownG lo hi w (.slice A n cap) ts) (hn : 1 ≤ n) : ownG lo hi w (.slice A 1 cap) (ts.take 1) := by
  rcases h with ⟨e, _⟩ | ⟨g, off, cap', cs, e, h1, h2, h3, h4, h5⟩
  · injection e with _ e _; omega
  · injection e with e1 e2 e3
    subst e1 e2 e3
    cases ts with
    | nil => simp at hn
    | cons t ts =>
      refine Or.inr ⟨g, off, cap, cs, by simp, h1, h2, h3, by simp; simp at h4; omega, fun i hi => ?_⟩
      have hi : i = 0 := by simp at hi; omega
      subst hi
      have := h5 0 (by simp)
      simpa using this
theorem peO.hang {lo hi : Nat} {w : World} {A : Option Addr} {n cap : Nat} {i : Value} {p : Pe} (h : peO lo hi w (peA (.slice A n cap) p.s p.e i) p) (hn : 1 ≤ n) : peO lo hi w (peA (.slice A 1 cap) p.s p.e i) ⟨p.q.take 1, p.s, p.e, p.i⟩ := by
  obtain ⟨q, i', e, h1, h2, h3⟩ := h
  obtain ⟨rfl, rfl⟩ := peA_inj e
  exact ⟨_, _, rfl, h1.take1 hn, h2, fun g hg => h3 g (by cases A with | none => cases hg | some a => exact hg)⟩
theorem hang87e (g o : Nat) (A : Option Addr) (cap : Nat) (w : World) (c : w.cell? ⟨g, o, none⟩ = some (.slice A 0 cap)) :
    Calls Try.prog 87 #[.pointer (some ⟨g, o, none⟩)] w fun e w' => e = .returned (.int .i64 5) ∧ w' = w := by
  go_enter Try.func87, Try.ntmps87
  go_wp2
  go_ret
  exact ⟨rfl, rfl⟩
theorem hang87 (g o : Nat) (A : Option Addr) (n cap : Nat) (w : World) (c : w.cell? ⟨g, o, none⟩ = some (.slice A n cap)) (f : w.frozen? ⟨g, o, none⟩ = false) (hn : 1 ≤ n) (hc : n ≤ cap) (hm : n ≤ 1048576) :
    Calls Try.prog 87 #[.pointer (some ⟨g, o, none⟩)] w fun e w' => e = .returned (.int .i64 0) ∧ w' = w.setCell ⟨g, o, none⟩ (.slice A 1 cap) := by
  have hsl := slice_one (A := A) hn hc
  have n0 : ((n : Int) == 0) = false := by simp; omega
  have n1 : (n : Int) ≤ 1048576 := by omega
  clear hn hc hm
  go_enter Try.func87, Try.ntmps87
  go_wp2
  go_ret
  exact ⟨rfl, rfl⟩
theorem other88 (k : Int) (w : World) (h : k = 0 ∨ k = 1) : Calls Try.prog 88 #[.int .i64 k] w fun e w' => e = .returned (.int .i64 (1 - k)) ∧ w' = w := by
  rcases h with rfl | rfl
  · go_enter Try.func88, Try.ntmps88
    go_wp2
    go_ret
    exact ⟨rfl, rfl⟩
  · go_enter Try.func88, Try.ntmps88
    go_wp2
    go_ret
    exact ⟨rfl, rfl⟩
end Go.Proofs.Ythonnlifgdnacaa
