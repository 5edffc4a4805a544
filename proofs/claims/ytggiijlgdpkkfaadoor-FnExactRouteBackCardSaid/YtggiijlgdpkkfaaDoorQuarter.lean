/- Contracts of the specification's quarter round. -/
import Derived.Test.YtggiijlgdpkkfaaDoorProg
import Derived.Test.YtggiijlgdpkkfaaDoorRowW
import Derived.WalkKit
import Derived.WalkSpells
import Derived.WalkLawsBesides
import Derived.Handy
import Derived.Outline
import Derived.Deep.RegionHeld3
import Derived.Deep.QuietTactic
import Derived.BigQuiet
import Derived.BigRegion
namespace Go.Proofs.YtggiijlgdpkkfaaDoor
open Go.RowKit
set_option maxHeartbeats 4000000
set_option maxRecDepth 20000
theorem rot_lit (x : W32) (n : Nat) (p q : Int) (hp : p = 2 ^ n) (hq : q = 2 ^ (32 - n)) : bits .or .u32 (wi x * p % 4294967296) (wi x / q) = wi (rotl x n) := by
  subst hp hq
  rw [← IntKind.wrap_u32', w_shl, w_shr, w_or]; rfl
theorem ret_w {a b : Int} (h : a = b) : Ending.returned (.int .u32 a) = .returned (.int .u32 b) := by rw [h]
theorem left_any (x : W32) (n : Nat) (hn : n = 16 ∨ n = 12 ∨ n = 8 ∨ n = 7) (w : World) : Calls Tryd.prog 42 #[.int .u32 (wi x), .int .u64 n] w fun e w' => e = .returned (.int .u32 (wi (rotl x n))) ∧ w' = w := by
  rcases hn with rfl | rfl | rfl | rfl
  all_goals
    go_enter Tryd.func42, Tryd.ntmps42
    go_wp2
    go_ret
    exact ⟨ret_w (rot_lit x _ _ _ (by decide) (by decide)), rfl⟩
theorem w_add' (x y : W32) : (wi x + wi y) % 4294967296 = wi (x + y) := by rw [← IntKind.wrap_u32', w_add]
attribute [local go_sem] w_add' w_xor w_or w_and
theorem hide {p : Prop} (h : p) : Hid p := h
theorem unhide {p : Prop} (h : Hid p) : p := h
theorem meet {G P : Prop} (h : G → P) (m : G) : P := h m
theorem drewN_row (w : World) (k g : Nat) (e : TypeId) (xs : List W32) (rest : List Value) : (rowW (w.drewN k) g e xs rest).drew = rowW (w.drewN (k + 1)) g e xs rest := rfl
theorem row_facts (w : World) (g L : Nat) (ys : List W32) (rest : List Value) (hg : g < w.heap.size) (hL : ys.length = L) (i : Nat) (hi : i < L) :
    (∀ n, (rowW (w.drewN n) g 51 ys rest).cell? ⟨g, i, none⟩ = some (.int .u32 (wi (gW ys i)))) ∧ (∀ n, (rowW (w.drewN n) g 51 ys rest).frozen? ⟨g, i, none⟩ = false) ∧ (∀ n j, (rowW (w.drewN n) g 51 ys rest).setCell ⟨g, i, none⟩ (.int .u32 (wi (gW ys i + gW ys j))) = rowW (w.drewN n) g 51 (sA ys i j) rest) ∧ (∀ n j r, (rowW (w.drewN n) g 51 ys rest).setCell ⟨g, i, none⟩ (.int .u32 (wi (rotl (gW ys i ^^^ gW ys j) r))) = rowW (w.drewN n) g 51 (sR ys i j r) rest) :=
  ⟨fun n => cell_rowW _ _ _ _ _ _ (by omega) hg, fun n => frozen_rowW _ _ _ _ _ _ hg, fun n v => set_rowW _ _ _ _ _ _ _ (by omega) hg, fun n v r => set_rowW _ _ _ _ _ _ _ (by omega) hg⟩
theorem quarter_any (w : World) (g L : Nat) (xs : List W32) (rest : List Value) (cap a b c d n : Nat) (hg : g < w.heap.size) (hL : xs.length = L) (ha : a < L) (hb : b < L) (hc : c < L) (hd : d < L) :
    Calls Tryd.prog 39 #[.slice (some ⟨g, 0, none⟩) L cap, .int .i64 a, .int .i64 b, .int .i64 c, .int .i64 d] (rowW (w.drewN n) g 51 xs rest) fun e w' => e = .returned (.tuple #[]) ∧ ∃ k, w' = rowW (w.drewN k) g 51 (qL xs a b c d) rest := by
  have HG := hide hg
  have L0 := hide hL
  have a0 : (0 : Int) ≤ (a : Int) := by omega
  have a1 : (a : Int) < (L : Int) := by omega
  have Ha := hide ha
  have b0 : (0 : Int) ≤ (b : Int) := by omega
  have b1 : (b : Int) < (L : Int) := by omega
  have Hb := hide hb
  have c0 : (0 : Int) ≤ (c : Int) := by omega
  have c1 : (c : Int) < (L : Int) := by omega
  have Hc := hide hc
  have d0 : (0 : Int) ≤ (d : Int) := by omega
  have d1 : (d : Int) < (L : Int) := by omega
  have Hd := hide hd
  clear hg hL ha hb hc hd
  have D := drewN_row w
  go_enter Tryd.func39, Tryd.ntmps39
  have p1 := (row_facts w g L xs rest (unhide HG) (unhide L0) b (unhide Hb)).1
  obtain ⟨q1, z1, s1, t1⟩ := row_facts w g L xs rest (unhide HG) (unhide L0) a (unhide Ha)
  have L1 := hide ((sA_len xs a b).trans (unhide L0))
  go_wp2
  go_region
  clear p1 q1 z1 s1 t1
  generalize hy1 : sA xs a b = y1 at *
  have Y1 := hide hy1
  clear hy1
  have p2 := (row_facts w g L y1 rest (unhide HG) (unhide L1) a (unhide Ha)).1
  obtain ⟨q2, z2, s2, t2⟩ := row_facts w g L y1 rest (unhide HG) (unhide L1) d (unhide Hd)
  have L2 := hide ((sR_len y1 d a 16).trans (unhide L1))
  go_wp2
  apply meet
  · intro main
    go_region_with (go_at_call 42; refine (left_any (gW y1 d ^^^ gW y1 a) 16 (by decide) _).mono ?_; rintro e w1 ⟨rfl, rfl⟩)
    all_goals exact main
  clear p2 q2 z2 s2 t2
  generalize hy2 : sR y1 d a 16 = y2 at *
  have Y2 := hide hy2
  clear hy2
  have p3 := (row_facts w g L y2 rest (unhide HG) (unhide L2) d (unhide Hd)).1
  obtain ⟨q3, z3, s3, t3⟩ := row_facts w g L y2 rest (unhide HG) (unhide L2) c (unhide Hc)
  have L3 := hide ((sA_len y2 c d).trans (unhide L2))
  go_wp2
  go_region
  clear p3 q3 z3 s3 t3
  generalize hy3 : sA y2 c d = y3 at *
  have Y3 := hide hy3
  clear hy3
  have p4 := (row_facts w g L y3 rest (unhide HG) (unhide L3) c (unhide Hc)).1
  obtain ⟨q4, z4, s4, t4⟩ := row_facts w g L y3 rest (unhide HG) (unhide L3) b (unhide Hb)
  have L4 := hide ((sR_len y3 b c 12).trans (unhide L3))
  go_wp2
  apply meet
  · intro main
    go_region_with (go_at_call 42; refine (left_any (gW y3 b ^^^ gW y3 c) 12 (by decide) _).mono ?_; rintro e w1 ⟨rfl, rfl⟩)
    all_goals exact main
  clear p4 q4 z4 s4 t4
  generalize hy4 : sR y3 b c 12 = y4 at *
  have Y4 := hide hy4
  clear hy4
  have p5 := (row_facts w g L y4 rest (unhide HG) (unhide L4) b (unhide Hb)).1
  obtain ⟨q5, z5, s5, t5⟩ := row_facts w g L y4 rest (unhide HG) (unhide L4) a (unhide Ha)
  have L5 := hide ((sA_len y4 a b).trans (unhide L4))
  go_wp2
  go_region
  clear p5 q5 z5 s5 t5
  generalize hy5 : sA y4 a b = y5 at *
  have Y5 := hide hy5
  clear hy5
  have p6 := (row_facts w g L y5 rest (unhide HG) (unhide L5) a (unhide Ha)).1
  obtain ⟨q6, z6, s6, t6⟩ := row_facts w g L y5 rest (unhide HG) (unhide L5) d (unhide Hd)
  have L6 := hide ((sR_len y5 d a 8).trans (unhide L5))
  go_wp2
  apply meet
  · intro main
    go_region_with (go_at_call 42; refine (left_any (gW y5 d ^^^ gW y5 a) 8 (by decide) _).mono ?_; rintro e w1 ⟨rfl, rfl⟩)
    all_goals exact main
  clear p6 q6 z6 s6 t6
  generalize hy6 : sR y5 d a 8 = y6 at *
  have Y6 := hide hy6
  clear hy6
  have p7 := (row_facts w g L y6 rest (unhide HG) (unhide L6) d (unhide Hd)).1
  obtain ⟨q7, z7, s7, t7⟩ := row_facts w g L y6 rest (unhide HG) (unhide L6) c (unhide Hc)
  have L7 := hide ((sA_len y6 c d).trans (unhide L6))
  go_wp2
  go_region
  clear p7 q7 z7 s7 t7
  generalize hy7 : sA y6 c d = y7 at *
  have Y7 := hide hy7
  clear hy7
  have p8 := (row_facts w g L y7 rest (unhide HG) (unhide L7) c (unhide Hc)).1
  obtain ⟨q8, z8, s8, t8⟩ := row_facts w g L y7 rest (unhide HG) (unhide L7) b (unhide Hb)
  have L8 := hide ((sR_len y7 b c 7).trans (unhide L7))
  go_wp2
  apply meet
  · intro main
    go_region_with (go_at_call 42; refine (left_any (gW y7 b ^^^ gW y7 c) 7 (by decide) _).mono ?_; rintro e w1 ⟨rfl, rfl⟩)
    all_goals exact main
  clear p8 q8 z8 s8 t8
  generalize hy8 : sR y7 b c 7 = y8 at *
  have Y8 := hide hy8
  clear hy8
  go_wp2
  go_end0
  refine ⟨rfl, n + 8, ?_⟩
  rw [qL, unhide Y1, unhide Y2, unhide Y3, unhide Y4, unhide Y5, unhide Y6, unhide Y7, unhide Y8]
end Go.Proofs.YtggiijlgdpkkfaaDoor
