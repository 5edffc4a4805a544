/- Frames under way: a map from legs to frames, as the program keeps it in a round. -/
import Derived.Test.YtbkcgkffafjbgaaGreatDoorAls
import Derived.Maps.OwnSet
import Derived.Maps.Views
import Derived.DeepKeys4
namespace Go.Proofs.YtbkcgkffafjbgaaGreatDoor
open Go.RowKit Go.Maps Go.WideMaps
set_option maxHeartbeats 4000000
set_option maxRecDepth 20000
theorem lawLeg : Keyed Tryz.prog 124 := Keyed.of_law (deep_law_laid (m := 4) (by kernel_rfl) (by omega) (of_decide_eq_true (by kernel_rfl)) (by kernel_rfl) (by kernel_rfl))
abbrev leg (a b : Int) : Value := .agg #[.int .i64 a, .int .i64 b]
def k01 : Lit := .string [0, 0, 0, 0, 0, 0, 0, 0, 0, 0, 0, 0, 0, 0, 0, 1]
def k10 : Lit := .string [0, 0, 0, 0, 0, 0, 0, 1, 0, 0, 0, 0, 0, 0, 0, 0]
theorem some_getD {α : Type} {o : Option α} (d : α) (h : o.isSome = true) : o = some (o.getD d) := by cases o; cases h; rfl
theorem key01 : keyOf Tryz.prog 124 (leg 0 1) = some k01 := by kernel_rfl
theorem key10 : keyOf Tryz.prog 124 (leg 1 0) = some k10 := by kernel_rfl
theorem k_ne : k01 ≠ k10 := fun h => by
  have e := lawLeg.inj key01 (h ▸ key10)
  injection e with e
  have e := congrArg (fun x : Array Value => x[0]?) e
  simp at e
theorem is01 : WideAt.IsKeyLit k01 := lawLeg.key key01
theorem is10 : WideAt.IsKeyLit k10 := lawLeg.key key10
/-- a frame, as data -/
def frD (f : Fr) : DataW Unit := .agg [.lit (.int .i64 f.s), .lit (.int .i64 f.a), .lit (.bool f.h), .lit (.string f.b.data.toList)]
/-- how a frame in the map is read -/
def frE (v : Value) : Option (DataW Unit × List MemPlace) :=
  match v with
  | .agg cs => match cs.toList with
    | [.int .i64 s, .int .i64 a, .bool h, .string b] => some (frD ⟨s, a, h, b⟩, [])
    | _ => none
  | _ => none
theorem frE_mk (f : Fr) : frE (frV f) = some (frD f, []) := rfl
theorem frE_inv {v : Value} {f : Fr} {qs : List MemPlace} (h : frE v = some (frD f, qs)) : v = frV f := by
  unfold frE at h
  split at h
  · rename_i cs
    split at h
    · rename_i s a hh b e
      simp only [Option.some.injEq, Prod.mk.injEq] at h
      obtain ⟨h, _⟩ := h
      unfold frD at h
      simp at h
      obtain ⟨h1, h2, h3, h4⟩ := h
      have hb : b = f.b := by
        cases b; cases hfb : f.b; rw [hfb] at h4; simp at h4; rw [h4]
      have hcs : cs = #[.int .i64 s, .int .i64 a, .bool hh, .string b] := Array.ext' (by rw [e])
      rw [hcs, h1, h2, h3, hb]
    · cases h
  · cases h
theorem zero41 (w : World) : (zeroValue 75).run Tryz.prog w = .ok (frV fr0) w := by kernel_rfl
/-- what is in the map ahead of the second loop: frames that are not lost -/
structure UD (f0 f1 : Fr) (la lb : Bool) (D : DataW Unit) : Prop where
  h0 : Maps.has D k01 = !la
  h1 : Maps.has D k10 = !lb
  a0 : D.atKey k01 (frD fr0) = frD (cond la fr0 f0)
  a1 : D.atKey k10 (frD fr0) = frD (cond lb fr0 f1)
def D2 (f0 f1 : Fr) : DataW Unit := ((DataW.map []).put k01 (frD f0)).put k10 (frD f1)
theorem ud_all (f0 f1 : Fr) : UD f0 f1 false false (D2 f0 f1) := by
  have m0 : IsMap ((DataW.map [] : DataW Unit).put k01 (frD f0)) := isMap_empty.put _ _
  refine ⟨?_, ?_, ?_, ?_⟩
  · unfold D2; rw [has_put_other k_ne, has_put_same isMap_empty is01]; rfl
  · unfold D2; rw [has_put_same m0 is10]; rfl
  · unfold D2; rw [atKey_put_other k_ne, atKey_put_same isMap_empty is01]; rfl
  · unfold D2; rw [atKey_put_same m0 is10]; rfl
theorem UD.loseA {f0 f1 : Fr} {lb : Bool} {D : DataW Unit} (h : UD f0 f1 false lb D) : UD f0 f1 true lb (D.del k01) :=
  ⟨has_del_same, by rw [has_del_other k_ne.symm]; exact h.h1, atKey_del_same _, by rw [atKey_del_other k_ne.symm]; exact h.a1⟩
theorem UD.loseB {f0 f1 : Fr} {la : Bool} {D : DataW Unit} (h : UD f0 f1 la false D) : UD f0 f1 la true (D.del k10) :=
  ⟨by rw [has_del_other k_ne]; exact h.h0, has_del_same, by rw [atKey_del_other k_ne]; exact h.a0, atKey_del_same _⟩
theorem below_grown {B b : Nat} {x W X : World} (h : Below B x W) (hg : W.grownBy X (some b)) (hb : B ≤ b) (hs : B ≤ W.heap.size) : Below B x X :=
  Below.grown h hg hs (fun k e => by cases e; exact hb)
theorem own_lone {q b n : Nat} {W X : World} {D : DataW Unit} (h : W.ownsMap Tryz.prog 124 frE b n D) (hl : Lone q W X) (hb : b ≠ q) : X.ownsMap Tryz.prog 124 frE b n D := by
  have hlt := h.lt
  obtain ⟨es, clock, e, r⟩ := h
  exact ⟨es, clock, (hl.block b hlt hb).trans e, r⟩
theorem turned_lone {b : Nat} {W X : World} (h : W.mapTurned X b) : Lone b W X := by
  have hg := h.grown
  exact ⟨hg.os, hg.tape, hg.output, hg.size, fun k hk hne => hg.block k hk (by intro e; injection e with e; exact hne e)⟩
theorem frB_out {r : Pe} (h : peOK r = true) : frB (outF r) = true := by
  unfold peOK at h
  simp only [Bool.and_eq_true, decide_eq_true_eq] at h
  obtain ⟨⟨⟨⟨⟨_, _⟩, s0, s1⟩, e0, e1⟩, hq⟩, _⟩ := h
  unfold frB outF sqB
  dsimp only
  rw [decide_eq_true s0, decide_eq_true s1, decide_eq_true e0, decide_eq_true e1]
  cases hr : r.q with
  | nil => rfl
  | cons t q =>
    rw [hr] at hq
    have := List.all_eq_true.1 hq t (by simp)
    simp [this]
theorem inR_in {p r : Pe} (hp : peOK p = true) (hr : peOK r = true) : inR p (outF r) = (inF p (outF r), 0) := by
  unfold inR
  rw [if_pos ⟨hp, frB_out hr⟩]
theorem body_out {r : Pe} (h : peOK r = true) : (outF r).b.size ≤ maxLen := by
  have := frB_out h
  unfold frB is40 at this
  simp only [Bool.and_eq_true, decide_eq_true_eq] at this
  unfold maxLen
  have := this.1.2
  omega
theorem outR_in {p : Pe} (h : peOK p = true) : outR p = (outF p, 0) := by unfold outR; rw [if_pos h]
end Go.Proofs.YtbkcgkffafjbgaaGreatDoor
