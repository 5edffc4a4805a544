/- A region that draws its order, whose operations and callees only read, within a round of a loop over an iterator. -/
import Derived.RangeFuncNested
import Derived.RangeFuncBound
import Derived.RangeFuncCalls
import Derived.RangeFuncLeaves
import Derived.Shelf.RegionOpen
import Derived.Deep.QuietTactic
import Derived.OwnWalkIn
import Derived.TacticsInMore
import Derived.LoopNIn
import Derived.LoopIn
import Derived.Test.YtecgfkfifocbaaaFnd
namespace Go.Proofs.Ytecgfkfifocbaaa
open Go.RowKit
set_option maxHeartbeats 4000000
set_option maxRecDepth 20000
theorem rowsIn_wide {n : Nat} {P : Program} {row : String} {args : Array Value} {w : World} {R : Value → World → Prop} (l : Nat) (h : Rows P row args w R) : RowsIn (Fence.wide.inRound l) n P row args w R := fun c cs _ => by
  obtain ⟨v, w', r, s⟩ := h c cs
  exact ⟨v, w', r, stepsIn_wide.2 s⟩
/-- an operation that goes through outside of a round goes through within one, if it defers nothing -/
theorem wpIn_of_wp {l n : Nat} {P : Program} {o : Oper} {a : Act} {w : World} {K K' : Act → World → Prop} {Q Q' : Exit → Act → World → Prop} (hd : ∀ c, o.op ≠ .defer c) (hK : ∀ a w, K a w → K' a w) (hQ : ∀ e a w, Q e a w → Q' e a w)
    (h : o.wp P a w K Q) : o.wpIn (Fence.wide.inRound l) n P a w K' Q' := by
  refine ⟨fun _ _ => trivial, ?_⟩
  have hf : (Fence.wide.inRound l).depth.isSome = true → 1 ≤ n := fun e => absurd (show false = true from e) (by decide)
  unfold Oper.wp at h
  rw [show (Fence.wide.inRound l).round = some l from rfl, Oper.semAt_some _ _ _ hd]
  cases hr : (execOp a.eval o).run P w with
  | halt x w' =>
    rw [hr] at h
    cases x <;> simp only [Oper.upon, Oper.uponIn] at h ⊢
    exact hQ _ _ _ h
  | ok x w' =>
    rw [hr] at h
    cases x <;> simp only [Oper.upon, Oper.uponIn] at h ⊢
    · exact hK _ _ h
    · exact hK _ _ h
    · refine ⟨hf, CallsIn.inRound l (callsIn_wide.2 (h.mono ?_))⟩
      rintro (v | ch | _) w'' he
      · exact hK _ _ he
      · exact hQ _ _ _ he
      · obtain ⟨a1, w1, hl⟩ := he
        exact ⟨a1, w1, hQ _ _ _ hl⟩
    · exact hK _ _ h
    · exact ⟨hf, rowsIn_wide l (fun c cs => let ⟨v, w'', hv, hs⟩ := h c cs; ⟨v, w'', hK _ _ hv, hs⟩)⟩
/-- no operation among them defers a call -/
def noDefer (os : List Oper) : Bool := os.all fun o => match o.op with | .defer _ => false | _ => true
theorem noDefer_spec {os : List Oper} (h : noDefer os = true) (j : Nat) (o : Oper) (c : Call) (ho : os.toArray[j]? = some o) : o.op ≠ .defer c := by
  intro e
  have hm : o ∈ os := List.mem_of_getElem? (by simpa using ho)
  have := List.all_eq_true.1 h o hm
  rw [e] at this
  exact absurd (show false = true from this) (by decide)
/-- what may come in any order outside of a round may so within one, where nothing is let out -/
theorem any_round {l n : Nat} {P : Program} {os : List Oper} {Q Q' : Exit → Act → World → Prop} (hd : noDefer os = true) (hL : ¬ LetsOut Q) (hQ : ∀ e a w, Q e a w → Q' e a w) (fuel : Nat) :
    ∀ (listed : Array Bool) (a : Act) (w : World), wpAny P .any os.toArray Q fuel listed a w → wpAnyIn (Fence.wide.inRound l) n P .any os.toArray Q' fuel listed a w := by
  induction fuel with
  | zero => exact fun _ a w h => And.imp_right (hQ .normal a w) h
  | succ k ih =>
    intro listed a w h
    obtain ⟨h0, h1⟩ := h
    refine ⟨hQ .normal a w ∘ h0, fun i hi => ?_⟩
    have hk := h1 i hi
    unfold wpOp at hk
    unfold wpOpIn
    cases ho : os.toArray[i]? with
    | none =>
      rw [ho] at hk
      exact ih _ _ _ hk
    | some o =>
      rw [ho] at hk
      dsimp only at hk ⊢
      split
      · rename_i hw
        rw [if_pos hw] at hk
        exact wpIn_of_wp (fun c => noDefer_spec hd i o c ho) (ih _) hQ (hk.resolve_right fun q => hL q.2)
      · rename_i hw
        rw [if_neg hw] at hk
        exact ⟨fun _ _ => trivial, ih _ _ _ hk⟩
theorem quiet_round {l n id : Nat} {P : Program} {Q : Exit → Act → World → Prop} {a : Act} {w : World} {os : List Oper} (hm : P.follows .mixedOrders = true) (hB : Region.lexB .any os.toArray = true) (hd : noDefer os = true)
    (h : wpQuiet P os.toArray (fun w' => ∃ n, w' = w.drewN n) (fun a' => ∀ w', (∃ n, w' = w.drewN n) → Q .normal a' w') os a) : (Code.region id os.toArray true).wpIn (Fence.wide.inRound l) n P Q a w := by
  obtain ⟨hs, hx⟩ := Bool.and_eq_true_iff.1 hB
  have hq := wpAnyQ_lex (md := .any) hs os 0 (Array.replicate os.length false) a (fun j => by rw [Nat.zero_add]; exact (List.getElem?_toArray ..).symm) hx h
  have ha := wpAny_of_quiet (Q' := fun e a' w' => e = .normal ∧ Q e a' w') (fun _ w' hw hh => ⟨rfl, hh w' hw⟩) _ _ _ (w.drewN 1) ⟨1, rfl⟩ hq
  exact wpIn_region_any hm (any_round hd (fun hl => by obtain ⟨_, _, e, _⟩ := hl; cases e) (fun _ _ _ q => q.2) _ _ _ _ ha)
end Go.Proofs.Ytecgfkfifocbaaa
