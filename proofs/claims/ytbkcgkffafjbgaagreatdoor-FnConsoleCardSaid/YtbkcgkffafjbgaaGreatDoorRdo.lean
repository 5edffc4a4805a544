/- The specification's reading of a line that has words. -/
import Derived.Test.YtbkcgkffafjbgaaGreatDoorGj
import Derived.Test.YtbkcgkffafjbgaaGreatDoorGi
namespace Go.Proofs.YtbkcgkffafjbgaaGreatDoor
open Go.RowKit
set_option maxHeartbeats 4000000
set_option maxRecDepth 20000
/-- an act of words: the first four, and what stands behind the second -/
def actS (W0 W1 W2 W3 T : By) : Option At :=
  if W0 = [115, 97, 121] then (whoF W1).bind fun k => if T.length ≤ 40 then some ⟨1, k, T, false, false⟩ else none
  else if W0 = [114, 111, 117, 110, 100] then (if W1 = [] then some ⟨2, 0, [], false, false⟩ else if W1 = [108, 111, 115, 101] then (lostF W2).bind fun p => if W3 = [] then some ⟨2, 0, [], p.1, p.2⟩ else none else none)
  else if W0 = [104, 97, 110, 103] then (whoF W1).bind fun k => if W2 = [] then some ⟨3, k, [], false, false⟩ else none
  else none
theorem tr_lf2 (l : By) : tr (lf (lf l)) = tr (rs (rs l)) := by rw [tr_lf]; exact tr_rs (tr_lf l)
theorem wd_lf2 (l : By) : wd (lf (lf l)) = wd (rs (rs l)) := wd_eq (tr_lf2 l)
theorem tr_lf3 (l : By) : tr (lf (lf (lf l))) = tr (rs (rs (rs l))) := by rw [tr_lf]; exact tr_rs (tr_lf2 l)
theorem actR_eq (l : By) : actR l = actS (wd l) (wd (rs l)) (wd (rs (rs l))) (wd (rs (rs (rs l)))) (tr (rs (rs l))) := by
  unfold actR actS sayD roundR hangR
  rw [wd_lf, wd_lf2, tr_lf2, tr_lf3]
  simp only [tr_nil]
/-- what a reading of words ends in -/
def outD (o : Option At) (w : World) (e : Ending) (w' : World) : Prop :=
  Below w.heap.size w w' ∧ match o with
  | some a => e = .returned (.tuple #[atV a, .bool true])
  | none => ∃ cs : Array Value, e = .returned (.tuple #[.agg cs, .bool false]) ∧ zA.size = cs.size ∧ (Tryz.prog.info? 27).map (·.size) = some cs.size ∧ cs.all (·.oneCell') = true
/-- a text in a list of words, whatever block is made beside it -/
def wordAt (w : World) (b o : Nat) (t : ByteArray) : Prop := ∀ x, (w.alloc x).cell? ⟨b, o, none⟩ = some (.string t)
end Go.Proofs.YtbkcgkffafjbgaaGreatDoor
