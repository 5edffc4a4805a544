/- FnTalk: what was said, act by act; what was heard, sought in it; the laws' sameInts. -/
import Derived.Test.YthonnlifgdnacaaTrp
import Derived.Test.YthonnlifgdnacaaTru
import Derived.Test.YthonnlifgdnacaaSam
import Derived.Test.YthonnlifgdnacaaPok
import Derived.Test.YthonnlifgdnacaaSya
namespace Go.Proofs.Ythonnlifgdnacaa
open Go.RowKit
set_option maxHeartbeats 4000000
set_option maxRecDepth 20000
set_option linter.unusedVariables false
theorem saidF_snoc (who : Int) : ∀ (al : List Ta) (a : Ta) (z : Tw), saidF who (al ++ [a]) z = saidF who al z ++ saysF who (runF al z) a
  | [], a, z => by simp only [List.nil_append, saidF, runF, saysF, List.append_nil]; congr
  | b :: bs, a, z => by
    rw [List.cons_append]
    unfold saidF
    rw [saidF_snoc who bs a, List.append_assoc]
    rfl
theorem codesF_at : ∀ (al : List Ta) (z : Tw) (j : Nat), j < al.length → (codesF al z).getD j 0 = (stepF (runF (al.take j) z) (al.getD j ta0)).2
  | [], z, j, h => absurd h (Nat.not_lt_zero _)
  | a :: bs, z, 0, h => rfl
  | a :: bs, z, j + 1, h => by
    have := codesF_at bs (stepF z a).1 j (by simpa using h)
    unfold codesF
    rw [List.getD_cons_succ, this, List.take_succ_cons, List.getD_cons_succ]
    rfl
theorem said_step {al : List Ta} {who : Int} {j : Nat} (h : j < al.length) : saidF who (al.take (j + 1)) tw0 = saidF who (al.take j) tw0 ++ (if (al.getD j ta0).k = 1 ∧ (al.getD j ta0).w = who ∧ (codesF al tw0).getD j 0 = 0 then [(al.getD j ta0).t] else []) := by
  rw [take_snoc h, saidF_snoc, codesF_at _ _ _ h]
  rfl
theorem said_len (who : Int) : ∀ (al : List Ta) (z : Tw), (saidF who al z).length ≤ al.length
  | [], z => Nat.le_refl _
  | a :: bs, z => by
    have := said_len who bs (stepF z a).1
    unfold saidF
    rw [List.length_append, List.length_cons]
    split
    · simp; omega
    · simp; omega
theorem drop_cons_at {ts : List ByteArray} {i : Nat} (h : i < ts.length) : ts.drop i = ts.getD i noS :: ts.drop (i + 1) := drop_atS h
/-- what is sought is there -/
theorem seek_in {hs ss : List ByteArray} {i k : Nat} (hi : i < hs.length) (h : (hs.drop i).Sublist (ss.drop k)) : k < ss.length := by
  apply Nat.lt_of_not_le
  intro hc
  rw [List.drop_eq_nil_of_le hc, drop_atS hi] at h
  cases h
theorem sub_past {x y : ByteArray} {us bs : List ByteArray} (h : (x :: us).Sublist (y :: bs)) (hne : y ≠ x) : (x :: us).Sublist bs := by
  cases h with
  | cons _ g => exact g
  | cons_cons _ g => exact absurd rfl hne
theorem sub_hit {x y : ByteArray} {us bs : List ByteArray} (h : (x :: us).Sublist (y :: bs)) : us.Sublist bs := by
  cases h with
  | cons _ g => exact (List.sublist_cons_self _ _).trans g
  | cons_cons _ g => exact g
theorem seek_past {hs ss : List ByteArray} {i k : Nat} (hi : i < hs.length) (h : (hs.drop i).Sublist (ss.drop k)) (hne : ss.getD k noS ≠ hs.getD i noS) : (hs.drop i).Sublist (ss.drop (k + 1)) := by
  have hk := seek_in hi h
  rw [drop_atS hi, drop_atS hk] at h
  rw [drop_atS hi]
  exact sub_past h hne
theorem seek_hit {hs ss : List ByteArray} {i k : Nat} (hi : i < hs.length) (h : (hs.drop i).Sublist (ss.drop k)) : (hs.drop (i + 1)).Sublist (ss.drop (k + 1)) := by
  have hk := seek_in hi h
  rw [drop_atS hi, drop_atS hk] at h
  exact sub_hit h
theorem heard0 (al : List Ta) : (runF al tw0).y.i.Sublist (saidF 0 al tw0) := (both_all al).a.heard
theorem heard1 (al : List Ta) : (runF al tw0).x.i.Sublist (saidF 1 al tw0) := (both_all al).b.heard
theorem tkC_few {al : List Ta} (h : al.length ≤ 120) (ht : ∀ a ∈ al, a.t.size ≤ 10) : tkC al = 0 := by
  unfold tkC
  rw [if_neg (by omega), if_neg (by omega), if_neg]
  intro c
  rw [List.any_eq_true] at c
  obtain ⟨a, ha, hc⟩ := c
  have := of_decide_eq_true hc
  have := ht a ha
  omega
theorem intO_ints {w : World} {b : Nat} {xs : List Int} {c : Nat} (h : w.heap[b]? = some (intO xs)) : intsV w (.slice (some ⟨b, 0, none⟩) xs.length c) xs :=
  ⟨_, _, rfl, fun _ => ⟨b, 0, rfl, (Array.getElem?_eq_some_iff.1 h).1, fun i hi => by
    rw [Nat.zero_add, row_cell (cs := (ivs xs).toArray) (by exact h)]
    simp [ivs, List.getD_eq_getElem?_getD, hi]⟩⟩
theorem same14 (a b : Value) (ts : List Int) (w : World) (ha : intsV w a ts) (hb : intsV w b ts) (hn : ts.length ≤ 2097152) :
    Calls Try.prog 14 #[a, b] w fun e w' => e = .returned (.bool true) ∧ Below w.heap.size w w' := by
  obtain ⟨A, ca, rfl, hc⟩ := ha
  obtain ⟨A2, cb, rfl, hd⟩ := hb
  have HC := hide hc
  have HD := hide hd
  obtain ⟨n, hnx⟩ : ∃ n, n = ts.length := ⟨_, rfl⟩
  rw [← hnx] at hn HC HD ⊢
  clear hc hd hnx
  go_enter Try.func14, Try.ntmps14
  go_wp2
  go_loopw [5] (fun i wr => ∃ j k : Nat, j ≤ n ∧ i = .int .i64 j ∧ wr = w.drewN k) (fun i _ => n - (intOf i).toNat)
  case atStart => exact ⟨0, 0, by omega, rfl, rfl⟩
  case round =>
    obtain ⟨j, k, hj, rfl, rfl⟩ := hrel
    by_cases hlt : j < n
    · obtain ⟨b1, o1, hA, _, hc1⟩ := unhide HC (by omega)
      obtain ⟨b2, o2, hA2, _, hc2⟩ := unhide HD (by omega)
      subst hA hA2
      have q1 : (j : Int) < (n : Int) := by omega
      have q0 : (0 : Int) ≤ (j : Int) := by omega
      have p1 : ∀ k, (w.drewN k).cell? ⟨b1, o1 + j, none⟩ = some (.int .i64 (ts.getD j 0)) := fun k => hc1 j hlt
      have p2 : ∀ k, (w.drewN k).cell? ⟨b2, o2 + j, none⟩ = some (.int .i64 (ts.getD j 0)) := fun k => hc2 j hlt
      have HJ := hide hlt
      clear hc1 hc2 hlt hj
      generalize ts.getD j 0 = xj at *
      go_wp2
      go_quiet (fail)
      rw [show (w.drewN k).drewN nq = w.drewN (k + nq) by simp [World.drewN, Nat.add_assoc]]
      go_wp2
      go_roundw
      case rel => exact ⟨j + 1, _, unhide HJ, by go_num, rfl⟩
      case measure => have := unhide HJ; simp [intOf]; omega
    · obtain rfl : j = n := by omega
      clear hlt
      go_wp2
      go_ret
      exact ⟨rfl, below_drewN (Below.refl _ _) k⟩
end Go.Proofs.Ythonnlifgdnacaa
