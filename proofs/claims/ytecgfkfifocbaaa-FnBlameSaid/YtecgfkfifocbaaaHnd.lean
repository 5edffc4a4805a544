/- The iterator over hops: what it hands to each round. -/
import Derived.Test.YtecgfkfifocbaaaRnd
namespace Go.Proofs.Ytecgfkfifocbaaa
open Go.RowKit
set_option maxHeartbeats 4000000
set_option maxRecDepth 20000
attribute [local go_sem] Oper.semAt_some
/-- a hop: one fewer than forms -/
abbrev Hp (N : Nat) := { h : Nat // h + 1 < N }
/-- what a round is handed -/
def encs {N : Nat} (ts : List ByteArray) (x : Hp N) : Array Value := #[.int .i64 ((x.1 : Nat) : Int), .agg #[.string (ts.getD x.1 noS), .string (ts.getD (x.1 + 1) noS)]]
/-- how a round ends -/
def rndE {α : Type} (n0 : Nat) (J Jx : List α → World → Prop) (pre : List α) (W : World) (b : Bool) (W' : World) : Prop := if b = true then J pre W' ∧ Below n0 W W' else Jx pre W'
/-- how the iterator ends -/
def hndE {N : Nat} (J Jx : List (Hp N) → World → Prop) (e : Ending) (W' : World) : Prop := (∃ v, e = .returned v) ∧
      ((∃ ys : List (Hp N), ys.map (·.1) = List.range (N - 1) ∧ J ys W') ∨ (∃ pre : List (Hp N), pre.map (·.1) = List.range pre.length ∧ Jx pre W'))
theorem drew_grown (W : World) : W.grownBy W.drew none := ⟨rfl, rfl, rfl, Nat.le_refl _, fun _ _ _ => rfl⟩
theorem hand39 (N n l Bf n0 : Nat) (A : Option Addr) (cap : Nat) (ts : List ByteArray) (hN : N = ts.length) (J Jx : List (Hp N) → World → Prop)
    (hY : ∀ pre x W, J pre W → pre.length < N → YieldAt Fence.wide (n - 1) Try.prog l (encs ts x) W fun e W' =>
      (e = .returned (.bool true) ∧ J (pre ++ [x]) W' ∧ Below n0 W W') ∨ (e = .returned (.bool false) ∧ Jx (pre ++ [x]) W'))
    (W : World) (hJ : AbidesFrom W.heap.size J) (hBf : Bf < n0) (hc : W.cell? ⟨Bf, 0, none⟩ = some (.slice A N cap))
    (hs : 0 < N → ∃ b off, A = some ⟨b, off, none⟩ ∧ b < n0 ∧ ∀ i, i < N → W.cell? ⟨b, off + i, none⟩ = some (.string (ts.getD i noS)))
    (h0 : J [] W) (hn : N ≤ 2097152) (h1n : 1 ≤ n) :
    CallsIn Fence.wide n Try.prog 39 #[.func (.yield l) #[] #[], .pointer (some ⟨Bf, 0, none⟩)] W (hndE J Jx) := by
  have hm : Try.prog.follows .mixedOrders = true := by kernel_rfl
  have HY := hide hY
  have HS := hide hs
  have HJ := hide hJ
  have H0 := hide h0
  have HC := hide hc
  have HB := hide hBf
  have HN := hide hN
  have n0' : (0 : Int) ≤ (N : Int) := by omega
  have n1 : (N : Int) ≤ 2097152 := by omega
  clear hY hs hJ h0 hBf hN hn
  refine callsIn_of_wp Try.func39 rfl trivial ?_ rfl
  simp only [Try.ntmps39, List.size_toArray, List.length_cons, List.length_nil, Nat.reduceAdd, Nat.reduceSub, Array.replicate_succ, Array.replicate_zero, List.push_toArray, List.append_toArray, List.nil_append, List.cons_append]
  gi_wp2
  clear hc
  gi_loopw [7] (fun i wr => ∃ (j : Nat) (pre : List (Hp N)), j ≤ N - 1 ∧ i = .int .i64 (j : Int) ∧ pre.map (·.1) = List.range j ∧ J pre wr ∧ Below n0 W wr) (fun i _ => N - 1 - (intOf i).toNat)
  case atStart => exact ⟨0, [], Nat.zero_le _, rfl, rfl, unhide H0, Below.refl _ _⟩
  case round =>
    obtain ⟨j, pre, hj, rfl, hp, hJs, hbl⟩ := hrel
    have hpl : pre.length = j := by have := congrArg List.length hp; simpa using this
    by_cases hlt : j < N - 1
    · obtain ⟨b, off, hA, hb, hcell⟩ := unhide HS (by omega)
      subst hA
      have q0 : (0 : Int) ≤ (j : Int) := by omega
      have q1 : (j : Int) < (N : Int) - 1 := by omega
      have q2 : (j : Int) < (N : Int) := by omega
      obtain ⟨k, hk⟩ : ∃ k : Nat, k = j + 1 := ⟨_, rfl⟩
      have q3 : (k : Int) < (N : Int) := by omega
      have q4 : (0 : Int) ≤ (k : Int) := by omega
      have q5 : (j : Int) + 1 = (k : Int) := by omega
      have q6 : IntKind.i64.wrap (k : Int) = (k : Int) := by rw [IntKind.wrap_i64]; omega
      have p0 : wr.cell? ⟨Bf, 0, none⟩ = some (.slice (some ⟨b, off, none⟩) N cap) := (hbl.cell (p := ⟨Bf, 0, none⟩) (unhide HB)).trans (unhide HC)
      have p1 : wr.cell? ⟨b, off + j, none⟩ = some (.string (ts.getD j noS)) := (hbl.cell (p := ⟨b, off + j, none⟩) hb).trans (hcell j (by omega))
      have p2 : wr.cell? ⟨b, off + k, none⟩ = some (.string (ts.getD k noS)) := (hbl.cell (p := ⟨b, off + k, none⟩) hb).trans (hcell k (by omega))
      obtain ⟨x, hx⟩ : ∃ x : Hp N, x.1 = j := ⟨⟨j, by omega⟩, rfl⟩
      obtain ⟨fn, tmps, assign, body, hy, hR⟩ := unhide HY pre x wr.drew (unhide HJ _ _ _ none hJs (drew_grown wr) (fun r e => by cases e)) (by omega)
      have hR2 := hide (hR.mono (R' := fun e W' => ∃ b, e = .returned (.bool b) ∧ rndE n0 J Jx (pre ++ [x]) wr.drew b W') (by
        rintro e W' (⟨rfl, h1, h2⟩ | ⟨rfl, h1⟩)
        · exact ⟨true, rfl, by unfold rndE; rw [if_pos rfl]; exact ⟨h1, h2⟩⟩
        · exact ⟨false, rfl, by unfold rndE; rw [if_neg (by decide)]; exact h1⟩))
      dsimp only [encs] at hy
      rw [hx, ← hk] at hy
      have HK := hide hk
      have HX := hide hx
      have HJ1 := hide hlt
      have HP := hide hp
      have HPL := hide hpl
      have HBL := hide hbl
      clear hk hx hR hcell hb hlt hj hp hpl hJs hbl
      generalize ts.getD j noS = s1 at *
      generalize ts.getD k noS = s2 at *
      gi_wp2
      gi_region_with_o (refine (unhide hR2).mono ?_; rintro e W3 ⟨b3, rfl, hb3⟩)
      all_goals
        have HM : Hid ((pre ++ [x]).map (·.1) = List.range k) := hide (by rw [List.map_append, unhide HP, unhide HK, List.range_succ]; simp [unhide HX])
        cases b3
        · have HE : Hid (Jx (pre ++ [x]) W3) := hide (by have h := hb3; unfold rndE at h; rwa [if_neg (by decide)] at h)
          clear hb3 hy p0 p1 p2
          gi_wp2
          refine bodyPost_ret (results_none rfl _ _ _) rfl ?_
          exact ⟨⟨_, rfl⟩, .inr ⟨pre ++ [x], by rw [unhide HM, List.length_append, unhide HPL, unhide HK]; rfl, unhide HE⟩⟩
        · have HE : Hid (J (pre ++ [x]) W3 ∧ Below n0 wr.drew W3) := hide (by have h := hb3; unfold rndE at h; rwa [if_pos rfl] at h)
          clear hb3 hy p0 p1 p2
          gi_wp2
          go_roundw
          case rel => exact ⟨k, pre ++ [x], by have := unhide HK; have := unhide HJ1; omega, rfl, unhide HM, (unhide HE).1, (show Below n0 W wr.drew from ⟨(unhide HBL).os, (unhide HBL).tape, (unhide HBL).output, (unhide HBL).size, (unhide HBL).block⟩).trans (unhide HE).2⟩
          case measure => have := unhide HK; have := unhide HJ1; simp [intOf]; omega
    · have q1 : (N : Int) - 1 ≤ (j : Int) := by omega
      have q0 : (0 : Int) ≤ (j : Int) := by omega
      have HE : Hid (hndE J Jx (.returned (.tuple #[])) wr) := hide ⟨⟨_, rfl⟩, .inl ⟨pre, by rw [hp]; congr 1; omega, hJs⟩⟩
      clear hlt hj hp hpl hJs hbl
      gi_wp2
      go_end0
      exact unhide HE
end Go.Proofs.Ytecgfkfifocbaaa
