/- UniformOf, both sides, and the law of it, walked. -/
import Derived.Test.YtafjodaeckiedaaUni
namespace Go.Proofs.Ytafjodaeckiedaa
open Go.RowKit
set_option maxHeartbeats 4000000
set_option maxRecDepth 20000
def uniR (xs : List Int) (n : Int) : Int × Int × Int :=
  if 4096 < xs.length then (0, 0, 2) else if wOK xs = false then (0, 0, 1) else if 1 ≤ n ∧ n ≤ 65536 then
    (if (uF (65536 - 65536 % n) n xs 0).2.2 then ((uF (65536 - 65536 % n) n xs 0).1, (uF (65536 - 65536 % n) n xs 0).2.1, 0) else (0, 0, 14)) else (0, 0, 4)
abbrev rV (r : Int × Int × Int) : Value := .tuple #[.int .i64 r.1, .int .i64 r.2.1, .int .i64 r.2.2]
theorem of5 (v : Value) (xs : List Int) (n : Int) (w : World) (hv : intsV w v xs) (hn : xs.length ≤ 1048576) :
    Calls Try.prog 25 #[v, .int .i64 n] w fun e w' => e = .returned (rV (uniR xs n)) ∧ w' = w := by
  have K1 := hide (words11 v xs w hv (by omega))
  have K2 := hide (fun W => in19 n 1 65536 W)
  have K3 := hide (uni13 v xs n w hv)
  obtain ⟨A, cap, rfl, hc⟩ := hv
  clear hc
  have n0 : (0 : Int) ≤ (xs.length : Int) := by omega
  have n1 : (xs.length : Int) ≤ 1048576 := by omega
  by_cases h1 : 4096 < xs.length
  · have q : (4096 : Int) < (xs.length : Int) := by omega
    have HE : Hid (uniR xs n = (0, 0, 2)) := hide (by unfold uniR; rw [if_pos h1])
    clear h1 hn K1 K2 K3
    go_enter Try.func25, Try.ntmps25
    go_wp2
    go_ret3
    exact ⟨by rw [unhide HE]; rfl, rfl⟩
  have q : (xs.length : Int) ≤ 4096 := by omega
  have H1 := hide h1
  clear h1 hn
  cases hb : wOK xs
  · have HE : Hid (uniR xs n = (0, 0, 1)) := hide (by unfold uniR; rw [if_neg (unhide H1), if_pos hb])
    rw [hb] at K1
    clear hb K2 K3 H1
    go_enter Try.func25, Try.ntmps25
    go_wp2_with fail
    refine (unhide K1).mono ?_
    rintro e w' ⟨rfl, rfl⟩
    clear K1
    go_wp2
    go_ret3
    exact ⟨by rw [unhide HE]; rfl, rfl⟩
  rw [hb] at K1
  have HB := hide hb
  clear hb
  by_cases h : 1 ≤ n ∧ n ≤ 65536
  · have HE : Hid (uniR xs n = if (uF (65536 - 65536 % n) n xs 0).2.2 then ((uF (65536 - 65536 % n) n xs 0).1, (uF (65536 - 65536 % n) n xs 0).2.1, 0) else (0, 0, 14)) := hide (by
      unfold uniR; rw [if_neg (unhide H1), if_neg (by rw [unhide HB]; simp), if_pos h])
    rw [show (decide (1 ≤ n) && decide (n ≤ 65536)) = true by simp [h]] at K2
    have K := hide (unhide K3 (unhide HB) h.1 h.2)
    clear K3 HB H1 h
    generalize uF (65536 - 65536 % n) n xs 0 = r at *
    obtain ⟨a, b, c⟩ := r
    dsimp only at HE
    cases c
    all_goals
      go_enter Try.func25, Try.ntmps25
      go_wp2_with fail
      refine (unhide K1).mono ?_
      rintro e w' ⟨rfl, rfl⟩
      clear K1
      go_wp2_with fail
      refine (unhide K2 _).mono ?_
      rintro e w' ⟨rfl, rfl⟩
      clear K2
      go_wp2_with fail
      refine (unhide K).mono ?_
      rintro e w' ⟨rfl, rfl⟩
      clear K
      go_wp2
      go_ret3
      exact ⟨by rw [unhide HE]; rfl, rfl⟩
  · have HE : Hid (uniR xs n = (0, 0, 4)) := hide (by unfold uniR; rw [if_neg (unhide H1), if_neg (by rw [unhide HB]; simp), if_neg h])
    rw [show (decide (1 ≤ n) && decide (n ≤ 65536)) = false by simp; omega] at K2
    clear K3 HB H1 h
    go_enter Try.func25, Try.ntmps25
    go_wp2_with fail
    refine (unhide K1).mono ?_
    rintro e w' ⟨rfl, rfl⟩
    clear K1
    go_wp2_with fail
    refine (unhide K2 _).mono ?_
    rintro e w' ⟨rfl, rfl⟩
    clear K2
    go_wp2
    go_ret3
    exact ⟨by rw [unhide HE]; rfl, rfl⟩
end Go.Proofs.Ytafjodaeckiedaa
