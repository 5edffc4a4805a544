/- The laws' helpers sameTexts and samePeer, and the drawn acts. -/
import Derived.Test.YthonnlifgdnacaaTap
import Derived.Test.YthonnlifgdnacaaAt
namespace Go.Proofs.Ythonnlifgdnacaa
open Go.RowKit
set_option maxHeartbeats 4000000
set_option maxRecDepth 20000
set_option linter.unusedVariables false
theorem same20 (a b : Value) (ts : List ByteArray) (w : World) (ha : strsV w a ts) (hb : strsV w b ts) (hn : ts.length ≤ 2097152) :
    Calls Try.prog 20 #[a, b] w fun e w' => e = .returned (.bool true) ∧ ∃ k, w' = w.drewN k := by
  obtain ⟨A, ca, rfl, hc⟩ := ha
  obtain ⟨A2, cb, rfl, hd⟩ := hb
  have HC := hide hc
  have HD := hide hd
  obtain ⟨n, hnx⟩ : ∃ n, n = ts.length := ⟨_, rfl⟩
  rw [← hnx] at hn HC HD ⊢
  clear hc hd hnx
  go_enter Try.func20, Try.ntmps20
  go_wp2
  go_loopw [5] (fun i wr => ∃ j k : Nat, j ≤ n ∧ i = .int .i64 j ∧ wr = w.drewN k) (fun i _ => n - (intOf i).toNat)
  case atStart => exact ⟨0, 0, by omega, rfl, rfl⟩
  case round =>
    obtain ⟨j, k, hj, rfl, rfl⟩ := hrel
    by_cases hlt : j < n
    · obtain ⟨b1, o1, hA, _, hc1⟩ := unhide HC (by omega)
      obtain ⟨b2, o2, hA2, _, hc2⟩ := unhide HD (by omega)
      subst hA hA2
      have q1 : (j : Int) < (n : Int) := by omega
      have q0 : (0 : Int) ≤ (j : Int) := by omega
      have p1 : ∀ k, (w.drewN k).cell? ⟨b1, o1 + j, none⟩ = some (.string (ts.getD j noS)) := fun k => hc1 j hlt
      have p2 : ∀ k, (w.drewN k).cell? ⟨b2, o2 + j, none⟩ = some (.string (ts.getD j noS)) := fun k => hc2 j hlt
      have HJ := hide hlt
      clear hc1 hc2 hlt hj
      generalize ts.getD j noS = xj at *
      go_wp2
      go_quiet (fail)
      rw [show (w.drewN k).drewN nq = w.drewN (k + nq) by simp [World.drewN, Nat.add_assoc]]
      go_wp2
      go_roundw
      case rel => exact ⟨j + 1, _, unhide HJ, by go_num, rfl⟩
      case measure => have := unhide HJ; simp [intOf]; omega
    · obtain rfl : j = n := by omega
      clear hlt
      go_wp2
      go_ret
      exact ⟨rfl, k, rfl⟩
theorem same15 (v u : Value) (p : Pe) (w : World) (hv : peV w v p) (hu : peV w u p) (hf : peFew p) :
    Calls Try.prog 15 #[v, u] w fun e w' => e = .returned (.bool true) ∧ Below w.heap.size w w' := by
  obtain ⟨q, i, rfl, hq, hi⟩ := hv
  obtain ⟨q', i', rfl, hq', hi'⟩ := hu
  obtain ⟨f1, f2⟩ := hf
  obtain ⟨xq, s, e, xi⟩ := p
  dsimp only at *
  have B1 : Below w.heap.size w (w.alloc (.cells #[q, .int .i64 s, .int .i64 e, i] 33)) := bl_al (Below.refl _ _)
  have B2 := bl_al (o := .cells #[q', .int .i64 s, .int .i64 e, i'] 33) B1
  have K1 := hide (same20 q q' xq _ (hq.below B2) (hq'.below B2) (by omega))
  have K2 := hide (fun W (h : strsV W i xi) (h' : strsV W i' xi) => same20 i i' xi W h h' (by omega))
  have C := (pc_new w q s e i 33).below (bl_al (o := .cells #[q', .int .i64 s, .int .i64 e, i'] 33) (Below.refl _ _))
  have D := pc_new (w.alloc (.cells #[q, .int .i64 s, .int .i64 e, i] 33)) q' s e i' 33
  rw [show (w.alloc (.cells #[q, .int .i64 s, .int .i64 e, i] 33)).heap.size = w.heap.size + 1 by simp] at D
  have HC := hide C
  have HD := hide D
  obtain ⟨_, c0, c1, c2, c3⟩ := C
  obtain ⟨_, d0, d1, d2, d3⟩ := D
  have HB := hide B2
  have H1 := hide hi
  have H2 := hide hi'
  obtain ⟨A, ca, rfl⟩ := hq.slice
  obtain ⟨A2, cb, rfl⟩ := hi.slice
  obtain ⟨A', ca', rfl⟩ := hq'.slice
  obtain ⟨A2', cb', rfl⟩ := hi'.slice
  clear B1 B2 hq hi hq' hi' f1 f2
  go_enter Try.func15, Try.ntmps15
  go_wp2_with fail
  generalize (w.alloc (.cells #[.slice A xq.length ca, .int .i64 s, .int .i64 e, .slice A2 xi.length cb] 33)).alloc (.cells #[.slice A' xq.length ca', .int .i64 s, .int .i64 e, .slice A2' xi.length cb'] 33) = w2 at *
  refine (unhide K1).mono ?_
  rintro e1 w3 ⟨rfl, k, hk⟩
  have b3 : Below w2.heap.size w2 w3 := by rw [hk]; exact below_drewN (Below.refl _ _) _
  clear c0 c1 c2 c3 d0 d1 d2 d3 hk
  obtain ⟨_, c0, c1, c2, c3⟩ := (unhide HC).below b3
  obtain ⟨_, d0, d1, d2, d3⟩ := (unhide HD).below b3
  have B3 := hide (bl_st b3 (unhide HB))
  have V1 := hide ((unhide H1).below (unhide B3))
  have V2 := hide ((unhide H2).below (unhide B3))
  clear b3 K1 HB H1 H2 HC HD
  go_wp2_with fail
  refine (unhide K2 w3 (unhide V1) (unhide V2)).mono ?_
  rintro e1 w4 ⟨rfl, k, rfl⟩
  go_wp2
  go_ret
  exact ⟨rfl, below_drewN (unhide B3) k⟩
theorem of11 (A : Option Addr) (n cap : Nat) (w : World) (hn : n ≤ maxLen) (hA : codeAt w A n) :
    Calls Try.prog 11 #[.slice A n cap] w fun e w' => ∃ v al, e = .returned v ∧ actsV w' v al ∧ al.length ≤ 60 ∧ (∀ a ∈ al, a.t.size ≤ 10) ∧ Below w.heap.size w w' := by
  have K1 := hide (source_any A n cap hn w)
  have S1 : Sr w.heap.size A n cap 0 (w.alloc (srcO A n cap 0 ((n % 1000 : Nat) : Int))) := ⟨⟨0, ((n % 1000 : Nat) : Int), Nat.le_refl _, heap_alloc_last _ _, by omega, by omega⟩, codeIn_alloc hA _⟩
  have K2 := hide (acts45 w.heap.size A n cap _ S1 hn)
  have B1 : Below w.heap.size w (w.alloc (srcO A n cap 0 ((n % 1000 : Nat) : Int))) := bl_al (Below.refl _ _)
  have HB := hide B1
  clear S1 B1 hA
  go_enter Try.func11, Try.ntmps11
  go_wp2_with fail
  refine (unhide K1).mono ?_
  rintro e w1 ⟨rfl, rfl⟩
  generalize w.alloc (srcO A n cap 0 ((n % 1000 : Nat) : Int)) = w1 at *
  go_wp2_with fail
  refine (unhide K2).mono ?_
  rintro e w2 ⟨v, al, rfl, hv, h1, h2, h3⟩
  have HV := hide hv
  have H2 := hide h2
  have H3 := hide h3
  clear hv h2 h3 K1 K2
  go_wp2_with fail
  go_ret
  exact ⟨v, al, rfl, unhide HV, h1, unhide H2, (unhide H3).below (unhide HB) (Nat.le_refl _) (unhide HB).size⟩
end Go.Proofs.Ythonnlifgdnacaa
