/- To shift noise by one: the law of it, walked. -/
import Derived.Test.YtafjodaeckiedaaWex
import Derived.Test.YtafjodaeckiedaaAt
import Derived.Test.YtafjodaeckiedaaCodeOf
namespace Go.Proofs.Ytafjodaeckiedaa
open Go.RowKit
set_option maxHeartbeats 4000000
set_option maxRecDepth 20000
theorem wF_end (n m a b : Int) (hm : 1 ≤ m) (h : n = 0 ∨ n = 2 * m) : wF n m a b = b * a ^ m.toNat := by
  unfold wF
  rw [if_neg (by omega), if_pos (by omega)]
theorem wF_inner (n m a b : Int) (h0 : 0 < n) (h1 : n < 2 * m) (d k : Nat) (hd : max (n - m) (m - n) = d) (hk : m - d = (k : Int)) : wF n m a b = (b - a) * a ^ d * b ^ k := by
  unfold wF
  rw [if_neg (by omega), if_neg (by omega), hd, hk, Int.toNat_natCast, Int.toNat_natCast]
theorem wF_step (a b : Int) (d k : Nat) : (b - a) * a ^ (d + 1) * b ^ k * b = (b - a) * a ^ d * b ^ (k + 1) * a := by
  rw [Int.pow_succ, Int.pow_succ]; grind
/-- within the ends, one further or nearer: no more than the ratio -/
theorem wF_near (n k m a b : Int) (ha : 1 ≤ a) (hab : a < b) (hb : b ≤ 16) (h8 : m ≤ 8) (hk : k = -1 ∨ k = 1) (h0 : 0 < n) (h1 : n < 2 * m) (h2 : 0 < n + k) (h3 : n + k < 2 * m) :
    wF n m a b * a ≤ wF (n + k) m a b * b ∧ wF (n + k) m a b * a ≤ wF n m a b * b := by
  obtain ⟨d, hd⟩ : ∃ d : Nat, max (n - m) (m - n) = d := ⟨(max (n - m) (m - n)).toNat, by omega⟩
  obtain ⟨d', hd'⟩ : ∃ d : Nat, max (n + k - m) (m - (n + k)) = d := ⟨(max (n + k - m) (m - (n + k))).toNat, by omega⟩
  obtain ⟨j, hj⟩ : ∃ j : Nat, m - (d : Int) = j := ⟨(m - (d : Int)).toNat, by omega⟩
  obtain ⟨j', hj'⟩ : ∃ j : Nat, m - (d' : Int) = j := ⟨(m - (d' : Int)).toNat, by omega⟩
  rw [wF_inner n m a b h0 h1 d j hd hj, wF_inner (n + k) m a b h2 h3 d' j' hd' hj']
  have key : ∀ d k : Nat, d + k + 1 ≤ 8 → (b - a) * a ^ d * b ^ (k + 1) * a ≤ (b - a) * a ^ (d + 1) * b ^ k * b ∧ (b - a) * a ^ (d + 1) * b ^ k * a ≤ (b - a) * a ^ d * b ^ (k + 1) * b := by
    intro d k hk
    have e := wF_step a b d k
    refine ⟨by rw [e]; exact Int.le_refl _, ?_⟩
    have p1 := (pr_bd a b ha hab hb d (k + 1) (by omega)).2.2.1
    have p2 := (pr_bd a b ha hab hb (d + 1) k (by omega)).2.2.1
    have i1 : (b - a) * a ^ (d + 1) * b ^ k * a ≤ (b - a) * a ^ (d + 1) * b ^ k * b := Int.mul_le_mul_of_nonneg_left (by omega) (by omega)
    have i2 : (b - a) * a ^ d * b ^ (k + 1) * a ≤ (b - a) * a ^ d * b ^ (k + 1) * b := Int.mul_le_mul_of_nonneg_left (by omega) (by omega)
    omega
  rcases (by omega : (d' = d + 1 ∧ j = j' + 1) ∨ (d = d' + 1 ∧ j' = j + 1)) with ⟨rfl, rfl⟩ | ⟨rfl, rfl⟩
  · exact key d j' (by omega)
  · exact (key d' j (by omega)).symm
theorem wR_ok (n m a b : Int) (ha : 1 ≤ a) (hab : a < b) (hb : b ≤ 16) (h0 : 0 ≤ m) (h8 : m ≤ 8) (hn : 0 ≤ n) (hn2 : n ≤ 2 * m) : wR n m a b = (wF n m a b, 0) := by
  unfold wR rOK mOK nOK
  rw [decide_eq_true ⟨ha, hab, hb⟩, decide_eq_true ⟨h0, h8⟩, decide_eq_true ⟨hn, hn2⟩]
  rfl
theorem wF_bd (n m a b : Int) (ha : 1 ≤ a) (hab : a < b) (hb : b ≤ 16) (h0 : 0 ≤ m) (h8 : m ≤ 8) (hn : 0 ≤ n) (hn2 : n ≤ 2 * m) : 1 ≤ wF n m a b ∧ wF n m a b ≤ 68719476736 := by
  by_cases hm : m = 0
  · unfold wF; rw [if_pos hm]; omega
  by_cases he : n = 0 ∨ n = 2 * m
  · rw [wF_end n m a b (by omega) he]
    have hp := pw_small a ha (by omega) m.toNat (by omega)
    constructor
    · have := Int.mul_le_mul (show 1 ≤ b by omega) hp.1 (by omega) (by omega); omega
    · have := Int.mul_le_mul hb hp.2 (by omega) (by omega); omega
  · obtain ⟨d, hd⟩ : ∃ d : Nat, max (n - m) (m - n) = d := ⟨(max (n - m) (m - n)).toNat, by omega⟩
    obtain ⟨j, hj⟩ : ∃ j : Nat, m - (d : Int) = j := ⟨(m - (d : Int)).toNat, by omega⟩
    rw [wF_inner n m a b (by omega) (by omega) d j hd hj]
    exact (pr_bd a b ha hab hb d j (by omega)).2.2
theorem law_priv (w : World) (A : Option Addr) (n cap : Nat) (hn : n ≤ maxLen) (hA : codeAt w A n) (B : Option Addr) (m cb : Nat) (hm : m ≤ maxLen) (hB : codeAt w B m) :
    Calls Try.prog 4 #[.slice A n cap, .slice B m cb] w fun e w' => e = .returned (.bool true) ∧ Below w.heap.size w w' := by
  unfold maxLen at hn hm
  by_cases h1 : 1048576 < n
  · have q : (1048576 : Int) < (n : Int) := by omega
    have q2 : (n : Int) ≤ 9223372036854775807 := by omega
    clear h1 hn hA hB hm
    go_enter Try.func4, Try.ntmps4
    go_wp2
    go_ret
    exact ⟨rfl, Below.refl _ _⟩
  have q1 : (n : Int) ≤ 1048576 := by omega
  have t1 : decide ((1048576 : Int) < (n : Int)) = false := decide_eq_false (by omega)
  by_cases h2 : 1048576 < m
  · have q : (1048576 : Int) < (m : Int) := by omega
    have q2 : (m : Int) ≤ 9223372036854775807 := by omega
    clear h1 h2 hn hA hB hm
    go_enter Try.func4, Try.ntmps4
    go_wp2
    go_ret
    exact ⟨rfl, Below.refl _ _⟩
  have q2 : (m : Int) ≤ 1048576 := by omega
  have t2 : decide ((1048576 : Int) < (m : Int)) = false := decide_eq_false (by omega)
  have hat0 : Hid (∀ W, Below w.heap.size w W → Calls Try.prog 12 #[.slice B m cb, .int .i64 0, .int .i64 8] W fun e w' => ∃ v : Nat, e = .returned (.int .i64 v) ∧ v < 8 ∧ Below W.heap.size W w') := hide fun W hb => at_any W B m cb 0 8 (by omega) (by omega) (by omega) (by omega) (codeAt_below hB hb)
  have hat1 : Hid (∀ W, Below w.heap.size w W → Calls Try.prog 12 #[.slice B m cb, .int .i64 1, .int .i64 7] W fun e w' => ∃ v : Nat, e = .returned (.int .i64 v) ∧ v < 7 ∧ Below W.heap.size W w') := hide fun W hb => at_any W B m cb 1 7 (by omega) (by omega) (by omega) (by omega) (codeAt_below hB hb)
  have hat2 : Hid (∀ W, Below w.heap.size w W → Calls Try.prog 12 #[.slice B m cb, .int .i64 2, .int .i64 8] W fun e w' => ∃ v : Nat, e = .returned (.int .i64 v) ∧ v < 8 ∧ Below W.heap.size W w') := hide fun W hb => at_any W B m cb 2 8 (by omega) (by omega) (by omega) (by omega) (codeAt_below hB hb)
  have hat3 : Hid (∀ (Q : Nat) W, 1 < Q → Q ≤ 17 → Below w.heap.size w W → Calls Try.prog 12 #[.slice A n cap, .int .i64 0, .int .i64 (Q : Int)] W fun e w' => ∃ v : Nat, e = .returned (.int .i64 v) ∧ v < Q ∧ Below W.heap.size W w') := hide fun Q W q1 q2 hb => at_any W A n cap 0 Q (by omega) (by omega) (by omega) (by omega) (codeAt_below hA hb)
  have hat4 : Hid (∀ W, Below w.heap.size w W → Calls Try.prog 12 #[.slice A n cap, .int .i64 1, .int .i64 2] W fun e w' => ∃ v : Nat, e = .returned (.int .i64 v) ∧ v < 2 ∧ Below W.heap.size W w') := hide fun W hb => at_any W A n cap 1 2 (by omega) (by omega) (by omega) (by omega) (codeAt_below hA hb)
  clear h1 h2 hn hm hA hB
  go_enter Try.func4, Try.ntmps4
  go_wp2_with fail
  refine (unhide hat0 w (Below.refl _ _)).mono ?_
  rintro e w1 ⟨v0, rfl, hv0, b1⟩
  have B1 := hide b1
  obtain ⟨a, ha⟩ : ∃ a : Int, (1 : Int) + (v0 : Int) = a := ⟨_, rfl⟩
  have a1 : 1 ≤ a := by omega
  have a8 : a ≤ 8 := by omega
  clear hat0 b1 hv0
  go_wp2_with fail
  clear ha
  refine (unhide hat1 w1 (unhide B1)).mono ?_
  rintro e w2 ⟨v1, rfl, hv1, b2⟩
  have B2 := hide (bl_st b2 (unhide B1))
  obtain ⟨b, hb⟩ : ∃ b : Int, a + 1 + (v1 : Int) = b := ⟨_, rfl⟩
  have b1 : a < b := by omega
  have b16 : b ≤ 16 := by omega
  clear hat1 b2 hv1 B1
  go_wp2_with fail
  clear hb
  refine (unhide hat2 w2 (unhide B2)).mono ?_
  rintro e w3 ⟨v2, rfl, hv2, b3⟩
  have B3 := hide (bl_st b3 (unhide B2))
  obtain ⟨M, hM⟩ : ∃ M : Nat, 1 + v2 = M := ⟨_, rfl⟩
  have hM' : (1 : Int) + (v2 : Int) = (M : Int) := by omega
  have m1 : (1 : Int) ≤ (M : Int) := by omega
  have m8 : (M : Int) ≤ 8 := by omega
  obtain ⟨Q, hQ⟩ : ∃ Q : Nat, 2 * (M : Int) + 1 = (Q : Int) := ⟨2 * M + 1, by omega⟩
  have HQ := hide hQ
  clear hat2 b3 hv2 B2 hM
  go_wp2_with fail
  clear hM' hQ
  refine (unhide hat3 Q w3 (by have := unhide HQ; omega) (by have := unhide HQ; omega) (unhide B3)).mono ?_
  rintro e w4 ⟨N, rfl, hN, b4⟩
  have B4 := hide (bl_st b4 (unhide B3))
  have n0 : (0 : Int) ≤ (N : Int) := by omega
  have n2 : (N : Int) ≤ 2 * (M : Int) := by have := unhide HQ; omega
  clear hat3 b4 hN B3 HQ
  go_wp2_with fail
  refine (unhide hat4 _ (bl_al (unhide B4))).mono ?_
  rintro e w5 ⟨v4, rfl, hv4, b5⟩
  have B5 := hide (bl_st b5 (bl_al (unhide B4)))
  have g5 : w5.heap[w4.heap.size]? = some (.cells #[.int .i64 (-1), .int .i64 1] 3 (0, 0)) := (b5.block _ (by rw [show (w4.alloc (Obj.cells #[Value.int IntKind.i64 (-1), Value.int IntKind.i64 1] 3)).heap.size = w4.heap.size + 1 from Array.size_push ..]; omega)).trans (heap_at _ _ _ rfl)
  obtain ⟨k, hk, ck⟩ : ∃ k : Int, (k = -1 ∨ k = 1) ∧ w5.cell? ⟨w4.heap.size, v4, none⟩ = some (.int .i64 k) := by
    rcases (by omega : v4 = 0 ∨ v4 = 1) with rfl | rfl
    · exact ⟨-1, .inl rfl, row_cell (i := 0) g5⟩
    · exact ⟨1, .inr rfl, row_cell (i := 1) g5⟩
  have v40 : (0 : Int) ≤ (v4 : Int) := by omega
  have v41 : (v4 : Int) < 2 := by omega
  have k0 : -1 ≤ k := by omega
  have k1 : k ≤ 1 := by omega
  have HK := hide hk
  have KI := hide (fun W => shi21 N k M W)
  have KS := hide (fun W => shi22 N k M W)
  have KW1 := hide (fun W => wei15 0 M a b W)
  have KW2 := hide (fun W => wei15 (2 * (M : Int)) M a b W)
  rw [wR_ok 0 M a b a1 b1 b16 (by omega) m8 (by omega) (by omega), wF_end 0 M a b m1 (.inl rfl), Int.toNat_natCast] at KW1
  rw [wR_ok (2 * (M : Int)) M a b a1 b1 b16 (by omega) m8 (by omega) (by omega), wF_end (2 * (M : Int)) M a b m1 (.inr rfl), Int.toNat_natCast] at KW2
  have HP : Hid (∀ j : Nat, j ≤ 8 → 1 ≤ a ^ j ∧ a ^ j ≤ 4294967296) := hide fun j hj => pw_small a a1 (by omega) j hj
  have hE : Hid (0 ≤ b * a ^ M ∧ b * a ^ M ≤ 68719476736) := hide (by
    have hp := unhide HP M (by omega)
    constructor
    · exact Int.mul_nonneg (by omega) (by omega)
    · have := Int.mul_le_mul b16 hp.2 (by omega) (by omega); omega)
  have hX : Hid (b * a ^ M + b * a ^ M = 2 * b * a ^ M) := hide (by rw [Int.mul_assoc, Int.two_mul])
  obtain ⟨E, he⟩ : ∃ E, E = b * a ^ M := ⟨_, rfl⟩
  rw [← he] at KW1 KW2 hE hX
  have e0 := (unhide hE).1
  have e1 := (unhide hE).2
  clear hat4 b5 hv4 B4 g5 hk hE he
  by_cases hin : 0 ≤ (N : Int) + k ∧ (N : Int) + k ≤ 2 * (M : Int)
  · obtain ⟨i0, i1⟩ := hin
    rw [show sR N k M = ((N : Int) + k, 0) by unfold sR; rw [if_pos (by omega), if_pos (by omega)]] at KI KS
    have KP := hide (fun W => wei15 N M a b W)
    have KQ := hide (fun W => wei15 (N + k) M a b W)
    rw [wR_ok N M a b a1 b1 b16 (by omega) m8 n0 n2] at KP
    rw [wR_ok (N + k) M a b a1 b1 b16 (by omega) m8 i0 i1] at KQ
    have p0 := wF_bd N M a b a1 b1 b16 (by omega) m8 n0 n2
    have q0 := wF_bd (N + k) M a b a1 b1 b16 (by omega) m8 i0 i1
    have HNE := hide (fun h0 h1 h2 h3 => wF_near N k M a b a1 b1 b16 m8 (unhide HK) h0 h1 h2 h3)
    generalize wF N M a b = p at *
    generalize wF (N + k) M a b = q at *
    go_wp2_with fail
    refine (unhide KI _).mono ?_
    rintro e w6 ⟨rfl, rfl⟩
    clear KI
    go_wp2_with fail
    refine (unhide KS _).mono ?_
    rintro e w7 ⟨rfl, rfl⟩
    clear KS
    go_wp2_with fail
    refine (unhide KW1 _).mono ?_
    rintro e w8 ⟨rfl, rfl⟩
    clear KW1
    go_wp2_with fail
    refine (unhide KW2 _).mono ?_
    rintro e w9 ⟨rfl, rfl⟩
    clear KW2
    clear ck
    go_wp2
    go_loopw [19, 18] (fun i o wr => ∃ j : Nat, j ≤ M ∧ i = .int .i64 j ∧ o = .int .i64 (2 * b * a ^ j) ∧ wr = w9) (fun i _ _ => M - (intOf i).toNat)
    case atStart => exact ⟨0, by omega, rfl, by rw [Int.pow_zero, Int.mul_one], rfl⟩
    case round =>
      obtain ⟨j, hj, rfl, rfl, rfl⟩ := hrel
      by_cases hlt : j < M
      · have q1 : (j : Int) < (M : Int) := by omega
        have HJ := hide hlt
        have hb := unhide HP (j + 1) (by omega)
        have HS := hide (show 2 * b * a ^ j * a = 2 * b * a ^ (j + 1) by rw [Int.pow_succ, Int.mul_assoc])
        have hb2 : 0 ≤ 2 * b * a ^ (j + 1) ∧ 2 * b * a ^ (j + 1) ≤ 137438953472 := by
          constructor
          · exact Int.mul_nonneg (by omega) (by omega)
          · have := Int.mul_le_mul (show 2 * b ≤ 32 by omega) hb.2 (by omega) (by omega); omega
        rw [← unhide HS] at hb2
        generalize 2 * b * a ^ j = x at *
        have hw := wrap_ok (x * a) (by omega) (by omega)
        clear hb hb2 hlt hj
        go_wp2
        go_roundw
        case rel => exact ⟨j + 1, unhide HJ, by go_num, by rw [unhide HS], by first | rfl | trivial⟩
        case measure => have := unhide HJ; simp [intOf]; omega
      · obtain rfl : j = M := by omega
        have ex := unhide hX
        generalize 2 * b * a ^ j = x at *
        clear hlt hj
        go_wp2_with fail
        refine (unhide KP _).mono ?_
        rintro e w10 ⟨rfl, rfl⟩
        clear KP
        go_wp2_with fail
        refine (unhide KQ _).mono ?_
        rintro e w11 ⟨rfl, rfl⟩
        clear KQ ex hX
        obtain ⟨p1, p2⟩ := p0
        obtain ⟨r1, r2⟩ := q0
        rcases (by omega : (N : Int) = 0 ∨ (N : Int) = 2 * (j : Int) ∨ (0 < (N : Int) ∧ (N : Int) < 2 * (j : Int))) with c1 | c1 | ⟨c1, c2⟩
        · go_wp2
          all_goals
            go_ret
            exact ⟨rfl, unhide B5⟩
        · go_wp2
          all_goals
            go_ret
            exact ⟨rfl, unhide B5⟩
        · rcases (by omega : (N : Int) + k = 0 ∨ (N : Int) + k = 2 * (j : Int) ∨ (0 < (N : Int) + k ∧ (N : Int) + k < 2 * (j : Int))) with d1 | d1 | ⟨d1, d2⟩
          · go_wp2
            all_goals
              go_ret
              exact ⟨rfl, unhide B5⟩
          · go_wp2
            all_goals
              go_ret
              exact ⟨rfl, unhide B5⟩
          · obtain ⟨f1, f2⟩ := unhide HNE c1 c2 d1 d2
            have mb : ∀ x y : Int, 1 ≤ x → x ≤ 68719476736 → 1 ≤ y → y ≤ 16 → IntKind.i64.wrap (x * y) = x * y := fun x y h1 h2 h3 h4 => wrap_ok _ (by have := Int.mul_nonneg (show 0 ≤ x by omega) (show 0 ≤ y by omega); omega) (by have := Int.mul_le_mul h2 h4 (by omega) (by omega); omega)
            have w1 := mb p a p1 p2 a1 (by omega)
            have w2 := mb p b p1 p2 (by omega) b16
            have w3 := mb q a r1 r2 a1 (by omega)
            have w4 := mb q b r1 r2 (by omega) b16
            clear mb
            go_wp2
            all_goals
              go_ret
              exact ⟨rfl, unhide B5⟩
  · rw [show sR N k M = (0, 5) by unfold sR; rw [if_pos (by omega), if_neg hin]] at KI KS
    have hin' : (N : Int) + k < 0 ∨ 2 * (M : Int) < (N : Int) + k := by omega
    clear hin
    rcases hin' with hz | hz
    all_goals
      go_wp2_with fail
      refine (unhide KI _).mono ?_
      rintro e w9 ⟨rfl, rfl⟩
      clear KI
      go_wp2_with fail
      refine (unhide KS _).mono ?_
      rintro e w9 ⟨rfl, rfl⟩
      clear KS
      go_wp2_with fail
      refine (unhide KW1 _).mono ?_
      rintro e w9 ⟨rfl, rfl⟩
      clear KW1
      go_wp2_with fail
      refine (unhide KW2 _).mono ?_
      rintro e w9 ⟨rfl, rfl⟩
      clear KW2
      clear ck
      go_wp2
      go_loopw [19, 18] (fun i o wr => ∃ j : Nat, j ≤ M ∧ i = .int .i64 j ∧ o = .int .i64 (2 * b * a ^ j) ∧ wr = w9) (fun i _ _ => M - (intOf i).toNat)
      case atStart => exact ⟨0, by omega, rfl, by rw [Int.pow_zero, Int.mul_one], rfl⟩
      case round =>
        obtain ⟨j, hj, rfl, rfl, rfl⟩ := hrel
        by_cases hlt : j < M
        · have q1 : (j : Int) < (M : Int) := by omega
          have HJ := hide hlt
          have hb := unhide HP (j + 1) (by omega)
          have HS := hide (show 2 * b * a ^ j * a = 2 * b * a ^ (j + 1) by rw [Int.pow_succ, Int.mul_assoc])
          have hb2 : 0 ≤ 2 * b * a ^ (j + 1) ∧ 2 * b * a ^ (j + 1) ≤ 137438953472 := by
            constructor
            · exact Int.mul_nonneg (by omega) (by omega)
            · have := Int.mul_le_mul (show 2 * b ≤ 32 by omega) hb.2 (by omega) (by omega); omega
          rw [← unhide HS] at hb2
          generalize 2 * b * a ^ j = x at *
          have hw := wrap_ok (x * a) (by omega) (by omega)
          clear hb hb2 hlt hj
          go_wp2
          go_roundw
          case rel => exact ⟨j + 1, unhide HJ, by go_num, by rw [unhide HS], by first | rfl | trivial⟩
          case measure => have := unhide HJ; simp [intOf]; omega
        · obtain rfl : j = M := by omega
          have ex := unhide hX
          generalize 2 * b * a ^ j = x at *
          clear hlt hj
          go_wp2
          go_ret
          exact ⟨rfl, unhide B5⟩
end Go.Proofs.Ytafjodaeckiedaa
