/- The contract of times. -/
import Derived.Test.YtncplefjokbbjaaImplE
import Derived.Test.YtncplefjokbbjaaColumns
import Derived.Test.YtncplefjokbbjaaAddsTwo
import Derived.Deep.RegionWith
namespace Go.Proofs.Ytncplefjokbbjaa
open Go.RowKit
set_option maxHeartbeats 64000000
theorem or_back (k : Nat) (x y : Int) (hx0 : 0 ≤ x) (hx : x % (2 ^ k : Nat) = 0) (hx1 : x < 18446744073709551616) (hy0 : 0 ≤ y) (hy : y < (2 ^ k : Nat)) (hy1 : y < 18446744073709551616) : bits .or .u64 x y = x + y := by
  rw [u64_or x y hx0 hx1 hy0 hy1]
  obtain ⟨X, rfl⟩ := Int.eq_ofNat_of_zero_le hx0
  obtain ⟨Y, rfl⟩ := Int.eq_ofNat_of_zero_le hy0
  rw [Int.toNat_natCast, Int.toNat_natCast, nat_join k X Y (by exact_mod_cast hx) (by exact_mod_cast hy)]
  omega
theorem carry_math {h0 l0 h1 l1 h2 l2 h3 l3 h4 l4 H0 L0 H1 L1 H2 L2 H3 L3 H4 L4 c1 c2 c3 c4 c5 : Int} (t0 : 18446744073709551616 * H0 + L0 = 18446744073709551616 * h0 + l0 + 0 * 1) (t1 : 18446744073709551616 * H1 + L1 = 18446744073709551616 * h1 + l1 + c1 * 1) (t2 : 18446744073709551616 * H2 + L2 = 18446744073709551616 * h2 + l2 + c2 * 1) (t3 : 18446744073709551616 * H3 + L3 = 18446744073709551616 * h3 + l3 + c3 * 1) (t4 : 18446744073709551616 * H4 + L4 = 18446744073709551616 * h4 + l4 + c4 * 1)
    (e1 : H0 * 8192 + L0 / 2251799813685248 = c1) (e2 : H1 * 8192 + L1 / 2251799813685248 = c2) (e3 : H2 * 8192 + L2 / 2251799813685248 = c3) (e4 : H3 * 8192 + L3 / 2251799813685248 = c4) (e5 : H4 * 8192 + L4 / 2251799813685248 = c5) :
    V5 (L0 % 2251799813685248 + c5 * 19) (L1 % 2251799813685248) (L2 % 2251799813685248) (L3 % 2251799813685248) (L4 % 2251799813685248) = V5 (18446744073709551616 * h0 + l0) (18446744073709551616 * h1 + l1) (18446744073709551616 * h2 + l2) (18446744073709551616 * h3 + l3) (18446744073709551616 * h4 + l4) - pInt * c5 := by
  unfold V5 pInt; omega
theorem times_any (a0 a1 a2 a3 a4 b0 b1 b2 b3 b4 : Int) (w : World) (ha : Car a0 a1 a2 a3 a4) (hb : Car b0 b1 b2 b3 b4) :
    Calls Try.prog 52 #[L5 a0 a1 a2 a3 a4, L5 b0 b1 b2 b3 b4] w fun e w' => (∃ m0 m1 m2 m3 m4 : Int, e = .returned (L5 m0 m1 m2 m3 m4) ∧ Car m0 m1 m2 m3 m4 ∧ V5 m0 m1 m2 m3 m4 % pInt = (V5 a0 a1 a2 a3 a4 * V5 b0 b1 b2 b3 b4) % pInt) ∧ Below w.heap.size w w' := by
  have HA := hide ha
  have HB := hide hb
  obtain ⟨x0, x1, x2, x3, x4⟩ := ha
  obtain ⟨y0, y1, y2, y3, y4⟩ := hb
  go_enter Try.func52, Try.ntmps52
  go_wp2
  go_loopw [14] (fun c wr => ∃ i : Nat, i ≤ 5 ∧ c = .int .i64 i ∧ ∃ h0 l0 h1 l1 h2 l2 h3 l3 h4 l4 : Int, ∃ os d, wr = adds ((((w.alloc (.cells #[.int .u64 a0, .int .u64 a1, .int .u64 a2, .int .u64 a3, .int .u64 a4] 42)).alloc (.cells #[.int .u64 b0, .int .u64 b1, .int .u64 b2, .int .u64 b3, .int .u64 b4] 42)).alloc (.cells #[.int .u64 0, .int .u64 0, .int .u64 0, .int .u64 0, .int .u64 0] 42)).alloc (.cells #[.int .u64 h0, .int .u64 l0, .int .u64 h1, .int .u64 l1, .int .u64 h2, .int .u64 l2, .int .u64 h3, .int .u64 l3, .int .u64 h4, .int .u64 l4] 75)) os d ∧ Acc a0 a1 a2 a3 a4 b0 b1 b2 b3 b4 (5 * i) h0 l0 h1 l1 h2 l2 h3 l3 h4 l4) (fun c _ => 5 - (intOf c).toNat)
  case atStart => exact ⟨0, by omega, rfl, 0, 0, 0, 0, 0, 0, 0, 0, 0, 0, #[], _, (adds_none _).symm, acc_zero a0 a1 a2 a3 a4 b0 b1 b2 b3 b4⟩
  case round =>
    obtain ⟨i, hi, rfl, h0, l0, h1, l1, h2, l2, h3, l3, h4, l4, os, d, rfl, hacc⟩ := hrel
    have HC := hide hacc
    clear hacc
    rcases i with _ | _ | _ | _ | _ | _ | i
    · go_wp2
      go_loopw [17] (fun c wr => ∃ j : Nat, j ≤ 5 ∧ c = .int .i64 j ∧ ∃ h0 l0 h1 l1 h2 l2 h3 l3 h4 l4 : Int, ∃ os d, wr = adds ((((w.alloc (.cells #[.int .u64 a0, .int .u64 a1, .int .u64 a2, .int .u64 a3, .int .u64 a4] 42)).alloc (.cells #[.int .u64 b0, .int .u64 b1, .int .u64 b2, .int .u64 b3, .int .u64 b4] 42)).alloc (.cells #[.int .u64 0, .int .u64 0, .int .u64 0, .int .u64 0, .int .u64 0] 42)).alloc (.cells #[.int .u64 h0, .int .u64 l0, .int .u64 h1, .int .u64 l1, .int .u64 h2, .int .u64 l2, .int .u64 h3, .int .u64 l3, .int .u64 h4, .int .u64 l4] 75)) os d ∧ Acc a0 a1 a2 a3 a4 b0 b1 b2 b3 b4 (0 + j) h0 l0 h1 l1 h2 l2 h3 l3 h4 l4) (fun c _ => 5 - (intOf c).toNat)
      case atStart => exact ⟨0, by omega, rfl, h0, l0, h1, l1, h2, l2, h3, l3, h4, l4, os, d, rfl, unhide HC⟩
      case round =>
        clear HC
        obtain ⟨j, hj, rfl, h0, l0, h1, l1, h2, l2, h3, l3, h4, l4, os, d, rfl, hacc⟩ := hrel
        have HC := hide hacc
        clear hacc
        rcases j with _ | _ | _ | _ | _ | _ | j
        · obtain ⟨rh, rl, rr⟩ := room_0 (unhide HA) (unhide HB) (unhide HC)
          go_wp2
          go_region
          go_wp2
          go_region_with (go_at_call 62; refine (plusProduct_any h0 l0 (a0) b0 rh rl (by omega) (by omega) rr _).mono ?_; rintro e w1 ⟨⟨h', l', rfl, k1, k2, k3⟩, hbb⟩; obtain ⟨os', d', rfl⟩ := to_adds hbb; clear hbb; have KE := hide (acc_0 (unhide HC) k1 k2 k3); clear k3)
          all_goals
            go_wp2
            go_roundw
            case rel => first | exact ⟨1, by omega, by go_num, _, _, _, _, _, _, _, _, _, _, _, _, rfl, unhide KE⟩ | ((repeat apply Exists.intro); exact ⟨⟨1, by omega, by go_num, _, _, _, _, _, _, _, _, _, _, _, _, rfl, unhide KE⟩, rfl⟩)
            case measure => simp [intOf]
        · obtain ⟨rh, rl, rr⟩ := room_1 (unhide HA) (unhide HB) (unhide HC)
          go_wp2
          go_region
          go_wp2
          go_region_with (go_at_call 62; refine (plusProduct_any h1 l1 (a0) b1 rh rl (by omega) (by omega) rr _).mono ?_; rintro e w1 ⟨⟨h', l', rfl, k1, k2, k3⟩, hbb⟩; obtain ⟨os', d', rfl⟩ := to_adds hbb; clear hbb; have KE := hide (acc_1 (unhide HC) k1 k2 k3); clear k3)
          all_goals
            go_wp2
            go_roundw
            case rel => first | exact ⟨2, by omega, by go_num, _, _, _, _, _, _, _, _, _, _, _, _, rfl, unhide KE⟩ | ((repeat apply Exists.intro); exact ⟨⟨2, by omega, by go_num, _, _, _, _, _, _, _, _, _, _, _, _, rfl, unhide KE⟩, rfl⟩)
            case measure => simp [intOf]
        · obtain ⟨rh, rl, rr⟩ := room_2 (unhide HA) (unhide HB) (unhide HC)
          go_wp2
          go_region
          go_wp2
          go_region_with (go_at_call 62; refine (plusProduct_any h2 l2 (a0) b2 rh rl (by omega) (by omega) rr _).mono ?_; rintro e w1 ⟨⟨h', l', rfl, k1, k2, k3⟩, hbb⟩; obtain ⟨os', d', rfl⟩ := to_adds hbb; clear hbb; have KE := hide (acc_2 (unhide HC) k1 k2 k3); clear k3)
          all_goals
            go_wp2
            go_roundw
            case rel => first | exact ⟨3, by omega, by go_num, _, _, _, _, _, _, _, _, _, _, _, _, rfl, unhide KE⟩ | ((repeat apply Exists.intro); exact ⟨⟨3, by omega, by go_num, _, _, _, _, _, _, _, _, _, _, _, _, rfl, unhide KE⟩, rfl⟩)
            case measure => simp [intOf]
        · obtain ⟨rh, rl, rr⟩ := room_3 (unhide HA) (unhide HB) (unhide HC)
          go_wp2
          go_region
          go_wp2
          go_region_with (go_at_call 62; refine (plusProduct_any h3 l3 (a0) b3 rh rl (by omega) (by omega) rr _).mono ?_; rintro e w1 ⟨⟨h', l', rfl, k1, k2, k3⟩, hbb⟩; obtain ⟨os', d', rfl⟩ := to_adds hbb; clear hbb; have KE := hide (acc_3 (unhide HC) k1 k2 k3); clear k3)
          all_goals
            go_wp2
            go_roundw
            case rel => first | exact ⟨4, by omega, by go_num, _, _, _, _, _, _, _, _, _, _, _, _, rfl, unhide KE⟩ | ((repeat apply Exists.intro); exact ⟨⟨4, by omega, by go_num, _, _, _, _, _, _, _, _, _, _, _, _, rfl, unhide KE⟩, rfl⟩)
            case measure => simp [intOf]
        · obtain ⟨rh, rl, rr⟩ := room_4 (unhide HA) (unhide HB) (unhide HC)
          go_wp2
          go_region
          go_wp2
          go_region_with (go_at_call 62; refine (plusProduct_any h4 l4 (a0) b4 rh rl (by omega) (by omega) rr _).mono ?_; rintro e w1 ⟨⟨h', l', rfl, k1, k2, k3⟩, hbb⟩; obtain ⟨os', d', rfl⟩ := to_adds hbb; clear hbb; have KE := hide (acc_4 (unhide HC) k1 k2 k3); clear k3)
          all_goals
            go_wp2
            go_roundw
            case rel => first | exact ⟨5, by omega, by go_num, _, _, _, _, _, _, _, _, _, _, _, _, rfl, unhide KE⟩ | ((repeat apply Exists.intro); exact ⟨⟨5, by omega, by go_num, _, _, _, _, _, _, _, _, _, _, _, _, rfl, unhide KE⟩, rfl⟩)
            case measure => simp [intOf]
        · go_wp2
          go_roundw
          case rel => first | exact ⟨1, by omega, by go_num, _, _, _, _, _, _, _, _, _, _, _, _, rfl, unhide HC⟩ | ((repeat apply Exists.intro); exact ⟨⟨1, by omega, by go_num, _, _, _, _, _, _, _, _, _, _, _, _, rfl, unhide HC⟩, rfl⟩)
          case measure => simp [intOf]
        · exfalso; omega
    · go_wp2
      go_loopw [17] (fun c wr => ∃ j : Nat, j ≤ 5 ∧ c = .int .i64 j ∧ ∃ h0 l0 h1 l1 h2 l2 h3 l3 h4 l4 : Int, ∃ os d, wr = adds ((((w.alloc (.cells #[.int .u64 a0, .int .u64 a1, .int .u64 a2, .int .u64 a3, .int .u64 a4] 42)).alloc (.cells #[.int .u64 b0, .int .u64 b1, .int .u64 b2, .int .u64 b3, .int .u64 b4] 42)).alloc (.cells #[.int .u64 0, .int .u64 0, .int .u64 0, .int .u64 0, .int .u64 0] 42)).alloc (.cells #[.int .u64 h0, .int .u64 l0, .int .u64 h1, .int .u64 l1, .int .u64 h2, .int .u64 l2, .int .u64 h3, .int .u64 l3, .int .u64 h4, .int .u64 l4] 75)) os d ∧ Acc a0 a1 a2 a3 a4 b0 b1 b2 b3 b4 (5 + j) h0 l0 h1 l1 h2 l2 h3 l3 h4 l4) (fun c _ => 5 - (intOf c).toNat)
      case atStart => exact ⟨0, by omega, rfl, h0, l0, h1, l1, h2, l2, h3, l3, h4, l4, os, d, rfl, unhide HC⟩
      case round =>
        clear HC
        obtain ⟨j, hj, rfl, h0, l0, h1, l1, h2, l2, h3, l3, h4, l4, os, d, rfl, hacc⟩ := hrel
        have HC := hide hacc
        clear hacc
        rcases j with _ | _ | _ | _ | _ | _ | j
        · obtain ⟨rh, rl, rr⟩ := room_5 (unhide HA) (unhide HB) (unhide HC)
          go_wp2
          go_region
          go_wp2
          go_region_with (go_at_call 62; refine (plusProduct_any h1 l1 (a1) b0 rh rl (by omega) (by omega) rr _).mono ?_; rintro e w1 ⟨⟨h', l', rfl, k1, k2, k3⟩, hbb⟩; obtain ⟨os', d', rfl⟩ := to_adds hbb; clear hbb; have KE := hide (acc_5 (unhide HC) k1 k2 k3); clear k3)
          all_goals
            go_wp2
            go_roundw
            case rel => first | exact ⟨1, by omega, by go_num, _, _, _, _, _, _, _, _, _, _, _, _, rfl, unhide KE⟩ | ((repeat apply Exists.intro); exact ⟨⟨1, by omega, by go_num, _, _, _, _, _, _, _, _, _, _, _, _, rfl, unhide KE⟩, rfl⟩)
            case measure => simp [intOf]
        · obtain ⟨rh, rl, rr⟩ := room_6 (unhide HA) (unhide HB) (unhide HC)
          go_wp2
          go_region
          go_wp2
          go_region_with (go_at_call 62; refine (plusProduct_any h2 l2 (a1) b1 rh rl (by omega) (by omega) rr _).mono ?_; rintro e w1 ⟨⟨h', l', rfl, k1, k2, k3⟩, hbb⟩; obtain ⟨os', d', rfl⟩ := to_adds hbb; clear hbb; have KE := hide (acc_6 (unhide HC) k1 k2 k3); clear k3)
          all_goals
            go_wp2
            go_roundw
            case rel => first | exact ⟨2, by omega, by go_num, _, _, _, _, _, _, _, _, _, _, _, _, rfl, unhide KE⟩ | ((repeat apply Exists.intro); exact ⟨⟨2, by omega, by go_num, _, _, _, _, _, _, _, _, _, _, _, _, rfl, unhide KE⟩, rfl⟩)
            case measure => simp [intOf]
        · obtain ⟨rh, rl, rr⟩ := room_7 (unhide HA) (unhide HB) (unhide HC)
          go_wp2
          go_region
          go_wp2
          go_region_with (go_at_call 62; refine (plusProduct_any h3 l3 (a1) b2 rh rl (by omega) (by omega) rr _).mono ?_; rintro e w1 ⟨⟨h', l', rfl, k1, k2, k3⟩, hbb⟩; obtain ⟨os', d', rfl⟩ := to_adds hbb; clear hbb; have KE := hide (acc_7 (unhide HC) k1 k2 k3); clear k3)
          all_goals
            go_wp2
            go_roundw
            case rel => first | exact ⟨3, by omega, by go_num, _, _, _, _, _, _, _, _, _, _, _, _, rfl, unhide KE⟩ | ((repeat apply Exists.intro); exact ⟨⟨3, by omega, by go_num, _, _, _, _, _, _, _, _, _, _, _, _, rfl, unhide KE⟩, rfl⟩)
            case measure => simp [intOf]
        · obtain ⟨rh, rl, rr⟩ := room_8 (unhide HA) (unhide HB) (unhide HC)
          go_wp2
          go_region
          go_wp2
          go_region_with (go_at_call 62; refine (plusProduct_any h4 l4 (a1) b3 rh rl (by omega) (by omega) rr _).mono ?_; rintro e w1 ⟨⟨h', l', rfl, k1, k2, k3⟩, hbb⟩; obtain ⟨os', d', rfl⟩ := to_adds hbb; clear hbb; have KE := hide (acc_8 (unhide HC) k1 k2 k3); clear k3)
          all_goals
            go_wp2
            go_roundw
            case rel => first | exact ⟨4, by omega, by go_num, _, _, _, _, _, _, _, _, _, _, _, _, rfl, unhide KE⟩ | ((repeat apply Exists.intro); exact ⟨⟨4, by omega, by go_num, _, _, _, _, _, _, _, _, _, _, _, _, rfl, unhide KE⟩, rfl⟩)
            case measure => simp [intOf]
        · obtain ⟨rh, rl, rr⟩ := room_9 (unhide HA) (unhide HB) (unhide HC)
          go_wp2
          go_region
          go_wp2
          go_region_with (go_at_call 62; refine (plusProduct_any h0 l0 (a1 * 19) b4 rh rl (by omega) (by omega) rr _).mono ?_; rintro e w1 ⟨⟨h', l', rfl, k1, k2, k3⟩, hbb⟩; obtain ⟨os', d', rfl⟩ := to_adds hbb; clear hbb; have KE := hide (acc_9 (unhide HC) k1 k2 k3); clear k3)
          all_goals
            go_wp2
            go_roundw
            case rel => first | exact ⟨5, by omega, by go_num, _, _, _, _, _, _, _, _, _, _, _, _, rfl, unhide KE⟩ | ((repeat apply Exists.intro); exact ⟨⟨5, by omega, by go_num, _, _, _, _, _, _, _, _, _, _, _, _, rfl, unhide KE⟩, rfl⟩)
            case measure => simp [intOf]
        · go_wp2
          go_roundw
          case rel => first | exact ⟨2, by omega, by go_num, _, _, _, _, _, _, _, _, _, _, _, _, rfl, unhide HC⟩ | ((repeat apply Exists.intro); exact ⟨⟨2, by omega, by go_num, _, _, _, _, _, _, _, _, _, _, _, _, rfl, unhide HC⟩, rfl⟩)
          case measure => simp [intOf]
        · exfalso; omega
    · go_wp2
      go_loopw [17] (fun c wr => ∃ j : Nat, j ≤ 5 ∧ c = .int .i64 j ∧ ∃ h0 l0 h1 l1 h2 l2 h3 l3 h4 l4 : Int, ∃ os d, wr = adds ((((w.alloc (.cells #[.int .u64 a0, .int .u64 a1, .int .u64 a2, .int .u64 a3, .int .u64 a4] 42)).alloc (.cells #[.int .u64 b0, .int .u64 b1, .int .u64 b2, .int .u64 b3, .int .u64 b4] 42)).alloc (.cells #[.int .u64 0, .int .u64 0, .int .u64 0, .int .u64 0, .int .u64 0] 42)).alloc (.cells #[.int .u64 h0, .int .u64 l0, .int .u64 h1, .int .u64 l1, .int .u64 h2, .int .u64 l2, .int .u64 h3, .int .u64 l3, .int .u64 h4, .int .u64 l4] 75)) os d ∧ Acc a0 a1 a2 a3 a4 b0 b1 b2 b3 b4 (10 + j) h0 l0 h1 l1 h2 l2 h3 l3 h4 l4) (fun c _ => 5 - (intOf c).toNat)
      case atStart => exact ⟨0, by omega, rfl, h0, l0, h1, l1, h2, l2, h3, l3, h4, l4, os, d, rfl, unhide HC⟩
      case round =>
        clear HC
        obtain ⟨j, hj, rfl, h0, l0, h1, l1, h2, l2, h3, l3, h4, l4, os, d, rfl, hacc⟩ := hrel
        have HC := hide hacc
        clear hacc
        rcases j with _ | _ | _ | _ | _ | _ | j
        · obtain ⟨rh, rl, rr⟩ := room_10 (unhide HA) (unhide HB) (unhide HC)
          go_wp2
          go_region
          go_wp2
          go_region_with (go_at_call 62; refine (plusProduct_any h2 l2 (a2) b0 rh rl (by omega) (by omega) rr _).mono ?_; rintro e w1 ⟨⟨h', l', rfl, k1, k2, k3⟩, hbb⟩; obtain ⟨os', d', rfl⟩ := to_adds hbb; clear hbb; have KE := hide (acc_10 (unhide HC) k1 k2 k3); clear k3)
          all_goals
            go_wp2
            go_roundw
            case rel => first | exact ⟨1, by omega, by go_num, _, _, _, _, _, _, _, _, _, _, _, _, rfl, unhide KE⟩ | ((repeat apply Exists.intro); exact ⟨⟨1, by omega, by go_num, _, _, _, _, _, _, _, _, _, _, _, _, rfl, unhide KE⟩, rfl⟩)
            case measure => simp [intOf]
        · obtain ⟨rh, rl, rr⟩ := room_11 (unhide HA) (unhide HB) (unhide HC)
          go_wp2
          go_region
          go_wp2
          go_region_with (go_at_call 62; refine (plusProduct_any h3 l3 (a2) b1 rh rl (by omega) (by omega) rr _).mono ?_; rintro e w1 ⟨⟨h', l', rfl, k1, k2, k3⟩, hbb⟩; obtain ⟨os', d', rfl⟩ := to_adds hbb; clear hbb; have KE := hide (acc_11 (unhide HC) k1 k2 k3); clear k3)
          all_goals
            go_wp2
            go_roundw
            case rel => first | exact ⟨2, by omega, by go_num, _, _, _, _, _, _, _, _, _, _, _, _, rfl, unhide KE⟩ | ((repeat apply Exists.intro); exact ⟨⟨2, by omega, by go_num, _, _, _, _, _, _, _, _, _, _, _, _, rfl, unhide KE⟩, rfl⟩)
            case measure => simp [intOf]
        · obtain ⟨rh, rl, rr⟩ := room_12 (unhide HA) (unhide HB) (unhide HC)
          go_wp2
          go_region
          go_wp2
          go_region_with (go_at_call 62; refine (plusProduct_any h4 l4 (a2) b2 rh rl (by omega) (by omega) rr _).mono ?_; rintro e w1 ⟨⟨h', l', rfl, k1, k2, k3⟩, hbb⟩; obtain ⟨os', d', rfl⟩ := to_adds hbb; clear hbb; have KE := hide (acc_12 (unhide HC) k1 k2 k3); clear k3)
          all_goals
            go_wp2
            go_roundw
            case rel => first | exact ⟨3, by omega, by go_num, _, _, _, _, _, _, _, _, _, _, _, _, rfl, unhide KE⟩ | ((repeat apply Exists.intro); exact ⟨⟨3, by omega, by go_num, _, _, _, _, _, _, _, _, _, _, _, _, rfl, unhide KE⟩, rfl⟩)
            case measure => simp [intOf]
        · obtain ⟨rh, rl, rr⟩ := room_13 (unhide HA) (unhide HB) (unhide HC)
          go_wp2
          go_region
          go_wp2
          go_region_with (go_at_call 62; refine (plusProduct_any h0 l0 (a2 * 19) b3 rh rl (by omega) (by omega) rr _).mono ?_; rintro e w1 ⟨⟨h', l', rfl, k1, k2, k3⟩, hbb⟩; obtain ⟨os', d', rfl⟩ := to_adds hbb; clear hbb; have KE := hide (acc_13 (unhide HC) k1 k2 k3); clear k3)
          all_goals
            go_wp2
            go_roundw
            case rel => first | exact ⟨4, by omega, by go_num, _, _, _, _, _, _, _, _, _, _, _, _, rfl, unhide KE⟩ | ((repeat apply Exists.intro); exact ⟨⟨4, by omega, by go_num, _, _, _, _, _, _, _, _, _, _, _, _, rfl, unhide KE⟩, rfl⟩)
            case measure => simp [intOf]
        · obtain ⟨rh, rl, rr⟩ := room_14 (unhide HA) (unhide HB) (unhide HC)
          go_wp2
          go_region
          go_wp2
          go_region_with (go_at_call 62; refine (plusProduct_any h1 l1 (a2 * 19) b4 rh rl (by omega) (by omega) rr _).mono ?_; rintro e w1 ⟨⟨h', l', rfl, k1, k2, k3⟩, hbb⟩; obtain ⟨os', d', rfl⟩ := to_adds hbb; clear hbb; have KE := hide (acc_14 (unhide HC) k1 k2 k3); clear k3)
          all_goals
            go_wp2
            go_roundw
            case rel => first | exact ⟨5, by omega, by go_num, _, _, _, _, _, _, _, _, _, _, _, _, rfl, unhide KE⟩ | ((repeat apply Exists.intro); exact ⟨⟨5, by omega, by go_num, _, _, _, _, _, _, _, _, _, _, _, _, rfl, unhide KE⟩, rfl⟩)
            case measure => simp [intOf]
        · go_wp2
          go_roundw
          case rel => first | exact ⟨3, by omega, by go_num, _, _, _, _, _, _, _, _, _, _, _, _, rfl, unhide HC⟩ | ((repeat apply Exists.intro); exact ⟨⟨3, by omega, by go_num, _, _, _, _, _, _, _, _, _, _, _, _, rfl, unhide HC⟩, rfl⟩)
          case measure => simp [intOf]
        · exfalso; omega
    · go_wp2
      go_loopw [17] (fun c wr => ∃ j : Nat, j ≤ 5 ∧ c = .int .i64 j ∧ ∃ h0 l0 h1 l1 h2 l2 h3 l3 h4 l4 : Int, ∃ os d, wr = adds ((((w.alloc (.cells #[.int .u64 a0, .int .u64 a1, .int .u64 a2, .int .u64 a3, .int .u64 a4] 42)).alloc (.cells #[.int .u64 b0, .int .u64 b1, .int .u64 b2, .int .u64 b3, .int .u64 b4] 42)).alloc (.cells #[.int .u64 0, .int .u64 0, .int .u64 0, .int .u64 0, .int .u64 0] 42)).alloc (.cells #[.int .u64 h0, .int .u64 l0, .int .u64 h1, .int .u64 l1, .int .u64 h2, .int .u64 l2, .int .u64 h3, .int .u64 l3, .int .u64 h4, .int .u64 l4] 75)) os d ∧ Acc a0 a1 a2 a3 a4 b0 b1 b2 b3 b4 (15 + j) h0 l0 h1 l1 h2 l2 h3 l3 h4 l4) (fun c _ => 5 - (intOf c).toNat)
      case atStart => exact ⟨0, by omega, rfl, h0, l0, h1, l1, h2, l2, h3, l3, h4, l4, os, d, rfl, unhide HC⟩
      case round =>
        clear HC
        obtain ⟨j, hj, rfl, h0, l0, h1, l1, h2, l2, h3, l3, h4, l4, os, d, rfl, hacc⟩ := hrel
        have HC := hide hacc
        clear hacc
        rcases j with _ | _ | _ | _ | _ | _ | j
        · obtain ⟨rh, rl, rr⟩ := room_15 (unhide HA) (unhide HB) (unhide HC)
          go_wp2
          go_region
          go_wp2
          go_region_with (go_at_call 62; refine (plusProduct_any h3 l3 (a3) b0 rh rl (by omega) (by omega) rr _).mono ?_; rintro e w1 ⟨⟨h', l', rfl, k1, k2, k3⟩, hbb⟩; obtain ⟨os', d', rfl⟩ := to_adds hbb; clear hbb; have KE := hide (acc_15 (unhide HC) k1 k2 k3); clear k3)
          all_goals
            go_wp2
            go_roundw
            case rel => first | exact ⟨1, by omega, by go_num, _, _, _, _, _, _, _, _, _, _, _, _, rfl, unhide KE⟩ | ((repeat apply Exists.intro); exact ⟨⟨1, by omega, by go_num, _, _, _, _, _, _, _, _, _, _, _, _, rfl, unhide KE⟩, rfl⟩)
            case measure => simp [intOf]
        · obtain ⟨rh, rl, rr⟩ := room_16 (unhide HA) (unhide HB) (unhide HC)
          go_wp2
          go_region
          go_wp2
          go_region_with (go_at_call 62; refine (plusProduct_any h4 l4 (a3) b1 rh rl (by omega) (by omega) rr _).mono ?_; rintro e w1 ⟨⟨h', l', rfl, k1, k2, k3⟩, hbb⟩; obtain ⟨os', d', rfl⟩ := to_adds hbb; clear hbb; have KE := hide (acc_16 (unhide HC) k1 k2 k3); clear k3)
          all_goals
            go_wp2
            go_roundw
            case rel => first | exact ⟨2, by omega, by go_num, _, _, _, _, _, _, _, _, _, _, _, _, rfl, unhide KE⟩ | ((repeat apply Exists.intro); exact ⟨⟨2, by omega, by go_num, _, _, _, _, _, _, _, _, _, _, _, _, rfl, unhide KE⟩, rfl⟩)
            case measure => simp [intOf]
        · obtain ⟨rh, rl, rr⟩ := room_17 (unhide HA) (unhide HB) (unhide HC)
          go_wp2
          go_region
          go_wp2
          go_region_with (go_at_call 62; refine (plusProduct_any h0 l0 (a3 * 19) b2 rh rl (by omega) (by omega) rr _).mono ?_; rintro e w1 ⟨⟨h', l', rfl, k1, k2, k3⟩, hbb⟩; obtain ⟨os', d', rfl⟩ := to_adds hbb; clear hbb; have KE := hide (acc_17 (unhide HC) k1 k2 k3); clear k3)
          all_goals
            go_wp2
            go_roundw
            case rel => first | exact ⟨3, by omega, by go_num, _, _, _, _, _, _, _, _, _, _, _, _, rfl, unhide KE⟩ | ((repeat apply Exists.intro); exact ⟨⟨3, by omega, by go_num, _, _, _, _, _, _, _, _, _, _, _, _, rfl, unhide KE⟩, rfl⟩)
            case measure => simp [intOf]
        · obtain ⟨rh, rl, rr⟩ := room_18 (unhide HA) (unhide HB) (unhide HC)
          go_wp2
          go_region
          go_wp2
          go_region_with (go_at_call 62; refine (plusProduct_any h1 l1 (a3 * 19) b3 rh rl (by omega) (by omega) rr _).mono ?_; rintro e w1 ⟨⟨h', l', rfl, k1, k2, k3⟩, hbb⟩; obtain ⟨os', d', rfl⟩ := to_adds hbb; clear hbb; have KE := hide (acc_18 (unhide HC) k1 k2 k3); clear k3)
          all_goals
            go_wp2
            go_roundw
            case rel => first | exact ⟨4, by omega, by go_num, _, _, _, _, _, _, _, _, _, _, _, _, rfl, unhide KE⟩ | ((repeat apply Exists.intro); exact ⟨⟨4, by omega, by go_num, _, _, _, _, _, _, _, _, _, _, _, _, rfl, unhide KE⟩, rfl⟩)
            case measure => simp [intOf]
        · obtain ⟨rh, rl, rr⟩ := room_19 (unhide HA) (unhide HB) (unhide HC)
          go_wp2
          go_region
          go_wp2
          go_region_with (go_at_call 62; refine (plusProduct_any h2 l2 (a3 * 19) b4 rh rl (by omega) (by omega) rr _).mono ?_; rintro e w1 ⟨⟨h', l', rfl, k1, k2, k3⟩, hbb⟩; obtain ⟨os', d', rfl⟩ := to_adds hbb; clear hbb; have KE := hide (acc_19 (unhide HC) k1 k2 k3); clear k3)
          all_goals
            go_wp2
            go_roundw
            case rel => first | exact ⟨5, by omega, by go_num, _, _, _, _, _, _, _, _, _, _, _, _, rfl, unhide KE⟩ | ((repeat apply Exists.intro); exact ⟨⟨5, by omega, by go_num, _, _, _, _, _, _, _, _, _, _, _, _, rfl, unhide KE⟩, rfl⟩)
            case measure => simp [intOf]
        · go_wp2
          go_roundw
          case rel => first | exact ⟨4, by omega, by go_num, _, _, _, _, _, _, _, _, _, _, _, _, rfl, unhide HC⟩ | ((repeat apply Exists.intro); exact ⟨⟨4, by omega, by go_num, _, _, _, _, _, _, _, _, _, _, _, _, rfl, unhide HC⟩, rfl⟩)
          case measure => simp [intOf]
        · exfalso; omega
    · go_wp2
      go_loopw [17] (fun c wr => ∃ j : Nat, j ≤ 5 ∧ c = .int .i64 j ∧ ∃ h0 l0 h1 l1 h2 l2 h3 l3 h4 l4 : Int, ∃ os d, wr = adds ((((w.alloc (.cells #[.int .u64 a0, .int .u64 a1, .int .u64 a2, .int .u64 a3, .int .u64 a4] 42)).alloc (.cells #[.int .u64 b0, .int .u64 b1, .int .u64 b2, .int .u64 b3, .int .u64 b4] 42)).alloc (.cells #[.int .u64 0, .int .u64 0, .int .u64 0, .int .u64 0, .int .u64 0] 42)).alloc (.cells #[.int .u64 h0, .int .u64 l0, .int .u64 h1, .int .u64 l1, .int .u64 h2, .int .u64 l2, .int .u64 h3, .int .u64 l3, .int .u64 h4, .int .u64 l4] 75)) os d ∧ Acc a0 a1 a2 a3 a4 b0 b1 b2 b3 b4 (20 + j) h0 l0 h1 l1 h2 l2 h3 l3 h4 l4) (fun c _ => 5 - (intOf c).toNat)
      case atStart => exact ⟨0, by omega, rfl, h0, l0, h1, l1, h2, l2, h3, l3, h4, l4, os, d, rfl, unhide HC⟩
      case round =>
        clear HC
        obtain ⟨j, hj, rfl, h0, l0, h1, l1, h2, l2, h3, l3, h4, l4, os, d, rfl, hacc⟩ := hrel
        have HC := hide hacc
        clear hacc
        rcases j with _ | _ | _ | _ | _ | _ | j
        · obtain ⟨rh, rl, rr⟩ := room_20 (unhide HA) (unhide HB) (unhide HC)
          go_wp2
          go_region
          go_wp2
          go_region_with (go_at_call 62; refine (plusProduct_any h4 l4 (a4) b0 rh rl (by omega) (by omega) rr _).mono ?_; rintro e w1 ⟨⟨h', l', rfl, k1, k2, k3⟩, hbb⟩; obtain ⟨os', d', rfl⟩ := to_adds hbb; clear hbb; have KE := hide (acc_20 (unhide HC) k1 k2 k3); clear k3)
          all_goals
            go_wp2
            go_roundw
            case rel => first | exact ⟨1, by omega, by go_num, _, _, _, _, _, _, _, _, _, _, _, _, rfl, unhide KE⟩ | ((repeat apply Exists.intro); exact ⟨⟨1, by omega, by go_num, _, _, _, _, _, _, _, _, _, _, _, _, rfl, unhide KE⟩, rfl⟩)
            case measure => simp [intOf]
        · obtain ⟨rh, rl, rr⟩ := room_21 (unhide HA) (unhide HB) (unhide HC)
          go_wp2
          go_region
          go_wp2
          go_region_with (go_at_call 62; refine (plusProduct_any h0 l0 (a4 * 19) b1 rh rl (by omega) (by omega) rr _).mono ?_; rintro e w1 ⟨⟨h', l', rfl, k1, k2, k3⟩, hbb⟩; obtain ⟨os', d', rfl⟩ := to_adds hbb; clear hbb; have KE := hide (acc_21 (unhide HC) k1 k2 k3); clear k3)
          all_goals
            go_wp2
            go_roundw
            case rel => first | exact ⟨2, by omega, by go_num, _, _, _, _, _, _, _, _, _, _, _, _, rfl, unhide KE⟩ | ((repeat apply Exists.intro); exact ⟨⟨2, by omega, by go_num, _, _, _, _, _, _, _, _, _, _, _, _, rfl, unhide KE⟩, rfl⟩)
            case measure => simp [intOf]
        · obtain ⟨rh, rl, rr⟩ := room_22 (unhide HA) (unhide HB) (unhide HC)
          go_wp2
          go_region
          go_wp2
          go_region_with (go_at_call 62; refine (plusProduct_any h1 l1 (a4 * 19) b2 rh rl (by omega) (by omega) rr _).mono ?_; rintro e w1 ⟨⟨h', l', rfl, k1, k2, k3⟩, hbb⟩; obtain ⟨os', d', rfl⟩ := to_adds hbb; clear hbb; have KE := hide (acc_22 (unhide HC) k1 k2 k3); clear k3)
          all_goals
            go_wp2
            go_roundw
            case rel => first | exact ⟨3, by omega, by go_num, _, _, _, _, _, _, _, _, _, _, _, _, rfl, unhide KE⟩ | ((repeat apply Exists.intro); exact ⟨⟨3, by omega, by go_num, _, _, _, _, _, _, _, _, _, _, _, _, rfl, unhide KE⟩, rfl⟩)
            case measure => simp [intOf]
        · obtain ⟨rh, rl, rr⟩ := room_23 (unhide HA) (unhide HB) (unhide HC)
          go_wp2
          go_region
          go_wp2
          go_region_with (go_at_call 62; refine (plusProduct_any h2 l2 (a4 * 19) b3 rh rl (by omega) (by omega) rr _).mono ?_; rintro e w1 ⟨⟨h', l', rfl, k1, k2, k3⟩, hbb⟩; obtain ⟨os', d', rfl⟩ := to_adds hbb; clear hbb; have KE := hide (acc_23 (unhide HC) k1 k2 k3); clear k3)
          all_goals
            go_wp2
            go_roundw
            case rel => first | exact ⟨4, by omega, by go_num, _, _, _, _, _, _, _, _, _, _, _, _, rfl, unhide KE⟩ | ((repeat apply Exists.intro); exact ⟨⟨4, by omega, by go_num, _, _, _, _, _, _, _, _, _, _, _, _, rfl, unhide KE⟩, rfl⟩)
            case measure => simp [intOf]
        · obtain ⟨rh, rl, rr⟩ := room_24 (unhide HA) (unhide HB) (unhide HC)
          go_wp2
          go_region
          go_wp2
          go_region_with (go_at_call 62; refine (plusProduct_any h3 l3 (a4 * 19) b4 rh rl (by omega) (by omega) rr _).mono ?_; rintro e w1 ⟨⟨h', l', rfl, k1, k2, k3⟩, hbb⟩; obtain ⟨os', d', rfl⟩ := to_adds hbb; clear hbb; have KE := hide (acc_24 (unhide HC) k1 k2 k3); clear k3)
          all_goals
            go_wp2
            go_roundw
            case rel => first | exact ⟨5, by omega, by go_num, _, _, _, _, _, _, _, _, _, _, _, _, rfl, unhide KE⟩ | ((repeat apply Exists.intro); exact ⟨⟨5, by omega, by go_num, _, _, _, _, _, _, _, _, _, _, _, _, rfl, unhide KE⟩, rfl⟩)
            case measure => simp [intOf]
        · go_wp2
          go_roundw
          case rel => first | exact ⟨5, by omega, by go_num, _, _, _, _, _, _, _, _, _, _, _, _, rfl, unhide HC⟩ | ((repeat apply Exists.intro); exact ⟨⟨5, by omega, by go_num, _, _, _, _, _, _, _, _, _, _, _, _, rfl, unhide HC⟩, rfl⟩)
          case measure => simp [intOf]
        · exfalso; omega
    · obtain ⟨⟨p0, q0, e0⟩, ⟨p1, q1, e1⟩, ⟨p2, q2, e2⟩, ⟨p3, q3, e3⟩, ⟨p4, q4, e4⟩⟩ := unhide HC
      have B0 := col_bd (unhide HA) (unhide HB) 0 25
      have B1 := col_bd (unhide HA) (unhide HB) 1 25
      have B2 := col_bd (unhide HA) (unhide HB) 2 25
      have B3 := col_bd (unhide HA) (unhide HB) 3 25
      have B4 := col_bd (unhide HA) (unhide HB) 4 25
      have B5 := col4_bd (unhide HA) (unhide HB)
      have E0 := hide (show 18446744073709551616 * h0 + l0 = col a0 a1 a2 a3 a4 b0 b1 b2 b3 b4 0 25 from e0)
      have M0 : 18446744073709551616 * h0 + l0 ≤ 4056481920730334084789450257203200 := by have := unhide E0; omega
      have E1 := hide (show 18446744073709551616 * h1 + l1 = col a0 a1 a2 a3 a4 b0 b1 b2 b3 b4 1 25 from e1)
      have M1 : 18446744073709551616 * h1 + l1 ≤ 4056481920730334084789450257203200 := by have := unhide E1; omega
      have E2 := hide (show 18446744073709551616 * h2 + l2 = col a0 a1 a2 a3 a4 b0 b1 b2 b3 b4 2 25 from e2)
      have M2 : 18446744073709551616 * h2 + l2 ≤ 4056481920730334084789450257203200 := by have := unhide E2; omega
      have E3 := hide (show 18446744073709551616 * h3 + l3 = col a0 a1 a2 a3 a4 b0 b1 b2 b3 b4 3 25 from e3)
      have M3 : 18446744073709551616 * h3 + l3 ≤ 4056481920730334084789450257203200 := by have := unhide E3; omega
      have E4 := hide (show 18446744073709551616 * h4 + l4 = col a0 a1 a2 a3 a4 b0 b1 b2 b3 b4 4 25 from e4)
      have M4 : 18446744073709551616 * h4 + l4 ≤ 4056481920730334084789450257203200 := by have := unhide E4; omega
      have M5 : 18446744073709551616 * h4 + l4 ≤ 25353012004570352637457098342400 := by have := unhide E4; omega
      clear e0 B0 e1 B1 e2 B2 e3 B3 e4 B4 B5
      have i0 : ∀ wx, (Instr.index 75 (.agg #[.int .u64 h0, .int .u64 l0, .int .u64 h1, .int .u64 l1, .int .u64 h2, .int .u64 l2, .int .u64 h3, .int .u64 l3, .int .u64 h4, .int .u64 l4]) (.int .i64 0)).run Try.prog wx = .ok (W2 h0 l0) wx := fun _ => by kernel_rfl
      have i1 : ∀ wx, (Instr.index 75 (.agg #[.int .u64 h0, .int .u64 l0, .int .u64 h1, .int .u64 l1, .int .u64 h2, .int .u64 l2, .int .u64 h3, .int .u64 l3, .int .u64 h4, .int .u64 l4]) (.int .i64 1)).run Try.prog wx = .ok (W2 h1 l1) wx := fun _ => by kernel_rfl
      have i2 : ∀ wx, (Instr.index 75 (.agg #[.int .u64 h0, .int .u64 l0, .int .u64 h1, .int .u64 l1, .int .u64 h2, .int .u64 l2, .int .u64 h3, .int .u64 l3, .int .u64 h4, .int .u64 l4]) (.int .i64 2)).run Try.prog wx = .ok (W2 h2 l2) wx := fun _ => by kernel_rfl
      have i3 : ∀ wx, (Instr.index 75 (.agg #[.int .u64 h0, .int .u64 l0, .int .u64 h1, .int .u64 l1, .int .u64 h2, .int .u64 l2, .int .u64 h3, .int .u64 l3, .int .u64 h4, .int .u64 l4]) (.int .i64 3)).run Try.prog wx = .ok (W2 h3 l3) wx := fun _ => by kernel_rfl
      have i4 : ∀ wx, (Instr.index 75 (.agg #[.int .u64 h0, .int .u64 l0, .int .u64 h1, .int .u64 l1, .int .u64 h2, .int .u64 l2, .int .u64 h3, .int .u64 l3, .int .u64 h4, .int .u64 l4]) (.int .i64 4)).run Try.prog wx = .ok (W2 h4 l4) wx := fun _ => by kernel_rfl
      go_wp2
      rw [← adds_none (World.alloc (adds _ _ _) _)]
      refine wp_loop_rounds 6 ?_
      rw [rounds_succ]
      go_wp2_with fail
      refine (plusProduct_any h0 l0 0 1 p0 q0 (by omega) (by omega) (by omega) _).mono ?_
      rintro e w1 ⟨⟨H0, L0, rfl, r0, s0, t0⟩, hbb⟩
      have u0 : H0 < 2251799813685248 := by omega
      have T0 := hide t0
      clear t0
      obtain ⟨os', d', rfl⟩ := to_adds hbb
      clear hbb
      go_wp2
      rw [or_back 13 (H0 * 8192) (L0 / 2251799813685248) (by omega) (by omega) (by omega) (by omega) (by omega) (by omega), mask51 L0 s0.1 s0.2, adds_alloc_adds]
      generalize hc1 : H0 * 8192 + L0 / 2251799813685248 = c1
      have bc1 : 0 ≤ c1 ∧ c1 < 4611686018427387904 := by have := unhide T0; omega
      have C1 := hide hc1
      clear hc1
      rw [rounds_succ]
      go_wp2_with fail
      refine (plusProduct_any h1 l1 c1 1 p1 q1 (by omega) (by omega) (by omega) _).mono ?_
      rintro e w1 ⟨⟨H1, L1, rfl, r1, s1, t1⟩, hbb⟩
      have u1 : H1 < 2251799813685248 := by omega
      have T1 := hide t1
      clear t1
      obtain ⟨os', d', rfl⟩ := to_adds hbb
      clear hbb
      go_wp2
      rw [or_back 13 (H1 * 8192) (L1 / 2251799813685248) (by omega) (by omega) (by omega) (by omega) (by omega) (by omega), mask51 L1 s1.1 s1.2, adds_alloc_adds]
      generalize hc2 : H1 * 8192 + L1 / 2251799813685248 = c2
      have bc2 : 0 ≤ c2 ∧ c2 < 4611686018427387904 := by have := unhide T1; omega
      have C2 := hide hc2
      clear hc2
      rw [rounds_succ]
      go_wp2_with fail
      refine (plusProduct_any h2 l2 c2 1 p2 q2 (by omega) (by omega) (by omega) _).mono ?_
      rintro e w1 ⟨⟨H2, L2, rfl, r2, s2, t2⟩, hbb⟩
      have u2 : H2 < 2251799813685248 := by omega
      have T2 := hide t2
      clear t2
      obtain ⟨os', d', rfl⟩ := to_adds hbb
      clear hbb
      go_wp2
      rw [or_back 13 (H2 * 8192) (L2 / 2251799813685248) (by omega) (by omega) (by omega) (by omega) (by omega) (by omega), mask51 L2 s2.1 s2.2, adds_alloc_adds]
      generalize hc3 : H2 * 8192 + L2 / 2251799813685248 = c3
      have bc3 : 0 ≤ c3 ∧ c3 < 4611686018427387904 := by have := unhide T2; omega
      have C3 := hide hc3
      clear hc3
      rw [rounds_succ]
      go_wp2_with fail
      refine (plusProduct_any h3 l3 c3 1 p3 q3 (by omega) (by omega) (by omega) _).mono ?_
      rintro e w1 ⟨⟨H3, L3, rfl, r3, s3, t3⟩, hbb⟩
      have u3 : H3 < 2251799813685248 := by omega
      have T3 := hide t3
      clear t3
      obtain ⟨os', d', rfl⟩ := to_adds hbb
      clear hbb
      go_wp2
      rw [or_back 13 (H3 * 8192) (L3 / 2251799813685248) (by omega) (by omega) (by omega) (by omega) (by omega) (by omega), mask51 L3 s3.1 s3.2, adds_alloc_adds]
      generalize hc4 : H3 * 8192 + L3 / 2251799813685248 = c4
      have bc4 : 0 ≤ c4 ∧ c4 < 4611686018427387904 := by have := unhide T3; omega
      have C4 := hide hc4
      clear hc4
      rw [rounds_succ]
      go_wp2_with fail
      refine (plusProduct_any h4 l4 c4 1 p4 q4 (by omega) (by omega) (by omega) _).mono ?_
      rintro e w1 ⟨⟨H4, L4, rfl, r4, s4, t4⟩, hbb⟩
      have u4 : H4 < 2251799813685248 := by omega
      have T4 := hide t4
      clear t4
      obtain ⟨os', d', rfl⟩ := to_adds hbb
      clear hbb
      go_wp2
      rw [or_back 13 (H4 * 8192) (L4 / 2251799813685248) (by omega) (by omega) (by omega) (by omega) (by omega) (by omega), mask51 L4 s4.1 s4.2, adds_alloc_adds]
      generalize hc5 : H4 * 8192 + L4 / 2251799813685248 = c5
      have bc5 : 0 ≤ c5 ∧ c5 < 18014398509481984 := by have := unhide T4; omega
      have C5 := hide hc5
      clear hc5
      rw [rounds_succ]
      go_wp2_with fail
      refine (carried_any (L0 % 2251799813685248 + c5 * 19) (L1 % 2251799813685248) (L2 % 2251799813685248) (L3 % 2251799813685248) (L4 % 2251799813685248) _ (by omega) (by omega) (by omega) (by omega) (by omega)).mono ?_
      rintro e w1 ⟨⟨m0, m1, m2, m3, m4, cc, rfl, z0, z1, z2, z3, z4, ⟨zc0, zc⟩, zv⟩, hbb⟩
      have ZC := hide (car_of z0 z1 z2 z3 z4 zc (by unfold V5; omega))
      have ZV := hide (show V5 m0 m1 m2 m3 m4 % pInt = (V5 a0 a1 a2 a3 a4 * V5 b0 b1 b2 b3 b4) % pInt by
        obtain ⟨qq, hq⟩ := cols_value a0 a1 a2 a3 a4 b0 b1 b2 b3 b4
        have hm := carry_math (unhide T0) (unhide T1) (unhide T2) (unhide T3) (unhide T4) (unhide C1) (unhide C2) (unhide C3) (unhide C4) (unhide C5)
        rw [unhide E0, unhide E1, unhide E2, unhide E3, unhide E4] at hm
        have e : V5 a0 a1 a2 a3 a4 * V5 b0 b1 b2 b3 b4 = V5 m0 m1 m2 m3 m4 + pInt * (c5 + cc + qq) := by rw [hq]; rw [hm] at zv; rw [Int.mul_add, Int.mul_add]; omega
        rw [e, Int.add_mul_emod_self_left])
      clear zc zv
      obtain ⟨os', d', rfl⟩ := to_adds hbb
      clear hbb
      rw [adds_adds, adds_alloc_adds]
      go_wp2
      refine bodyPost_ret (v := L5 m0 m1 m2 m3 m4) (by simp [results, Try.results52, go_sem]) rfl ⟨⟨_, _, _, _, _, rfl, unhide ZC, unhide ZV⟩, ?_⟩
      refine below_adds ?_ ?_ _ _ <;> go_grown
    · exfalso; omega
end Go.Proofs.Ytncplefjokbbjaa
