/- The contract of l01Carry: ten limbs below 2 to the 26, of a number that is the same modulo the prime. -/
import Derived.Test.YtncplefjokbbjaaSpecA
import Derived.Test.YtncplefjokbbjaaPlain
namespace Go.Proofs.Ytncplefjokbbjaa
open Go.RowKit
set_option maxHeartbeats 6400000
def V10 (x0 x1 x2 x3 x4 x5 x6 x7 x8 x9 : Int) : Int := x0 + 67108864 * x1 + 4503599627370496 * x2 + 302231454903657293676544 * x3 + 20282409603651670423947251286016 * x4 + 1361129467683753853853498429727072845824 * x5 + 91343852333181432387730302044767688728495783936 * x6 + 6129982163463555433433388108601236734474956488734408704 * x7 + 411376139330301510538742295639337626245683966408394965837152256 * x8 + 27606985387162255149739023449108101809804435888681546220650096895197184 * x9
def In26 (x0 x1 x2 x3 x4 x5 x6 x7 x8 x9 : Int) : Prop := (0 ≤ x0 ∧ x0 < 67108864) ∧ (0 ≤ x1 ∧ x1 < 67108864) ∧ (0 ≤ x2 ∧ x2 < 67108864) ∧ (0 ≤ x3 ∧ x3 < 67108864) ∧ (0 ≤ x4 ∧ x4 < 67108864) ∧ (0 ≤ x5 ∧ x5 < 67108864) ∧ (0 ≤ x6 ∧ x6 < 67108864) ∧ (0 ≤ x7 ∧ x7 < 67108864) ∧ (0 ≤ x8 ∧ x8 < 67108864) ∧ (0 ≤ x9 ∧ x9 < 67108864)
def Near (x0 x1 x2 x3 x4 x5 x6 x7 x8 x9 : Int) : Prop := (-1152921504606846976 ≤ x0 ∧ x0 ≤ 1152921504606846976) ∧ (-1152921504606846976 ≤ x1 ∧ x1 ≤ 1152921504606846976) ∧ (-1152921504606846976 ≤ x2 ∧ x2 ≤ 1152921504606846976) ∧ (-1152921504606846976 ≤ x3 ∧ x3 ≤ 1152921504606846976) ∧ (-1152921504606846976 ≤ x4 ∧ x4 ≤ 1152921504606846976) ∧ (-1152921504606846976 ≤ x5 ∧ x5 ≤ 1152921504606846976) ∧ (-1152921504606846976 ≤ x6 ∧ x6 ≤ 1152921504606846976) ∧ (-1152921504606846976 ≤ x7 ∧ x7 ≤ 1152921504606846976) ∧ (-1152921504606846976 ≤ x8 ∧ x8 ≤ 1152921504606846976) ∧ (-1152921504606846976 ≤ x9 ∧ x9 ≤ 1152921504606846976)
theorem V10_in {x0 x1 x2 x3 x4 x5 x6 x7 x8 x9 : Int} (h : In26 x0 x1 x2 x3 x4 x5 x6 x7 x8 x9) : 0 ≤ V10 x0 x1 x2 x3 x4 x5 x6 x7 x8 x9 ∧ V10 x0 x1 x2 x3 x4 x5 x6 x7 x8 x9 < 1852673427797059126777135760139006525652319754650249024631321344126610074238976 := by
  obtain ⟨h0, h1, h2, h3, h4, h5, h6, h7, h8, h9⟩ := h; unfold V10; omega
theorem pass_math {x0 x1 x2 x3 x4 x5 x6 x7 x8 x9 z1 z2 z3 z4 z5 z6 z7 z8 z9 y0 y1 y2 y3 y4 y5 y6 y7 y8 y9 : Int} (a1 : x1 + x0 / 67108864 = z1) (a2 : x2 + z1 / 67108864 = z2) (a3 : x3 + z2 / 67108864 = z3) (a4 : x4 + z3 / 67108864 = z4) (a5 : x5 + z4 / 67108864 = z5) (a6 : x6 + z5 / 67108864 = z6) (a7 : x7 + z6 / 67108864 = z7) (a8 : x8 + z7 / 67108864 = z8) (a9 : x9 + z8 / 67108864 = z9) (b0 : x0 - x0 / 67108864 * 67108864 = y0) (b1 : z1 - z1 / 67108864 * 67108864 = y1) (b2 : z2 - z2 / 67108864 * 67108864 = y2) (b3 : z3 - z3 / 67108864 * 67108864 = y3) (b4 : z4 - z4 / 67108864 * 67108864 = y4) (b5 : z5 - z5 / 67108864 * 67108864 = y5) (b6 : z6 - z6 / 67108864 * 67108864 = y6) (b7 : z7 - z7 / 67108864 * 67108864 = y7) (b8 : z8 - z8 / 67108864 * 67108864 = y8) (b9 : z9 - z9 / 67108864 * 67108864 = y9) :
    V10 x0 x1 x2 x3 x4 x5 x6 x7 x8 x9 = V10 y0 y1 y2 y3 y4 y5 y6 y7 y8 y9 + 1852673427797059126777135760139006525652319754650249024631321344126610074238976 * (z9 / 67108864) := by
  unfold V10; omega
theorem three_math {X D1 D2 D3 T2 T3 c1 c2 c3 : Int} (h1 : X = D1 + 1852673427797059126777135760139006525652319754650249024631321344126610074238976 * c1) (t2 : T2 = D1 + 608 * c1) (h2 : T2 = D2 + 1852673427797059126777135760139006525652319754650249024631321344126610074238976 * c2) (t3 : T3 = D2 + 608 * c2) (h3 : T3 = D3 + 1852673427797059126777135760139006525652319754650249024631321344126610074238976 * c3)
    (d1 : 0 ≤ D1 ∧ D1 < 1852673427797059126777135760139006525652319754650249024631321344126610074238976) (d2 : 0 ≤ D2 ∧ D2 < 1852673427797059126777135760139006525652319754650249024631321344126610074238976) (d3 : 0 ≤ D3 ∧ D3 < 1852673427797059126777135760139006525652319754650249024631321344126610074238976) (k1 : -68719476736 ≤ c1 ∧ c1 ≤ 68719476736) : c3 = 0 ∧ X = D3 + pInt * (32 * (c1 + c2)) := by
  have k2 : -1 ≤ c2 ∧ c2 ≤ 1 := by omega
  have k3 : c3 = 0 := by
    have : c2 = -1 ∨ c2 = 0 ∨ c2 = 1 := by omega
    rcases this with rfl | rfl | rfl <;> omega
  subst k3
  unfold pInt
  exact ⟨rfl, by omega⟩
theorem carry_any (w : World) (b cap : Nat) (rest : List Value) (x0 x1 x2 x3 x4 x5 x6 x7 x8 x9 : Int) (hb : b < w.heap.size) (hn : Near x0 x1 x2 x3 x4 x5 x6 x7 x8 x9) :
    Calls Try.prog 57 #[.slice (some ⟨b, 0, none⟩) 10 cap] (rowL w b 3 .i64 [x0, x1, x2, x3, x4, x5, x6, x7, x8, x9] rest) fun e w' => e = .returned (.tuple #[]) ∧ ∃ y0 y1 y2 y3 y4 y5 y6 y7 y8 y9 : Int, w' = rowL w b 3 .i64 [y0, y1, y2, y3, y4, y5, y6, y7, y8, y9] rest ∧ In26 y0 y1 y2 y3 y4 y5 y6 y7 y8 y9 ∧ ∃ q : Int, V10 x0 x1 x2 x3 x4 x5 x6 x7 x8 x9 = V10 y0 y1 y2 y3 y4 y5 y6 y7 y8 y9 + pInt * q := by
  obtain ⟨hx0, hx1, hx2, hx3, hx4, hx5, hx6, hx7, hx8, hx9⟩ := hn
  go_enter Try.func57, Try.ntmps57
  go_wp2
  refine wp_loop_rounds 4 ?_
  rw [rounds_succ]; go_wp2
  refine wp_loop_rounds 11 ?_
  rw [rounds_succ]; go_wp2
  generalize ez01 : x1 + x0 / 67108864 = z01
  have hz01 : -1152921573326323712 ≤ z01 ∧ z01 ≤ 1152921573326323712 := by omega
  generalize ey00 : x0 - x0 / 67108864 * 67108864 = y00
  have hy00 : 0 ≤ y00 ∧ y00 < 67108864 := by omega
  have Ez01 := hide ez01
  have Ey00 := hide ey00
  clear ez01 ey00 hx0
  clear hx1
  rw [rounds_succ]; go_wp2
  generalize ez02 : x2 + z01 / 67108864 = z02
  have hz02 : -1152921573326323712 ≤ z02 ∧ z02 ≤ 1152921573326323712 := by omega
  generalize ey01 : z01 - z01 / 67108864 * 67108864 = y01
  have hy01 : 0 ≤ y01 ∧ y01 < 67108864 := by omega
  have Ez02 := hide ez02
  have Ey01 := hide ey01
  clear ez02 ey01 hz01
  clear hx2
  rw [rounds_succ]; go_wp2
  generalize ez03 : x3 + z02 / 67108864 = z03
  have hz03 : -1152921573326323712 ≤ z03 ∧ z03 ≤ 1152921573326323712 := by omega
  generalize ey02 : z02 - z02 / 67108864 * 67108864 = y02
  have hy02 : 0 ≤ y02 ∧ y02 < 67108864 := by omega
  have Ez03 := hide ez03
  have Ey02 := hide ey02
  clear ez03 ey02 hz02
  clear hx3
  rw [rounds_succ]; go_wp2
  generalize ez04 : x4 + z03 / 67108864 = z04
  have hz04 : -1152921573326323712 ≤ z04 ∧ z04 ≤ 1152921573326323712 := by omega
  generalize ey03 : z03 - z03 / 67108864 * 67108864 = y03
  have hy03 : 0 ≤ y03 ∧ y03 < 67108864 := by omega
  have Ez04 := hide ez04
  have Ey03 := hide ey03
  clear ez04 ey03 hz03
  clear hx4
  rw [rounds_succ]; go_wp2
  generalize ez05 : x5 + z04 / 67108864 = z05
  have hz05 : -1152921573326323712 ≤ z05 ∧ z05 ≤ 1152921573326323712 := by omega
  generalize ey04 : z04 - z04 / 67108864 * 67108864 = y04
  have hy04 : 0 ≤ y04 ∧ y04 < 67108864 := by omega
  have Ez05 := hide ez05
  have Ey04 := hide ey04
  clear ez05 ey04 hz04
  clear hx5
  rw [rounds_succ]; go_wp2
  generalize ez06 : x6 + z05 / 67108864 = z06
  have hz06 : -1152921573326323712 ≤ z06 ∧ z06 ≤ 1152921573326323712 := by omega
  generalize ey05 : z05 - z05 / 67108864 * 67108864 = y05
  have hy05 : 0 ≤ y05 ∧ y05 < 67108864 := by omega
  have Ez06 := hide ez06
  have Ey05 := hide ey05
  clear ez06 ey05 hz05
  clear hx6
  rw [rounds_succ]; go_wp2
  generalize ez07 : x7 + z06 / 67108864 = z07
  have hz07 : -1152921573326323712 ≤ z07 ∧ z07 ≤ 1152921573326323712 := by omega
  generalize ey06 : z06 - z06 / 67108864 * 67108864 = y06
  have hy06 : 0 ≤ y06 ∧ y06 < 67108864 := by omega
  have Ez07 := hide ez07
  have Ey06 := hide ey06
  clear ez07 ey06 hz06
  clear hx7
  rw [rounds_succ]; go_wp2
  generalize ez08 : x8 + z07 / 67108864 = z08
  have hz08 : -1152921573326323712 ≤ z08 ∧ z08 ≤ 1152921573326323712 := by omega
  generalize ey07 : z07 - z07 / 67108864 * 67108864 = y07
  have hy07 : 0 ≤ y07 ∧ y07 < 67108864 := by omega
  have Ez08 := hide ez08
  have Ey07 := hide ey07
  clear ez08 ey07 hz07
  clear hx8
  rw [rounds_succ]; go_wp2
  generalize ez09 : x9 + z08 / 67108864 = z09
  have hz09 : -1152921573326323712 ≤ z09 ∧ z09 ≤ 1152921573326323712 := by omega
  generalize ey08 : z08 - z08 / 67108864 * 67108864 = y08
  have hy08 : 0 ≤ y08 ∧ y08 < 67108864 := by omega
  have Ez09 := hide ez09
  have Ey08 := hide ey08
  clear ez09 ey08 hz08
  clear hx9
  rw [rounds_succ]; go_wp2
  generalize et0 : y00 + 608 * (z09 / 67108864) = t0
  have ht0 : -70368744177664 ≤ t0 ∧ t0 ≤ 70368744177664 := by omega
  have K1 : -68719476736 ≤ z09 / 67108864 ∧ z09 / 67108864 ≤ 68719476736 := by omega
  have HK := hide K1
  clear K1
  generalize ey09 : z09 - z09 / 67108864 * 67108864 = y09
  have hy09 : 0 ≤ y09 ∧ y09 < 67108864 := by omega
  have Et0 := hide et0
  have Ey09 := hide ey09
  clear et0 ey09 hz09
  rw [rounds_succ]; go_wp2
  have D0 := hide (show In26 y00 y01 y02 y03 y04 y05 y06 y07 y08 y09 from ⟨hy00, hy01, hy02, hy03, hy04, hy05, hy06, hy07, hy08, hy09⟩)
  clear hy00
  rw [rounds_succ]; go_wp2
  refine wp_loop_rounds 11 ?_
  rw [rounds_succ]; go_wp2
  generalize ez11 : y01 + t0 / 67108864 = z11
  have hz11 : -268435456 ≤ z11 ∧ z11 ≤ 268435456 := by omega
  generalize ey10 : t0 - t0 / 67108864 * 67108864 = y10
  have hy10 : 0 ≤ y10 ∧ y10 < 67108864 := by omega
  have Ez11 := hide ez11
  have Ey10 := hide ey10
  clear ez11 ey10 ht0
  clear hy01
  rw [rounds_succ]; go_wp2
  generalize ez12 : y02 + z11 / 67108864 = z12
  have hz12 : -268435456 ≤ z12 ∧ z12 ≤ 268435456 := by omega
  generalize ey11 : z11 - z11 / 67108864 * 67108864 = y11
  have hy11 : 0 ≤ y11 ∧ y11 < 67108864 := by omega
  have Ez12 := hide ez12
  have Ey11 := hide ey11
  clear ez12 ey11 hz11
  clear hy02
  rw [rounds_succ]; go_wp2
  generalize ez13 : y03 + z12 / 67108864 = z13
  have hz13 : -268435456 ≤ z13 ∧ z13 ≤ 268435456 := by omega
  generalize ey12 : z12 - z12 / 67108864 * 67108864 = y12
  have hy12 : 0 ≤ y12 ∧ y12 < 67108864 := by omega
  have Ez13 := hide ez13
  have Ey12 := hide ey12
  clear ez13 ey12 hz12
  clear hy03
  rw [rounds_succ]; go_wp2
  generalize ez14 : y04 + z13 / 67108864 = z14
  have hz14 : -268435456 ≤ z14 ∧ z14 ≤ 268435456 := by omega
  generalize ey13 : z13 - z13 / 67108864 * 67108864 = y13
  have hy13 : 0 ≤ y13 ∧ y13 < 67108864 := by omega
  have Ez14 := hide ez14
  have Ey13 := hide ey13
  clear ez14 ey13 hz13
  clear hy04
  rw [rounds_succ]; go_wp2
  generalize ez15 : y05 + z14 / 67108864 = z15
  have hz15 : -268435456 ≤ z15 ∧ z15 ≤ 268435456 := by omega
  generalize ey14 : z14 - z14 / 67108864 * 67108864 = y14
  have hy14 : 0 ≤ y14 ∧ y14 < 67108864 := by omega
  have Ez15 := hide ez15
  have Ey14 := hide ey14
  clear ez15 ey14 hz14
  clear hy05
  rw [rounds_succ]; go_wp2
  generalize ez16 : y06 + z15 / 67108864 = z16
  have hz16 : -268435456 ≤ z16 ∧ z16 ≤ 268435456 := by omega
  generalize ey15 : z15 - z15 / 67108864 * 67108864 = y15
  have hy15 : 0 ≤ y15 ∧ y15 < 67108864 := by omega
  have Ez16 := hide ez16
  have Ey15 := hide ey15
  clear ez16 ey15 hz15
  clear hy06
  rw [rounds_succ]; go_wp2
  generalize ez17 : y07 + z16 / 67108864 = z17
  have hz17 : -268435456 ≤ z17 ∧ z17 ≤ 268435456 := by omega
  generalize ey16 : z16 - z16 / 67108864 * 67108864 = y16
  have hy16 : 0 ≤ y16 ∧ y16 < 67108864 := by omega
  have Ez17 := hide ez17
  have Ey16 := hide ey16
  clear ez17 ey16 hz16
  clear hy07
  rw [rounds_succ]; go_wp2
  generalize ez18 : y08 + z17 / 67108864 = z18
  have hz18 : -268435456 ≤ z18 ∧ z18 ≤ 268435456 := by omega
  generalize ey17 : z17 - z17 / 67108864 * 67108864 = y17
  have hy17 : 0 ≤ y17 ∧ y17 < 67108864 := by omega
  have Ez18 := hide ez18
  have Ey17 := hide ey17
  clear ez18 ey17 hz17
  clear hy08
  rw [rounds_succ]; go_wp2
  generalize ez19 : y09 + z18 / 67108864 = z19
  have hz19 : -268435456 ≤ z19 ∧ z19 ≤ 268435456 := by omega
  generalize ey18 : z18 - z18 / 67108864 * 67108864 = y18
  have hy18 : 0 ≤ y18 ∧ y18 < 67108864 := by omega
  have Ez19 := hide ez19
  have Ey18 := hide ey18
  clear ez19 ey18 hz18
  clear hy09
  rw [rounds_succ]; go_wp2
  generalize et1 : y10 + 608 * (z19 / 67108864) = t1
  have ht1 : -268435456 ≤ t1 ∧ t1 ≤ 268435456 := by omega
  generalize ey19 : z19 - z19 / 67108864 * 67108864 = y19
  have hy19 : 0 ≤ y19 ∧ y19 < 67108864 := by omega
  have Et1 := hide et1
  have Ey19 := hide ey19
  clear et1 ey19 hz19
  rw [rounds_succ]; go_wp2
  have D1 := hide (show In26 y10 y11 y12 y13 y14 y15 y16 y17 y18 y19 from ⟨hy10, hy11, hy12, hy13, hy14, hy15, hy16, hy17, hy18, hy19⟩)
  clear hy10
  rw [rounds_succ]; go_wp2
  refine wp_loop_rounds 11 ?_
  rw [rounds_succ]; go_wp2
  generalize ez21 : y11 + t1 / 67108864 = z21
  have hz21 : -268435456 ≤ z21 ∧ z21 ≤ 268435456 := by omega
  generalize ey20 : t1 - t1 / 67108864 * 67108864 = y20
  have hy20 : 0 ≤ y20 ∧ y20 < 67108864 := by omega
  have Ez21 := hide ez21
  have Ey20 := hide ey20
  clear ez21 ey20 ht1
  clear hy11
  rw [rounds_succ]; go_wp2
  generalize ez22 : y12 + z21 / 67108864 = z22
  have hz22 : -268435456 ≤ z22 ∧ z22 ≤ 268435456 := by omega
  generalize ey21 : z21 - z21 / 67108864 * 67108864 = y21
  have hy21 : 0 ≤ y21 ∧ y21 < 67108864 := by omega
  have Ez22 := hide ez22
  have Ey21 := hide ey21
  clear ez22 ey21 hz21
  clear hy12
  rw [rounds_succ]; go_wp2
  generalize ez23 : y13 + z22 / 67108864 = z23
  have hz23 : -268435456 ≤ z23 ∧ z23 ≤ 268435456 := by omega
  generalize ey22 : z22 - z22 / 67108864 * 67108864 = y22
  have hy22 : 0 ≤ y22 ∧ y22 < 67108864 := by omega
  have Ez23 := hide ez23
  have Ey22 := hide ey22
  clear ez23 ey22 hz22
  clear hy13
  rw [rounds_succ]; go_wp2
  generalize ez24 : y14 + z23 / 67108864 = z24
  have hz24 : -268435456 ≤ z24 ∧ z24 ≤ 268435456 := by omega
  generalize ey23 : z23 - z23 / 67108864 * 67108864 = y23
  have hy23 : 0 ≤ y23 ∧ y23 < 67108864 := by omega
  have Ez24 := hide ez24
  have Ey23 := hide ey23
  clear ez24 ey23 hz23
  clear hy14
  rw [rounds_succ]; go_wp2
  generalize ez25 : y15 + z24 / 67108864 = z25
  have hz25 : -268435456 ≤ z25 ∧ z25 ≤ 268435456 := by omega
  generalize ey24 : z24 - z24 / 67108864 * 67108864 = y24
  have hy24 : 0 ≤ y24 ∧ y24 < 67108864 := by omega
  have Ez25 := hide ez25
  have Ey24 := hide ey24
  clear ez25 ey24 hz24
  clear hy15
  rw [rounds_succ]; go_wp2
  generalize ez26 : y16 + z25 / 67108864 = z26
  have hz26 : -268435456 ≤ z26 ∧ z26 ≤ 268435456 := by omega
  generalize ey25 : z25 - z25 / 67108864 * 67108864 = y25
  have hy25 : 0 ≤ y25 ∧ y25 < 67108864 := by omega
  have Ez26 := hide ez26
  have Ey25 := hide ey25
  clear ez26 ey25 hz25
  clear hy16
  rw [rounds_succ]; go_wp2
  generalize ez27 : y17 + z26 / 67108864 = z27
  have hz27 : -268435456 ≤ z27 ∧ z27 ≤ 268435456 := by omega
  generalize ey26 : z26 - z26 / 67108864 * 67108864 = y26
  have hy26 : 0 ≤ y26 ∧ y26 < 67108864 := by omega
  have Ez27 := hide ez27
  have Ey26 := hide ey26
  clear ez27 ey26 hz26
  clear hy17
  rw [rounds_succ]; go_wp2
  generalize ez28 : y18 + z27 / 67108864 = z28
  have hz28 : -268435456 ≤ z28 ∧ z28 ≤ 268435456 := by omega
  generalize ey27 : z27 - z27 / 67108864 * 67108864 = y27
  have hy27 : 0 ≤ y27 ∧ y27 < 67108864 := by omega
  have Ez28 := hide ez28
  have Ey27 := hide ey27
  clear ez28 ey27 hz27
  clear hy18
  rw [rounds_succ]; go_wp2
  generalize ez29 : y19 + z28 / 67108864 = z29
  have hz29 : -268435456 ≤ z29 ∧ z29 ≤ 268435456 := by omega
  generalize ey28 : z28 - z28 / 67108864 * 67108864 = y28
  have hy28 : 0 ≤ y28 ∧ y28 < 67108864 := by omega
  have Ez29 := hide ez29
  have Ey28 := hide ey28
  clear ez29 ey28 hz28
  clear hy19
  rw [rounds_succ]; go_wp2
  generalize et2 : y20 + 608 * (z29 / 67108864) = t2
  have ht2 : -268435456 ≤ t2 ∧ t2 ≤ 268435456 := by omega
  generalize ey29 : z29 - z29 / 67108864 * 67108864 = y29
  have hy29 : 0 ≤ y29 ∧ y29 < 67108864 := by omega
  have Et2 := hide et2
  have Ey29 := hide ey29
  clear et2 ey29 hz29
  rw [rounds_succ]; go_wp2
  have D2 := hide (show In26 y20 y21 y22 y23 y24 y25 y26 y27 y28 y29 from ⟨hy20, hy21, hy22, hy23, hy24, hy25, hy26, hy27, hy28, hy29⟩)
  clear hy20
  rw [rounds_succ]; go_wp2
  have m0 := pass_math (unhide Ez01) (unhide Ez02) (unhide Ez03) (unhide Ez04) (unhide Ez05) (unhide Ez06) (unhide Ez07) (unhide Ez08) (unhide Ez09) (unhide Ey00) (unhide Ey01) (unhide Ey02) (unhide Ey03) (unhide Ey04) (unhide Ey05) (unhide Ey06) (unhide Ey07) (unhide Ey08) (unhide Ey09)
  have m1 := pass_math (unhide Ez11) (unhide Ez12) (unhide Ez13) (unhide Ez14) (unhide Ez15) (unhide Ez16) (unhide Ez17) (unhide Ez18) (unhide Ez19) (unhide Ey10) (unhide Ey11) (unhide Ey12) (unhide Ey13) (unhide Ey14) (unhide Ey15) (unhide Ey16) (unhide Ey17) (unhide Ey18) (unhide Ey19)
  have m2 := pass_math (unhide Ez21) (unhide Ez22) (unhide Ez23) (unhide Ez24) (unhide Ez25) (unhide Ez26) (unhide Ez27) (unhide Ez28) (unhide Ez29) (unhide Ey20) (unhide Ey21) (unhide Ey22) (unhide Ey23) (unhide Ey24) (unhide Ey25) (unhide Ey26) (unhide Ey27) (unhide Ey28) (unhide Ey29)
  have tt1 : V10 t0 y01 y02 y03 y04 y05 y06 y07 y08 y09 = V10 y00 y01 y02 y03 y04 y05 y06 y07 y08 y09 + 608 * (z09 / 67108864) := by have := unhide Et0; unfold V10; omega
  have tt2 : V10 t1 y11 y12 y13 y14 y15 y16 y17 y18 y19 = V10 y10 y11 y12 y13 y14 y15 y16 y17 y18 y19 + 608 * (z19 / 67108864) := by have := unhide Et1; unfold V10; omega
  obtain ⟨c0, hq⟩ := three_math m0 tt1 m1 tt2 m2 (V10_in (unhide D0)) (V10_in (unhide D1)) (V10_in (unhide D2)) (unhide HK)
  have e0 : t2 = y20 := by have := unhide Et2; omega
  rw [e0]
  go_end0
  exact ⟨rfl, y20, y21, y22, y23, y24, y25, y26, y27, y28, y29, rfl, unhide D2, _, hq⟩
end Go.Proofs.Ytncplefjokbbjaa
