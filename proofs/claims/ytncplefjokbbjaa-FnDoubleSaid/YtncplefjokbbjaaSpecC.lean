/- The contract of l01Store: the thirty-two bytes of the number below the prime. -/
import Derived.Test.YtncplefjokbbjaaSpecB
import Derived.Test.YtncplefjokbbjaaDigits
namespace Go.Proofs.Ytncplefjokbbjaa
open Go.RowKit
set_option maxHeartbeats 16000000
theorem info3 : (Try.prog.info? 3).map (fun i => (i.zero, i.size, i.bytes)) = some (some (.int .i64 0), 1, 8) := by kernel_rfl
theorem make32 (w : World) : (Instr.makeSlice 30 (.int .i64 32) (.int .i64 32)).run Try.prog w = .ok (.slice (some ⟨w.heap.size, 0, none⟩) 32 32) (w.alloc (.cells #[.int .u8 0, .int .u8 0, .int .u8 0, .int .u8 0, .int .u8 0, .int .u8 0, .int .u8 0, .int .u8 0, .int .u8 0, .int .u8 0, .int .u8 0, .int .u8 0, .int .u8 0, .int .u8 0, .int .u8 0, .int .u8 0, .int .u8 0, .int .u8 0, .int .u8 0, .int .u8 0, .int .u8 0, .int .u8 0, .int .u8 0, .int .u8 0, .int .u8 0, .int .u8 0, .int .u8 0, .int .u8 0, .int .u8 0, .int .u8 0, .int .u8 0, .int .u8 0] 5)) := by kernel_rfl
theorem own_row {w : World} {base n : Nat} {e : TypeId} {kd : IntKind} {v : Value} {xs : List Int} (h : w.ownsRow base e 1 v n (xs.map (Value.int kd))) (hn : 0 < n) :
    ∃ g cap rest, v = .slice (some ⟨g, 0, none⟩) n cap ∧ base ≤ g ∧ g < w.heap.size ∧ w.heap[g]? = some (rowObj e kd xs rest) := by
  rcases h.2 with ⟨_, h0⟩ | ⟨g, cap, cur, hv, hb, hg, _, _, _, ht⟩
  · omega
  · refine ⟨g, cap, cur.toList.drop n, hv, hb, (Array.getElem?_eq_some_iff.1 hg).1, ?_⟩
    rw [hg]
    unfold rowObj
    congr 2
    rw [← ht, Nat.mul_one, List.take_append_drop]
theorem own_made (w : World) (n base : Nat) (e : TypeId) (hn : n = w.heap.size) (hb : base ≤ w.heap.size) : (w.alloc (.cells #[] e)).ownsRow base e 1 (.slice (some ⟨n, 0, none⟩) 0 0) 0 [] := by
  subst hn; exact World.ownsRow_made w #[] 0 hb (Nat.zero_le _) rfl
theorem row_news {w : World} {b : Nat} {e : TypeId} {kd : IntKind} {xs : List Int} {rest : List Value} (h : w.heap[b]? = some (rowObj e kd xs rest)) : ∀ j u, (xs.map (Value.int kd))[j]? = some u → w.cell? ((⟨b, 0, none⟩ : Addr).add j) = some u := by
  intro j u hj
  have hplain : (⟨b, 0, none⟩ : Addr).add j = ⟨b, 0 + j, none⟩ := by unfold Addr.add; split <;> simp_all
  rw [hplain, Nat.zero_add, Go.cell_of_row _ _ _ _ _ _ h]
  have hl : j < (xs.map (Value.int kd)).length := by
    rcases Nat.lt_or_ge j (xs.map (Value.int kd)).length with h | h
    · exact h
    · rw [List.getElem?_eq_none h] at hj; cases hj
  rw [List.getElem?_toArray, List.getElem?_append_left hl, hj]
theorem one_news (kd : IntKind) (xs : List Int) : ∀ u ∈ xs.map (Value.int kd), u.oneCell' = true := by
  intro u hu
  obtain ⟨x, _, rfl⟩ := List.mem_map.1 hu
  rfl
@[go_sem] theorem cell_row_other (w : World) (b n i : Nat) (e : TypeId) (kd : IntKind) (xs : List Int) (rest : List Value) (h : n ≠ b) : (rowL w b e kd xs rest).cell? ⟨n, i, none⟩ = w.cell? ⟨n, i, none⟩ := by
  unfold World.cell?
  rw [show (⟨n, i, none⟩ : Addr).block = n from rfl, get_row_other w b e kd xs rest n h]
theorem chain_math {x0 x1 x2 x3 x4 x5 x6 x7 x8 x9 z1 z2 z3 z4 z5 z6 z7 z8 z9 y0 y1 y2 y3 y4 y5 y6 y7 y8 : Int} (a1 : x1 + x0 / 67108864 = z1) (a2 : x2 + z1 / 67108864 = z2) (a3 : x3 + z2 / 67108864 = z3) (a4 : x4 + z3 / 67108864 = z4) (a5 : x5 + z4 / 67108864 = z5) (a6 : x6 + z5 / 67108864 = z6) (a7 : x7 + z6 / 67108864 = z7) (a8 : x8 + z7 / 67108864 = z8) (a9 : x9 + z8 / 67108864 = z9) (b0 : x0 - x0 / 67108864 * 67108864 = y0) (b1 : z1 - z1 / 67108864 * 67108864 = y1) (b2 : z2 - z2 / 67108864 * 67108864 = y2) (b3 : z3 - z3 / 67108864 * 67108864 = y3) (b4 : z4 - z4 / 67108864 * 67108864 = y4) (b5 : z5 - z5 / 67108864 * 67108864 = y5) (b6 : z6 - z6 / 67108864 * 67108864 = y6) (b7 : z7 - z7 / 67108864 * 67108864 = y7) (b8 : z8 - z8 / 67108864 * 67108864 = y8) :
    V10 x0 x1 x2 x3 x4 x5 x6 x7 x8 x9 = V10 y0 y1 y2 y3 y4 y5 y6 y7 y8 z9 := by
  unfold V10; omega
theorem row_cell {w : World} {b : Nat} {e : TypeId} {kd : IntKind} {xs : List Int} {rest : List Value} (h : w.heap[b]? = some (rowObj e kd xs rest)) (i : Nat) (hi : i < xs.length) : w.cell? ⟨b, i, none⟩ = some (.int kd (xs.getD i 0)) := by
  rw [← row_same w b e kd xs rest h]
  exact cell_row w b e kd xs rest i hi (Array.getElem?_eq_some_iff.1 h).1
theorem bit_at (d n k : Nat) (hd : 0 < d) : (n / 2 ^ (d * (k / d)) % 2 ^ d).testBit (k % d) = n.testBit k := by
  rw [Nat.testBit_mod_two_pow, Nat.testBit_div_two_pow, Nat.add_comm, Nat.div_add_mod]
  simp [Nat.mod_lt _ hd]
@[go_sem] theorem size_of_drew (w : World) : w.drew.heap.size = w.heap.size := rfl
theorem or8 (zs : List Int) (j t : Nat) (ht : t ≤ 7) (hd : 0 ≤ zs[j]?.getD 0 ∧ zs[j]?.getD 0 < 2 ^ t) (h : j < zs.length) : bits .or .u8 (zs[j]'h) (2 ^ t) = zs[j]?.getD 0 + 2 ^ t := by
  rw [List.getElem?_eq_getElem h] at hd ⊢
  simp only [Option.getD_some] at hd ⊢
  have e : ((2 : Int) ^ t) = ((2 ^ t : Nat) : Int) := by simp
  rw [e] at hd ⊢
  obtain ⟨A, hA⟩ := Int.eq_ofNat_of_zero_le hd.1
  rw [hA] at hd ⊢
  have h1 : A < 2 ^ t := by omega
  have h2 : 2 ^ t ≤ 2 ^ 7 := Nat.pow_le_pow_right (by decide) ht
  rw [u8_or_nat A (2 ^ t) (by omega) (by omega), or_add A t h1]
  simp
theorem enc_dig (n : Nat) (h : n < 2 ^ 255) : strOfNums (digI 8 32 n 255) = enc (n : Int) := by
  unfold enc digI dig
  rw [Nat.mod_eq_of_lt h, List.map_map]
  congr 1
theorem split9 (d0 d1 d2 d3 d4 d5 d6 d7 d8 d9 : Int) : V10 d0 d1 d2 d3 d4 d5 d6 d7 d8 d9 = V10 d0 d1 d2 d3 d4 d5 d6 d7 d8 0 + 27606985387162255149739023449108101809804435888681546220650096895197184 * d9 := by unfold V10; omega
theorem low9 {d0 d1 d2 d3 d4 d5 d6 d7 d8 : Int} (h0 : 0 ≤ d0 ∧ d0 < 67108864) (h1 : 0 ≤ d1 ∧ d1 < 67108864) (h2 : 0 ≤ d2 ∧ d2 < 67108864) (h3 : 0 ≤ d3 ∧ d3 < 67108864) (h4 : 0 ≤ d4 ∧ d4 < 67108864) (h5 : 0 ≤ d5 ∧ d5 < 67108864) (h6 : 0 ≤ d6 ∧ d6 < 67108864) (h7 : 0 ≤ d7 ∧ d7 < 67108864) (h8 : 0 ≤ d8 ∧ d8 < 67108864) :
    0 ≤ V10 d0 d1 d2 d3 d4 d5 d6 d7 d8 0 ∧ V10 d0 d1 d2 d3 d4 d5 d6 d7 d8 0 < 27606985387162255149739023449108101809804435888681546220650096895197184 := by unfold V10; omega
theorem two_math {V l0 y9 A l1 p9 C l2 q9 : Int} (e0 : V = l0 + 27606985387162255149739023449108101809804435888681546220650096895197184 * y9) (b0 : 0 ≤ l0 ∧ l0 < 27606985387162255149739023449108101809804435888681546220650096895197184) (hy : 0 ≤ y9 ∧ y9 < 67108864) (e1 : A = V - pInt * (y9 / 2097152)) (e2 : A = l1 + 27606985387162255149739023449108101809804435888681546220650096895197184 * p9) (b1 : 0 ≤ l1 ∧ l1 < 27606985387162255149739023449108101809804435888681546220650096895197184) (e3 : C = A - pInt * (p9 / 2097152)) (e4 : C = l2 + 27606985387162255149739023449108101809804435888681546220650096895197184 * q9) (b2 : 0 ≤ l2 ∧ l2 < 27606985387162255149739023449108101809804435888681546220650096895197184) (hq : 0 ≤ q9) : (0 ≤ C ∧ C < 57896044618658097711785492504343953926634992332820282019728792003956564819968) ∧ q9 < 2097152 := by
  unfold pInt at *
  have k1 : 0 ≤ A ∧ A < 57896044618658097711785492504343953926634992332820282019728792003956564819968 + 600 := by omega
  have k2 : p9 / 2097152 = 0 ∨ p9 / 2097152 = 1 := by omega
  rcases k2 with k2 | k2 <;> rw [k2] at e3 <;> omega
theorem over_math {C l r : Int} (hC : 0 ≤ C ∧ C < 57896044618658097711785492504343953926634992332820282019728792003956564819968) (e : C + 19 = l + 27606985387162255149739023449108101809804435888681546220650096895197184 * r) (b : 0 ≤ l ∧ l < 27606985387162255149739023449108101809804435888681546220650096895197184) (h : 0 < r / 2097152) : l + 27606985387162255149739023449108101809804435888681546220650096895197184 * (r - r / 2097152 * 2097152) = C % pInt ∧ 0 ≤ r - r / 2097152 * 2097152 ∧ r - r / 2097152 * 2097152 < 67108864 := by
  unfold pInt
  have : r / 2097152 = 1 := by omega
  rw [this]; omega
theorem under_math {C l r : Int} (hC : 0 ≤ C ∧ C < 57896044618658097711785492504343953926634992332820282019728792003956564819968) (e : C + 19 = l + 27606985387162255149739023449108101809804435888681546220650096895197184 * r) (b : 0 ≤ l ∧ l < 27606985387162255149739023449108101809804435888681546220650096895197184) (h : r / 2097152 ≤ 0) : C = C % pInt := by
  unfold pInt; omega
theorem digits_of {x0 x1 x2 x3 x4 x5 x6 x7 x8 x9 : Int} (h : In26 x0 x1 x2 x3 x4 x5 x6 x7 x8 x9) : ∃ n : Nat, V10 x0 x1 x2 x3 x4 x5 x6 x7 x8 x9 = (n : Int) ∧ ∀ j, j < 10 → [x0, x1, x2, x3, x4, x5, x6, x7, x8, x9].getD j 0 = ((n / 2 ^ (26 * j) % 2 ^ 26 : Nat) : Int) := by
  have hv := V10_in h
  obtain ⟨n, hn⟩ := Int.eq_ofNat_of_zero_le hv.1
  refine ⟨n, hn, ?_⟩
  obtain ⟨h0, h1, h2, h3, h4, h5, h6, h7, h8, h9⟩ := h
  unfold V10 at hn
  intro j hj
  rcases j with _ | _ | _ | _ | _ | _ | _ | _ | _ | _ | j
  · show x0 = ((n / 1 % 67108864 : Nat) : Int); omega
  · show x1 = ((n / 67108864 % 67108864 : Nat) : Int); omega
  · show x2 = ((n / 4503599627370496 % 67108864 : Nat) : Int); omega
  · show x3 = ((n / 302231454903657293676544 % 67108864 : Nat) : Int); omega
  · show x4 = ((n / 20282409603651670423947251286016 % 67108864 : Nat) : Int); omega
  · show x5 = ((n / 1361129467683753853853498429727072845824 % 67108864 : Nat) : Int); omega
  · show x6 = ((n / 91343852333181432387730302044767688728495783936 % 67108864 : Nat) : Int); omega
  · show x7 = ((n / 6129982163463555433433388108601236734474956488734408704 % 67108864 : Nat) : Int); omega
  · show x8 = ((n / 411376139330301510538742295639337626245683966408394965837152256 % 67108864 : Nat) : Int); omega
  · show x9 = ((n / 27606985387162255149739023449108101809804435888681546220650096895197184 % 67108864 : Nat) : Int); omega
  · omega
set_option maxRecDepth 100000 in
theorem store_any (w : World) (b cap : Nat) (rest : List Value) (x0 x1 x2 x3 x4 x5 x6 x7 x8 x9 : Int) (hrow : w.heap[b]? = some (rowObj 3 .i64 [x0, x1, x2, x3, x4, x5, x6, x7, x8, x9] rest)) (hn : Near x0 x1 x2 x3 x4 x5 x6 x7 x8 x9) :
    Calls Try.prog 40 #[.slice (some ⟨b, 0, none⟩) 10 cap] w fun e w' => e = .returned (.string (enc (V10 x0 x1 x2 x3 x4 x5 x6 x7 x8 x9 % pInt))) ∧ Below w.heap.size w w' := by
  have hlt : b < w.heap.size := (Array.getElem?_eq_some_iff.1 hrow).1
  obtain ⟨i0, hi, hz0, hz1, hz2⟩ := info_parts info3
  have HR := hide (row_news (w := w.alloc (.cells #[] 3)) (show (w.alloc (.cells #[] 3)).heap[b]? = some (rowObj 3 .i64 [x0, x1, x2, x3, x4, x5, x6, x7, x8, x9] rest) by rw [heap_alloc_old _ _ hlt]; exact hrow))
  clear hrow
  go_enter Try.func40, Try.ntmps40
  go_wp2_with (at_builtin; refine wpList_append_own _ rfl _ _ 51 rfl w.heap.size 3 i0 (.int .i64 0) 1 8 Try.underlying51 hi hz0 hz1 hz2 rfl (by decide) _ _ _ rfl (own_made w w.heap.size w.heap.size 3 rfl (Nat.le_refl _)) ⟨b, 0, none⟩ 10 cap ([x0, x1, x2, x3, x4, x5, x6, x7, x8, x9].map (Value.int .i64)) rfl rfl (unhide HR) (one_news _ _) ?c3 ?c4 ?c5 ?_)
  case c3 => unfold maxLen; omega
  case c4 => omega
  case c5 => simp
  intro v' w1 hown hgrow _
  obtain ⟨g, cap1, rest1, rfl, hg1, hg2, hg3⟩ := own_row (n := 10) (kd := .i64) (xs := [x0, x1, x2, x3, x4, x5, x6, x7, x8, x9]) (by simpa using hown) (by omega)
  have hb1 : Below w.heap.size w w1 := ((Below.refl _ _).alloc (Nat.le_refl _) _).grown hgrow (by simp) (fun k hk => by simp [Value.ownBlock] at hk; omega)
  have HB1 := hide hb1
  have EH := hide (row_same _ _ _ _ _ _ hg3).symm
  clear hown hgrow hg3 hb1 HR
  go_wp2_with fail
  rw [unhide EH]
  refine (carry_any w1 g cap1 rest1 x0 x1 x2 x3 x4 x5 x6 x7 x8 x9 hg2 hn).mono ?_
  rintro e w2 ⟨rfl, y0, y1, y2, y3, y4, y5, y6, y7, y8, y9, rfl, ⟨hy0, hy1, hy2, hy3, hy4, hy5, hy6, hy7, hy8, hy9⟩, q, hq⟩
  have HQ := hide hq
  clear hq hn EH
  go_wp2
  refine wp_loop_rounds 3 ?_
  have HY := hide (show (0 ≤ y0 ∧ y0 < 67108864) ∧ (0 ≤ y1 ∧ y1 < 67108864) ∧ (0 ≤ y2 ∧ y2 < 67108864) ∧ (0 ≤ y3 ∧ y3 < 67108864) ∧ (0 ≤ y4 ∧ y4 < 67108864) ∧ (0 ≤ y5 ∧ y5 < 67108864) ∧ (0 ≤ y6 ∧ y6 < 67108864) ∧ (0 ≤ y7 ∧ y7 < 67108864) ∧ (0 ≤ y8 ∧ y8 < 67108864) from ⟨hy0, hy1, hy2, hy3, hy4, hy5, hy6, hy7, hy8⟩)
  rw [rounds_succ]; go_wp2
  generalize ept : y0 + 19 * (y9 / 2097152) = pt
  generalize epu : y9 - y9 / 2097152 * 2097152 = pu
  have hpt : 0 ≤ pt ∧ pt < 67109564 := by omega
  have hpu : 0 ≤ pu ∧ pu < 2097152 := by omega
  have pW := hide (show V10 pt y1 y2 y3 y4 y5 y6 y7 y8 pu = V10 y0 y1 y2 y3 y4 y5 y6 y7 y8 y9 - pInt * (y9 / 2097152) by unfold V10 pInt; omega)
  have pO : 0 ≤ y9 ∧ y9 < 67108864 := by omega
  have pOH := hide pO
  have pD := hide (show (0 ≤ y0 ∧ y0 < 67108864) from hy0)
  clear ept epu pO hy0 hy9
  refine wp_loop_rounds 10 ?_
  rw [rounds_succ]; go_wp2
  generalize epz1 : y1 + pt / 67108864 = pz1
  have hpz1 : 0 ≤ pz1 ∧ pz1 < 134217728 := by omega
  generalize epy0 : pt - pt / 67108864 * 67108864 = py0
  have hpy0 : 0 ≤ py0 ∧ py0 < 67108864 := by omega
  have Epz1 := hide epz1
  have Epy0 := hide epy0
  clear epz1 epy0 hpt hy1
  rw [rounds_succ]; go_wp2
  generalize epz2 : y2 + pz1 / 67108864 = pz2
  have hpz2 : 0 ≤ pz2 ∧ pz2 < 134217728 := by omega
  generalize epy1 : pz1 - pz1 / 67108864 * 67108864 = py1
  have hpy1 : 0 ≤ py1 ∧ py1 < 67108864 := by omega
  have Epz2 := hide epz2
  have Epy1 := hide epy1
  clear epz2 epy1 hpz1 hy2
  rw [rounds_succ]; go_wp2
  generalize epz3 : y3 + pz2 / 67108864 = pz3
  have hpz3 : 0 ≤ pz3 ∧ pz3 < 134217728 := by omega
  generalize epy2 : pz2 - pz2 / 67108864 * 67108864 = py2
  have hpy2 : 0 ≤ py2 ∧ py2 < 67108864 := by omega
  have Epz3 := hide epz3
  have Epy2 := hide epy2
  clear epz3 epy2 hpz2 hy3
  rw [rounds_succ]; go_wp2
  generalize epz4 : y4 + pz3 / 67108864 = pz4
  have hpz4 : 0 ≤ pz4 ∧ pz4 < 134217728 := by omega
  generalize epy3 : pz3 - pz3 / 67108864 * 67108864 = py3
  have hpy3 : 0 ≤ py3 ∧ py3 < 67108864 := by omega
  have Epz4 := hide epz4
  have Epy3 := hide epy3
  clear epz4 epy3 hpz3 hy4
  rw [rounds_succ]; go_wp2
  generalize epz5 : y5 + pz4 / 67108864 = pz5
  have hpz5 : 0 ≤ pz5 ∧ pz5 < 134217728 := by omega
  generalize epy4 : pz4 - pz4 / 67108864 * 67108864 = py4
  have hpy4 : 0 ≤ py4 ∧ py4 < 67108864 := by omega
  have Epz5 := hide epz5
  have Epy4 := hide epy4
  clear epz5 epy4 hpz4 hy5
  rw [rounds_succ]; go_wp2
  generalize epz6 : y6 + pz5 / 67108864 = pz6
  have hpz6 : 0 ≤ pz6 ∧ pz6 < 134217728 := by omega
  generalize epy5 : pz5 - pz5 / 67108864 * 67108864 = py5
  have hpy5 : 0 ≤ py5 ∧ py5 < 67108864 := by omega
  have Epz6 := hide epz6
  have Epy5 := hide epy5
  clear epz6 epy5 hpz5 hy6
  rw [rounds_succ]; go_wp2
  generalize epz7 : y7 + pz6 / 67108864 = pz7
  have hpz7 : 0 ≤ pz7 ∧ pz7 < 134217728 := by omega
  generalize epy6 : pz6 - pz6 / 67108864 * 67108864 = py6
  have hpy6 : 0 ≤ py6 ∧ py6 < 67108864 := by omega
  have Epz7 := hide epz7
  have Epy6 := hide epy6
  clear epz7 epy6 hpz6 hy7
  rw [rounds_succ]; go_wp2
  generalize epz8 : y8 + pz7 / 67108864 = pz8
  have hpz8 : 0 ≤ pz8 ∧ pz8 < 134217728 := by omega
  generalize epy7 : pz7 - pz7 / 67108864 * 67108864 = py7
  have hpy7 : 0 ≤ py7 ∧ py7 < 67108864 := by omega
  have Epz8 := hide epz8
  have Epy7 := hide epy7
  clear epz8 epy7 hpz7 hy8
  rw [rounds_succ]; go_wp2
  generalize epz9 : pu + pz8 / 67108864 = pz9
  have hpz9 : 0 ≤ pz9 ∧ pz9 < 2097154 := by omega
  generalize epy8 : pz8 - pz8 / 67108864 * 67108864 = py8
  have hpy8 : 0 ≤ py8 ∧ py8 < 67108864 := by omega
  have Epz9 := hide epz9
  have Epy8 := hide epy8
  clear epz9 epy8 hpz8 hpu
  rw [rounds_succ]; go_wp2
  have pM := hide (chain_math (unhide Epz1) (unhide Epz2) (unhide Epz3) (unhide Epz4) (unhide Epz5) (unhide Epz6) (unhide Epz7) (unhide Epz8) (unhide Epz9) (unhide Epy0) (unhide Epy1) (unhide Epy2) (unhide Epy3) (unhide Epy4) (unhide Epy5) (unhide Epy6) (unhide Epy7) (unhide Epy8))
  clear Epz1 Epy0 Epz2 Epy1 Epz3 Epy2 Epz4 Epy3 Epz5 Epy4 Epz6 Epy5 Epz7 Epy6 Epz8 Epy7 Epz9 Epy8
  have HP := hide (show (0 ≤ py0 ∧ py0 < 67108864) ∧ (0 ≤ py1 ∧ py1 < 67108864) ∧ (0 ≤ py2 ∧ py2 < 67108864) ∧ (0 ≤ py3 ∧ py3 < 67108864) ∧ (0 ≤ py4 ∧ py4 < 67108864) ∧ (0 ≤ py5 ∧ py5 < 67108864) ∧ (0 ≤ py6 ∧ py6 < 67108864) ∧ (0 ≤ py7 ∧ py7 < 67108864) ∧ (0 ≤ py8 ∧ py8 < 67108864) from ⟨hpy0, hpy1, hpy2, hpy3, hpy4, hpy5, hpy6, hpy7, hpy8⟩)
  rw [rounds_succ]; go_wp2
  generalize eqt : py0 + 19 * (pz9 / 2097152) = qt
  generalize equ : pz9 - pz9 / 2097152 * 2097152 = qu
  have hqt : 0 ≤ qt ∧ qt < 67109564 := by omega
  have hqu : 0 ≤ qu ∧ qu < 2097152 := by omega
  have qW := hide (show V10 qt py1 py2 py3 py4 py5 py6 py7 py8 qu = V10 py0 py1 py2 py3 py4 py5 py6 py7 py8 pz9 - pInt * (pz9 / 2097152) by unfold V10 pInt; omega)
  have qO : 0 ≤ pz9 ∧ pz9 < 67108864 := by omega
  have qOH := hide qO
  have qD := hide (show (0 ≤ py0 ∧ py0 < 67108864) from hpy0)
  clear eqt equ qO hpy0 hpz9
  refine wp_loop_rounds 10 ?_
  rw [rounds_succ]; go_wp2
  generalize eqz1 : py1 + qt / 67108864 = qz1
  have hqz1 : 0 ≤ qz1 ∧ qz1 < 134217728 := by omega
  generalize eqy0 : qt - qt / 67108864 * 67108864 = qy0
  have hqy0 : 0 ≤ qy0 ∧ qy0 < 67108864 := by omega
  have Eqz1 := hide eqz1
  have Eqy0 := hide eqy0
  clear eqz1 eqy0 hqt hpy1
  rw [rounds_succ]; go_wp2
  generalize eqz2 : py2 + qz1 / 67108864 = qz2
  have hqz2 : 0 ≤ qz2 ∧ qz2 < 134217728 := by omega
  generalize eqy1 : qz1 - qz1 / 67108864 * 67108864 = qy1
  have hqy1 : 0 ≤ qy1 ∧ qy1 < 67108864 := by omega
  have Eqz2 := hide eqz2
  have Eqy1 := hide eqy1
  clear eqz2 eqy1 hqz1 hpy2
  rw [rounds_succ]; go_wp2
  generalize eqz3 : py3 + qz2 / 67108864 = qz3
  have hqz3 : 0 ≤ qz3 ∧ qz3 < 134217728 := by omega
  generalize eqy2 : qz2 - qz2 / 67108864 * 67108864 = qy2
  have hqy2 : 0 ≤ qy2 ∧ qy2 < 67108864 := by omega
  have Eqz3 := hide eqz3
  have Eqy2 := hide eqy2
  clear eqz3 eqy2 hqz2 hpy3
  rw [rounds_succ]; go_wp2
  generalize eqz4 : py4 + qz3 / 67108864 = qz4
  have hqz4 : 0 ≤ qz4 ∧ qz4 < 134217728 := by omega
  generalize eqy3 : qz3 - qz3 / 67108864 * 67108864 = qy3
  have hqy3 : 0 ≤ qy3 ∧ qy3 < 67108864 := by omega
  have Eqz4 := hide eqz4
  have Eqy3 := hide eqy3
  clear eqz4 eqy3 hqz3 hpy4
  rw [rounds_succ]; go_wp2
  generalize eqz5 : py5 + qz4 / 67108864 = qz5
  have hqz5 : 0 ≤ qz5 ∧ qz5 < 134217728 := by omega
  generalize eqy4 : qz4 - qz4 / 67108864 * 67108864 = qy4
  have hqy4 : 0 ≤ qy4 ∧ qy4 < 67108864 := by omega
  have Eqz5 := hide eqz5
  have Eqy4 := hide eqy4
  clear eqz5 eqy4 hqz4 hpy5
  rw [rounds_succ]; go_wp2
  generalize eqz6 : py6 + qz5 / 67108864 = qz6
  have hqz6 : 0 ≤ qz6 ∧ qz6 < 134217728 := by omega
  generalize eqy5 : qz5 - qz5 / 67108864 * 67108864 = qy5
  have hqy5 : 0 ≤ qy5 ∧ qy5 < 67108864 := by omega
  have Eqz6 := hide eqz6
  have Eqy5 := hide eqy5
  clear eqz6 eqy5 hqz5 hpy6
  rw [rounds_succ]; go_wp2
  generalize eqz7 : py7 + qz6 / 67108864 = qz7
  have hqz7 : 0 ≤ qz7 ∧ qz7 < 134217728 := by omega
  generalize eqy6 : qz6 - qz6 / 67108864 * 67108864 = qy6
  have hqy6 : 0 ≤ qy6 ∧ qy6 < 67108864 := by omega
  have Eqz7 := hide eqz7
  have Eqy6 := hide eqy6
  clear eqz7 eqy6 hqz6 hpy7
  rw [rounds_succ]; go_wp2
  generalize eqz8 : py8 + qz7 / 67108864 = qz8
  have hqz8 : 0 ≤ qz8 ∧ qz8 < 134217728 := by omega
  generalize eqy7 : qz7 - qz7 / 67108864 * 67108864 = qy7
  have hqy7 : 0 ≤ qy7 ∧ qy7 < 67108864 := by omega
  have Eqz8 := hide eqz8
  have Eqy7 := hide eqy7
  clear eqz8 eqy7 hqz7 hpy8
  rw [rounds_succ]; go_wp2
  generalize eqz9 : qu + qz8 / 67108864 = qz9
  have hqz9 : 0 ≤ qz9 ∧ qz9 < 2097154 := by omega
  generalize eqy8 : qz8 - qz8 / 67108864 * 67108864 = qy8
  have hqy8 : 0 ≤ qy8 ∧ qy8 < 67108864 := by omega
  have Eqz9 := hide eqz9
  have Eqy8 := hide eqy8
  clear eqz9 eqy8 hqz8 hqu
  rw [rounds_succ]; go_wp2
  have qM := hide (chain_math (unhide Eqz1) (unhide Eqz2) (unhide Eqz3) (unhide Eqz4) (unhide Eqz5) (unhide Eqz6) (unhide Eqz7) (unhide Eqz8) (unhide Eqz9) (unhide Eqy0) (unhide Eqy1) (unhide Eqy2) (unhide Eqy3) (unhide Eqy4) (unhide Eqy5) (unhide Eqy6) (unhide Eqy7) (unhide Eqy8))
  clear Eqz1 Eqy0 Eqz2 Eqy1 Eqz3 Eqy2 Eqz4 Eqy3 Eqz5 Eqy4 Eqz6 Eqy5 Eqz7 Eqy6 Eqz8 Eqy7 Eqz9 Eqy8
  have DX := hide (show (0 ≤ qy0 ∧ qy0 < 67108864) ∧ (0 ≤ qy1 ∧ qy1 < 67108864) ∧ (0 ≤ qy2 ∧ qy2 < 67108864) ∧ (0 ≤ qy3 ∧ qy3 < 67108864) ∧ (0 ≤ qy4 ∧ qy4 < 67108864) ∧ (0 ≤ qy5 ∧ qy5 < 67108864) ∧ (0 ≤ qy6 ∧ qy6 < 67108864) ∧ (0 ≤ qy7 ∧ qy7 < 67108864) ∧ (0 ≤ qy8 ∧ qy8 < 67108864) ∧ (0 ≤ qz9 ∧ qz9 < 2097154) from ⟨hqy0, hqy1, hqy2, hqy3, hqy4, hqy5, hqy6, hqy7, hqy8, hqz9⟩)
  have HR2 := hide (row_news (w := (rowL w1 g 3 .i64 [qy0, qy1, qy2, qy3, qy4, qy5, qy6, qy7, qy8, qz9] rest1).alloc (.cells #[] 3)) (show ((rowL w1 g 3 .i64 [qy0, qy1, qy2, qy3, qy4, qy5, qy6, qy7, qy8, qz9] rest1).alloc (.cells #[] 3)).heap[g]? = some (rowObj 3 .i64 [qy0, qy1, qy2, qy3, qy4, qy5, qy6, qy7, qy8, qz9] rest1) by rw [heap_alloc_old _ _ (by rw [size_row]; exact hg2)]; exact get_row _ _ _ _ _ _ hg2))
  rw [rounds_succ]
  go_wp2_with (at_builtin; refine wpList_append_own _ rfl _ _ 51 rfl w1.heap.size 3 i0 (.int .i64 0) 1 8 Try.underlying51 hi hz0 hz1 hz2 rfl (by decide) _ _ _ rfl (own_made (rowL w1 g 3 .i64 [qy0, qy1, qy2, qy3, qy4, qy5, qy6, qy7, qy8, qz9] rest1) w1.heap.size w1.heap.size 3 (by rw [size_row]) (by rw [size_row]; exact Nat.le_refl _)) ⟨g, 0, none⟩ 10 cap1 ([qy0, qy1, qy2, qy3, qy4, qy5, qy6, qy7, qy8, qz9].map (Value.int .i64)) rfl rfl (unhide HR2) (one_news _ _) ?d3 ?d4 ?d5 ?_)
  case d3 => unfold maxLen; omega
  case d4 => omega
  case d5 => rw [World.size_alloc, size_row]; omega
  intro v2 w3 hown2 hgrow2 _
  obtain ⟨g2, cap2, rest2, rfl, hk1, hk2, hk3⟩ := own_row (n := 10) (kd := .i64) (xs := [qy0, qy1, qy2, qy3, qy4, qy5, qy6, qy7, qy8, qz9]) (by simpa using hown2) (by omega)
  have hx3 : w3.heap[g]? = some (rowObj 3 .i64 [qy0, qy1, qy2, qy3, qy4, qy5, qy6, qy7, qy8, qz9] rest1) := by
    rw [hgrow2.block g (by rw [World.size_alloc, size_row]; omega) (by simp [Value.ownBlock]; omega), heap_alloc_old _ _ (by rw [size_row]; exact hg2)]
    exact get_row _ _ _ _ _ _ hg2
  have hb3 : Below w.heap.size w w3 := ((below_row w1 g 3 .i64 [qy0, qy1, qy2, qy3, qy4, qy5, qy6, qy7, qy8, qz9] rest1 (unhide HB1) hg1).alloc (by rw [size_row]; have := (unhide HB1).size; omega) _).grown hgrow2 (by rw [World.size_alloc, size_row]; have := (unhide HB1).size; omega) (fun k hk => by simp [Value.ownBlock] at hk; have := (unhide HB1).size; omega)
  have HX3 := hide hx3
  have HB3 := hide hb3
  have hlg : g < w3.heap.size := (Array.getElem?_eq_some_iff.1 hx3).1
  have hgg : g ≠ g2 := by omega
  have EH2 := hide (row_same _ _ _ _ _ _ hk3).symm
  clear hown2 hgrow2 hk3 hb3 hx3 HR2
  rw [unhide EH2]
  clear EH2
  go_wp2
  generalize ert : qy0 + 19 = rt
  have hrt : 0 ≤ rt ∧ rt < 67109564 := by omega
  have ERT := hide ert
  clear ert hqy0
  refine wp_loop_rounds 10 ?_
  rw [rounds_succ]; go_wp2
  generalize erz1 : qy1 + rt / 67108864 = rz1
  have hrz1 : 0 ≤ rz1 ∧ rz1 < 134217728 := by omega
  generalize ery0 : rt - rt / 67108864 * 67108864 = ry0
  have hry0 : 0 ≤ ry0 ∧ ry0 < 67108864 := by omega
  have Erz1 := hide erz1
  have Ery0 := hide ery0
  clear erz1 ery0 hrt hqy1
  rw [rounds_succ]; go_wp2
  generalize erz2 : qy2 + rz1 / 67108864 = rz2
  have hrz2 : 0 ≤ rz2 ∧ rz2 < 134217728 := by omega
  generalize ery1 : rz1 - rz1 / 67108864 * 67108864 = ry1
  have hry1 : 0 ≤ ry1 ∧ ry1 < 67108864 := by omega
  have Erz2 := hide erz2
  have Ery1 := hide ery1
  clear erz2 ery1 hrz1 hqy2
  rw [rounds_succ]; go_wp2
  generalize erz3 : qy3 + rz2 / 67108864 = rz3
  have hrz3 : 0 ≤ rz3 ∧ rz3 < 134217728 := by omega
  generalize ery2 : rz2 - rz2 / 67108864 * 67108864 = ry2
  have hry2 : 0 ≤ ry2 ∧ ry2 < 67108864 := by omega
  have Erz3 := hide erz3
  have Ery2 := hide ery2
  clear erz3 ery2 hrz2 hqy3
  rw [rounds_succ]; go_wp2
  generalize erz4 : qy4 + rz3 / 67108864 = rz4
  have hrz4 : 0 ≤ rz4 ∧ rz4 < 134217728 := by omega
  generalize ery3 : rz3 - rz3 / 67108864 * 67108864 = ry3
  have hry3 : 0 ≤ ry3 ∧ ry3 < 67108864 := by omega
  have Erz4 := hide erz4
  have Ery3 := hide ery3
  clear erz4 ery3 hrz3 hqy4
  rw [rounds_succ]; go_wp2
  generalize erz5 : qy5 + rz4 / 67108864 = rz5
  have hrz5 : 0 ≤ rz5 ∧ rz5 < 134217728 := by omega
  generalize ery4 : rz4 - rz4 / 67108864 * 67108864 = ry4
  have hry4 : 0 ≤ ry4 ∧ ry4 < 67108864 := by omega
  have Erz5 := hide erz5
  have Ery4 := hide ery4
  clear erz5 ery4 hrz4 hqy5
  rw [rounds_succ]; go_wp2
  generalize erz6 : qy6 + rz5 / 67108864 = rz6
  have hrz6 : 0 ≤ rz6 ∧ rz6 < 134217728 := by omega
  generalize ery5 : rz5 - rz5 / 67108864 * 67108864 = ry5
  have hry5 : 0 ≤ ry5 ∧ ry5 < 67108864 := by omega
  have Erz6 := hide erz6
  have Ery5 := hide ery5
  clear erz6 ery5 hrz5 hqy6
  rw [rounds_succ]; go_wp2
  generalize erz7 : qy7 + rz6 / 67108864 = rz7
  have hrz7 : 0 ≤ rz7 ∧ rz7 < 134217728 := by omega
  generalize ery6 : rz6 - rz6 / 67108864 * 67108864 = ry6
  have hry6 : 0 ≤ ry6 ∧ ry6 < 67108864 := by omega
  have Erz7 := hide erz7
  have Ery6 := hide ery6
  clear erz7 ery6 hrz6 hqy7
  rw [rounds_succ]; go_wp2
  generalize erz8 : qy8 + rz7 / 67108864 = rz8
  have hrz8 : 0 ≤ rz8 ∧ rz8 < 134217728 := by omega
  generalize ery7 : rz7 - rz7 / 67108864 * 67108864 = ry7
  have hry7 : 0 ≤ ry7 ∧ ry7 < 67108864 := by omega
  have Erz8 := hide erz8
  have Ery7 := hide ery7
  clear erz8 ery7 hrz7 hqy8
  rw [rounds_succ]; go_wp2
  generalize erz9 : qz9 + rz8 / 67108864 = rz9
  have hrz9 : 0 ≤ rz9 ∧ rz9 < 2097156 := by omega
  generalize ery8 : rz8 - rz8 / 67108864 * 67108864 = ry8
  have hry8 : 0 ≤ ry8 ∧ ry8 < 67108864 := by omega
  have Erz9 := hide erz9
  have Ery8 := hide ery8
  clear erz9 ery8 hrz8 hqz9
  have rM := hide (chain_math (unhide Erz1) (unhide Erz2) (unhide Erz3) (unhide Erz4) (unhide Erz5) (unhide Erz6) (unhide Erz7) (unhide Erz8) (unhide Erz9) (unhide Ery0) (unhide Ery1) (unhide Ery2) (unhide Ery3) (unhide Ery4) (unhide Ery5) (unhide Ery6) (unhide Ery7) (unhide Ery8))
  clear Erz1 Ery0 Erz2 Ery1 Erz3 Ery2 Erz4 Ery3 Erz5 Ery4 Erz6 Ery5 Erz7 Ery6 Erz8 Ery7 Erz9 Ery8
  have hm32 := make32
  rw [rounds_succ]
  have CM := hide (two_math (split9 y0 y1 y2 y3 y4 y5 y6 y7 y8 y9) (low9 (unhide HY).1 (unhide HY).2.1 (unhide HY).2.2.1 (unhide HY).2.2.2.1 (unhide HY).2.2.2.2.1 (unhide HY).2.2.2.2.2.1 (unhide HY).2.2.2.2.2.2.1 (unhide HY).2.2.2.2.2.2.2.1 (unhide HY).2.2.2.2.2.2.2.2) (unhide pOH) (by rw [← unhide pM, unhide pW]) (split9 py0 py1 py2 py3 py4 py5 py6 py7 py8 pz9) (low9 (unhide HP).1 (unhide HP).2.1 (unhide HP).2.2.1 (unhide HP).2.2.2.1 (unhide HP).2.2.2.2.1 (unhide HP).2.2.2.2.2.1 (unhide HP).2.2.2.2.2.2.1 (unhide HP).2.2.2.2.2.2.2.1 (unhide HP).2.2.2.2.2.2.2.2) (by rw [← unhide qM, unhide qW]) (split9 qy0 qy1 qy2 qy3 qy4 qy5 qy6 qy7 qy8 qz9) (low9 (unhide DX).1 (unhide DX).2.1 (unhide DX).2.2.1 (unhide DX).2.2.2.1 (unhide DX).2.2.2.2.1 (unhide DX).2.2.2.2.2.1 (unhide DX).2.2.2.2.2.2.1 (unhide DX).2.2.2.2.2.2.2.1 (unhide DX).2.2.2.2.2.2.2.2.1) (unhide DX).2.2.2.2.2.2.2.2.2.1)
  have RM := hide (show V10 qy0 qy1 qy2 qy3 qy4 qy5 qy6 qy7 qy8 qz9 + 19 = V10 ry0 ry1 ry2 ry3 ry4 ry5 ry6 ry7 ry8 0 + 27606985387162255149739023449108101809804435888681546220650096895197184 * rz9 by rw [← split9, ← unhide rM]; have := unhide ERT; unfold V10; omega)
  have RL := hide (low9 hry0 hry1 hry2 hry3 hry4 hry5 hry6 hry7 hry8)
  have XM := hide (show V10 x0 x1 x2 x3 x4 x5 x6 x7 x8 x9 = V10 qy0 qy1 qy2 qy3 qy4 qy5 qy6 qy7 qy8 qz9 + pInt * (q + y9 / 2097152 + pz9 / 2097152) by
    have h1 := unhide HQ
    have h2 := unhide pW
    have h3 := unhide pM
    have h4 := unhide qW
    have h5 := unhide qM
    rw [Int.mul_add, Int.mul_add]; omega)
  by_cases hc : 0 < rz9 / 2097152
  · have HC := hide hc
    have c9 : (rowL w3.drew g2 3 .i64 [ry0, ry1, ry2, ry3, ry4, ry5, ry6, ry7, ry8, rz9] rest2).cell? ⟨g2, 9, none⟩ = some (.int .i64 rz9) := cell_row _ _ _ _ _ _ 9 (by simp) hk2
    have f9 : (rowL w3.drew g2 3 .i64 [ry0, ry1, ry2, ry3, ry4, ry5, ry6, ry7, ry8, rz9] rest2).frozen? ⟨g2, 9, none⟩ = false := frozen_row _ _ _ _ _ _ 9 hk2
    have s9 : ∀ v : Int, (rowL w3.drew g2 3 .i64 [ry0, ry1, ry2, ry3, ry4, ry5, ry6, ry7, ry8, rz9] rest2).setCell ⟨g2, 9, none⟩ (.int .i64 v) = rowL w3.drew g2 3 .i64 [ry0, ry1, ry2, ry3, ry4, ry5, ry6, ry7, ry8, v] rest2 := fun v => set_row _ _ _ _ _ _ 9 v (by simp) hk2
    go_wp2
    go_region
    go_wp2
    clear hm32 hc c9 f9 s9
    generalize eru : rz9 - rz9 / 2097152 * 2097152 = ru
    have OM := over_math (unhide CM).1 (unhide RM) (unhide RL) (unhide HC)
    have DIG : In26 ry0 ry1 ry2 ry3 ry4 ry5 ry6 ry7 ry8 ru := ⟨hry0, hry1, hry2, hry3, hry4, hry5, hry6, hry7, hry8, by rw [← eru]; exact OM.2⟩
    have VAL := hide (show V10 ry0 ry1 ry2 ry3 ry4 ry5 ry6 ry7 ry8 ru = V10 x0 x1 x2 x3 x4 x5 x6 x7 x8 x9 % pInt by rw [split9, ← eru, OM.1, unhide XM, Int.add_mul_emod_self_left])
    have HC2 := hide (unhide CM).1
    clear OM
    have HROW : (rowL w3.drew g2 3 .i64 [ry0, ry1, ry2, ry3, ry4, ry5, ry6, ry7, ry8, ru] rest2).heap[g2]? = some (rowObj 3 .i64 [ry0, ry1, ry2, ry3, ry4, ry5, ry6, ry7, ry8, ru] rest2) := get_row _ _ _ _ _ _ hk2
    have HBX : Below w.heap.size w (rowL w3.drew g2 3 .i64 [ry0, ry1, ry2, ry3, ry4, ry5, ry6, ry7, ry8, ru] rest2) := below_row _ _ _ _ _ _ (unhide HB3).drew (by have := (unhide HB1).size; omega)
    generalize hA : World.alloc (rowL w3.drew g2 3 .i64 [ry0, ry1, ry2, ry3, ry4, ry5, ry6, ry7, ry8, ru] rest2) (Obj.cells #[.int .u8 0, .int .u8 0, .int .u8 0, .int .u8 0, .int .u8 0, .int .u8 0, .int .u8 0, .int .u8 0, .int .u8 0, .int .u8 0, .int .u8 0, .int .u8 0, .int .u8 0, .int .u8 0, .int .u8 0, .int .u8 0, .int .u8 0, .int .u8 0, .int .u8 0, .int .u8 0, .int .u8 0, .int .u8 0, .int .u8 0, .int .u8 0, .int .u8 0, .int .u8 0, .int .u8 0, .int .u8 0, .int .u8 0, .int .u8 0, .int .u8 0, .int .u8 0] 5) = A1
    have hsz : w3.heap.size < A1.heap.size := by rw [← hA, World.size_alloc, size_row]; exact Nat.lt_succ_self _
    have hz : A1.heap[w3.heap.size]? = some (rowObj 5 .u8 (List.replicate 32 0) []) := by rw [← hA, show w3.heap.size = (World.heap (rowL w3.drew g2 3 .i64 [ry0, ry1, ry2, ry3, ry4, ry5, ry6, ry7, ry8, ru] rest2)).size from (size_row _ _ _ _ _ _).symm, heap_alloc_new]; rfl
    have hgx : A1.heap[g2]? = some (rowObj 3 .i64 [ry0, ry1, ry2, ry3, ry4, ry5, ry6, ry7, ry8, ru] rest2) := by rw [← hA, heap_alloc_old _ _ (by rw [size_row]; assumption)]; exact HROW
    have hbA : Below w.heap.size w A1 := by rw [← hA]; exact (HBX).alloc (by rw [size_row]; have := (unhide HB3).size; exact this) _
    have hne : g2 ≠ w3.heap.size := by omega
    have HGX := hide hgx
    have HBA := hide hbA
    have EA := hide (row_same _ _ _ _ _ _ hz).symm
    clear hA hgx hbA hz
    obtain ⟨nV, hnV, hdig⟩ := digits_of DIG
    have HD := hide hdig
    have HN := hide (show nV < 2 ^ 255 by have h1 := unhide VAL; have h2 := unhide HC2; rw [hnV] at h1; have h3 : (nV : Int) < 57896044618658097711785492504343953926634992332820282019728792003956564819968 := (by rw [h1]; unfold pInt; omega); have h4 : (2 : Nat) ^ 255 = 57896044618658097711785492504343953926634992332820282019728792003956564819968 := (by decide); omega)
    have HV := hide hnV
    clear hdig hnV
    rw [unhide EA]
    clear EA
    go_loopw [12] (fun c wr => ∃ k : Nat, k ≤ 255 ∧ c = .int .i64 k ∧ wr = rowL A1 w3.heap.size 5 .u8 (digI 8 32 nV k) []) (fun c _ => 255 - (intOf c).toNat)
    case atStart => exact ⟨0, by omega, rfl, by rw [digI_zero]⟩
    case round =>
      obtain ⟨k, hk, rfl, rfl⟩ := hrel
      by_cases hlt : k < 255
      · have hq : k / 26 < 10 := by omega
        have hq8 : k / 8 < 32 := by omega
        have hl := digI_len 8 32 nV k
        have hcx := row_cell (unhide HGX) (k / 26) (by simpa using hq)
        rw [unhide HD (k / 26) hq] at hcx
        have hb := bit_nat (nV / 2 ^ (26 * (k / 26)) % 2 ^ 26) (k % 26) (Nat.lt_of_lt_of_le (Nat.mod_lt _ (by decide)) (by decide))
        rw [bit_at 26 nV k (by decide)] at hb
        generalize nV / 2 ^ (26 * (k / 26)) % 2 ^ 26 = Dn at *
        have hd := digI_bd 8 32 nV k hq8
        have hp := pow_bd k 8 7 (by omega)
        cases ht : nV.testBit k with
        | true =>
          have S := hide (digI_step 8 32 nV k (by omega) hq8 ht)
          rw [ht] at hb
          clear ht
          generalize digI 8 32 nV k = zs at *
          have EO := hide (or8 zs (k / 8) (k % 8) (by omega) hd)
          go_wp2_with fail
          go_roundw
          case rel => exact ⟨k + 1, by omega, by go_num, by rw [unhide S, unhide EO]⟩
          case measure => simp [intOf]; omega
        | false =>
          have S := hide (digI_stay 8 32 nV k ht)
          rw [ht] at hb
          clear ht
          generalize digI 8 32 nV k = zs at *
          go_wp2_with fail
          go_roundw
          case rel => exact ⟨k + 1, by omega, by go_num, by rw [unhide S]⟩
          case measure => simp [intOf]; omega
      · obtain rfl : k = 255 := by omega
        go_wp2
        rw [run_convert_bytes_arg _ 30 5 Try.underlying30 Try.underlying5 w3.heap.size 0 32 32 (digI 8 32 nV 255) (digI_len _ _ _ _) (fun i hi => by rw [Nat.zero_add]; exact cell_row _ _ _ _ _ _ _ (by rw [digI_len]; exact hi) hsz) 9 Try.underlying9]
        go_wp2
        go_ret
        refine ⟨?_, below_row _ _ _ _ _ _ (unhide HBA) (unhide HB3).size⟩
        show Ending.returned (.string (strOfNums _)) = _
        rw [enc_dig nV (unhide HN), ← unhide HV, unhide VAL]
  · have HC := hide hc
    go_wp2
    clear hm32 hc
    have DIG : In26 qy0 qy1 qy2 qy3 qy4 qy5 qy6 qy7 qy8 qz9 := by
      have h9 := (unhide CM).2
      obtain ⟨k0, k1, k2, k3, k4, k5, k6, k7, k8, k9⟩ := unhide DX
      exact ⟨k0, k1, k2, k3, k4, k5, k6, k7, k8, k9.1, by omega⟩
    have VAL := hide (show V10 qy0 qy1 qy2 qy3 qy4 qy5 qy6 qy7 qy8 qz9 = V10 x0 x1 x2 x3 x4 x5 x6 x7 x8 x9 % pInt by rw [unhide XM, Int.add_mul_emod_self_left]; exact under_math (unhide CM).1 (unhide RM) (unhide RL) (unhide HC))
    have HC2 := hide (unhide CM).1
    have HROW : (rowL w3 g2 3 .i64 [ry0, ry1, ry2, ry3, ry4, ry5, ry6, ry7, ry8, rz9] rest2).heap[g]? = some (rowObj 3 .i64 [qy0, qy1, qy2, qy3, qy4, qy5, qy6, qy7, qy8, qz9] rest1) := (get_row_other _ _ _ _ _ _ _ hgg).trans (unhide HX3)
    have HBX : Below w.heap.size w (rowL w3 g2 3 .i64 [ry0, ry1, ry2, ry3, ry4, ry5, ry6, ry7, ry8, rz9] rest2) := below_row _ _ _ _ _ _ (unhide HB3) (by have := (unhide HB1).size; omega)
    generalize hA : World.alloc (rowL w3 g2 3 .i64 [ry0, ry1, ry2, ry3, ry4, ry5, ry6, ry7, ry8, rz9] rest2) (Obj.cells #[.int .u8 0, .int .u8 0, .int .u8 0, .int .u8 0, .int .u8 0, .int .u8 0, .int .u8 0, .int .u8 0, .int .u8 0, .int .u8 0, .int .u8 0, .int .u8 0, .int .u8 0, .int .u8 0, .int .u8 0, .int .u8 0, .int .u8 0, .int .u8 0, .int .u8 0, .int .u8 0, .int .u8 0, .int .u8 0, .int .u8 0, .int .u8 0, .int .u8 0, .int .u8 0, .int .u8 0, .int .u8 0, .int .u8 0, .int .u8 0, .int .u8 0, .int .u8 0] 5) = A1
    have hsz : w3.heap.size < A1.heap.size := by rw [← hA, World.size_alloc, size_row]; exact Nat.lt_succ_self _
    have hz : A1.heap[w3.heap.size]? = some (rowObj 5 .u8 (List.replicate 32 0) []) := by rw [← hA, show w3.heap.size = (World.heap (rowL w3 g2 3 .i64 [ry0, ry1, ry2, ry3, ry4, ry5, ry6, ry7, ry8, rz9] rest2)).size from (size_row _ _ _ _ _ _).symm, heap_alloc_new]; rfl
    have hgx : A1.heap[g]? = some (rowObj 3 .i64 [qy0, qy1, qy2, qy3, qy4, qy5, qy6, qy7, qy8, qz9] rest1) := by rw [← hA, heap_alloc_old _ _ (by rw [size_row]; assumption)]; exact HROW
    have hbA : Below w.heap.size w A1 := by rw [← hA]; exact (HBX).alloc (by rw [size_row]; have := (unhide HB3).size; exact this) _
    have hne : g ≠ w3.heap.size := by omega
    have HGX := hide hgx
    have HBA := hide hbA
    have EA := hide (row_same _ _ _ _ _ _ hz).symm
    clear hA hgx hbA hz
    obtain ⟨nV, hnV, hdig⟩ := digits_of DIG
    have HD := hide hdig
    have HN := hide (show nV < 2 ^ 255 by have h1 := unhide VAL; have h2 := unhide HC2; rw [hnV] at h1; have h3 : (nV : Int) < 57896044618658097711785492504343953926634992332820282019728792003956564819968 := (by rw [h1]; unfold pInt; omega); have h4 : (2 : Nat) ^ 255 = 57896044618658097711785492504343953926634992332820282019728792003956564819968 := (by decide); omega)
    have HV := hide hnV
    clear hdig hnV
    rw [unhide EA]
    clear EA
    go_loopw [12] (fun c wr => ∃ k : Nat, k ≤ 255 ∧ c = .int .i64 k ∧ wr = rowL A1 w3.heap.size 5 .u8 (digI 8 32 nV k) []) (fun c _ => 255 - (intOf c).toNat)
    case atStart => exact ⟨0, by omega, rfl, by rw [digI_zero]⟩
    case round =>
      obtain ⟨k, hk, rfl, rfl⟩ := hrel
      by_cases hlt : k < 255
      · have hq : k / 26 < 10 := by omega
        have hq8 : k / 8 < 32 := by omega
        have hl := digI_len 8 32 nV k
        have hcx := row_cell (unhide HGX) (k / 26) (by simpa using hq)
        rw [unhide HD (k / 26) hq] at hcx
        have hb := bit_nat (nV / 2 ^ (26 * (k / 26)) % 2 ^ 26) (k % 26) (Nat.lt_of_lt_of_le (Nat.mod_lt _ (by decide)) (by decide))
        rw [bit_at 26 nV k (by decide)] at hb
        generalize nV / 2 ^ (26 * (k / 26)) % 2 ^ 26 = Dn at *
        have hd := digI_bd 8 32 nV k hq8
        have hp := pow_bd k 8 7 (by omega)
        cases ht : nV.testBit k with
        | true =>
          have S := hide (digI_step 8 32 nV k (by omega) hq8 ht)
          rw [ht] at hb
          clear ht
          generalize digI 8 32 nV k = zs at *
          have EO := hide (or8 zs (k / 8) (k % 8) (by omega) hd)
          go_wp2_with fail
          go_roundw
          case rel => exact ⟨k + 1, by omega, by go_num, by rw [unhide S, unhide EO]⟩
          case measure => simp [intOf]; omega
        | false =>
          have S := hide (digI_stay 8 32 nV k ht)
          rw [ht] at hb
          clear ht
          generalize digI 8 32 nV k = zs at *
          go_wp2_with fail
          go_roundw
          case rel => exact ⟨k + 1, by omega, by go_num, by rw [unhide S]⟩
          case measure => simp [intOf]; omega
      · obtain rfl : k = 255 := by omega
        go_wp2
        rw [run_convert_bytes_arg _ 30 5 Try.underlying30 Try.underlying5 w3.heap.size 0 32 32 (digI 8 32 nV 255) (digI_len _ _ _ _) (fun i hi => by rw [Nat.zero_add]; exact cell_row _ _ _ _ _ _ _ (by rw [digI_len]; exact hi) hsz) 9 Try.underlying9]
        go_wp2
        go_ret
        refine ⟨?_, below_row _ _ _ _ _ _ (unhide HBA) (unhide HB3).size⟩
        show Ending.returned (.string (strOfNums _)) = _
        rw [enc_dig nV (unhide HN), ← unhide HV, unhide VAL]
end Go.Proofs.Ytncplefjokbbjaa
