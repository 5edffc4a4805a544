/- The law of Fermat's little theorem and of powers, walked. -/
import Derived.Test.YtecphhfdleaklaaFSrc
import Derived.Test.YtecphhfdleaklaaFEl
import Derived.Test.YtecphhfdleaklaaAt
import Derived.Test.YtecphhfdleaklaaOpPow
namespace Go.Proofs.Ytecphhfdleaklaa
open Go.RowKit
set_option maxHeartbeats 8000000
set_option maxRecDepth 20000
def primeB : ByteArray := strOfNums (((List.replicate 32 255).set 0 237).set 31 127)
theorem prime_size : primeB.size = 32 := rfl
theorem prime_num : numN primeB = 57896044618658097711785492504343953926634992332820282019728792003956564819949 := by decide +kernel
def smallB (n : Nat) : ByteArray := strOfNums ((n : Int) :: List.replicate 31 0)
theorem small_size (n : Nat) : (smallB n).size = 32 := by unfold smallB; rw [strOfNums_size]; simp
theorem small_num (n : Nat) (h : n < 200) : numN (smallB n) = n := by
  have key : ∀ k : Fin 200, numN (smallB k.val) = k.val := by decide +kernel
  exact key ⟨n, h⟩
theorem el_powers (a : Int) (n m : Nat) : El (a ^ n * a ^ m) = El (a ^ (n + m)) := by rw [Int.pow_add]
theorem row_small (n : Nat) : (.cells ((Array.replicate 32 (Value.int .u8 0)).setIfInBounds 0 (.int .u8 (n : Int))) 5 : Obj) = .cells ((((n : Int) :: List.replicate 31 0)).map (Value.int .u8)).toArray 5 := rfl
theorem fill_step (k : Nat) (h : k < 32) : (List.replicate k (255 : Int) ++ List.replicate (32 - k) 0).set k 255 = List.replicate (k + 1) (255 : Int) ++ List.replicate (32 - (k + 1)) 0 := by
  rw [show 32 - k = (32 - (k + 1)) + 1 by omega, List.replicate_succ, List.set_append_right _ _ (by simp)]
  simp [List.replicate_succ']
theorem powV_prime (a : Int) : PowV (El a) primeB = .tuple #[.string (El a), .int .i64 0] := by
  rw [powV_El a primeB prime_size, prime_num, fermat_all]
theorem powV_small (a : Int) (n : Nat) (h : n < 200) : PowV (El a) (smallB n) = .tuple #[.string (El (a ^ n)), .int .i64 0] := by
  rw [powV_El a _ (small_size n), small_num n h]
theorem conv_small (Y : World) (b n : Nat) (h : Y.heap[b]? = some (.cells ((Array.replicate 32 (Value.int .u8 0)).setIfInBounds 0 (.int .u8 (n : Int))) 5)) : (convert 22 9 (.slice (some ⟨b, 0, none⟩) 32 32)).run Try.prog Y = .ok (.string (smallB n)) Y := by
  rw [row_small] at h
  exact conv_at Y b 32 _ h (by simp)
theorem law_Fermat (w : World) (A : Option Addr) (n cap : Nat) (hn : n ≤ maxLen) (hA : codeAt w A n) (B : Option Addr) (m cbp : Nat) (hm : m ≤ maxLen) (hB : codeAt w B m) :
    Calls Try.prog 4 #[.slice A n cap, .slice B m cbp] w fun e w' => e = .returned (.bool true) ∧ Below w.heap.size w w' := by
  have hn' := hn
  have hm' := hm
  unfold maxLen at hn' hm'
  by_cases h1 : n ≤ 1048576
  · by_cases h2 : m ≤ 1048576
    · have HA := hide hA
      have HB := hide hB
      have Hn := hide hn
      clear hA hB hn hm
      have m32 := make32'
      go_enter Try.func4, Try.ntmps4
      go_wp2_with fail
      refine (fieldOf2_any w A n cap (unhide Hn) (unhide HA)).mono ?_
      rintro e w1 ⟨a, rfl, hb1⟩
      rw [show enc (a % pInt) = El a from rfl]
      have b1 := hide hb1
      have HB1 := hide (codeAt_below (unhide HB) hb1)
      clear hb1 HB HA
      go_wp2
      generalize hO : Obj.cells (Array.replicate 32 (.int .u8 0)) 5 = O
      have hx : w1.alloc O = rowL (w1.alloc O) w1.heap.size 5 .u8 (List.replicate 0 255 ++ List.replicate (32 - 0) 0) [] := (row_same _ _ _ _ _ _ (by rw [heap_alloc_new, ← hO]; rfl)).symm
      have HO := hide hO
      clear hO
      go_loopw [7] (fun c wr => ∃ k : Nat, k ≤ 32 ∧ c = .int .i64 k ∧ wr = rowL (w1.alloc O) w1.heap.size 5 .u8 (List.replicate k 255 ++ List.replicate (32 - k) 0) []) (fun c _ => 32 - (intOf c).toNat)
      case atStart => exact ⟨0, by omega, rfl, hx⟩
      case round =>
        clear hx
        obtain ⟨k, hk, rfl, rfl⟩ := hrel
        by_cases hlt : k < 32
        · have E := hide (fill_step k hlt)
          have hl : (List.replicate k (255 : Int) ++ List.replicate (32 - k) 0).length = 32 := by simp; omega
          generalize List.replicate k (255 : Int) ++ List.replicate (32 - k) 0 = xs at *
          go_wp2
          go_roundw
          case rel => exact ⟨k + 1, by omega, by go_num, by rw [unhide E]⟩
          case measure => simp [intOf]; omega
        · obtain rfl : k = 32 := by omega
          have hl : (List.replicate 32 (255 : Int) ++ List.replicate (32 - 32) 0).length = 32 := rfl
          have E := hide (show strOfNums (((List.replicate 32 (255 : Int) ++ List.replicate (32 - 32) 0).set 0 237).set 31 127) = primeB from rfl)
          generalize List.replicate 32 (255 : Int) ++ List.replicate (32 - 32) 0 = xs at *
          have cv := conv_rowL (w1.alloc O) w1.heap.size 32 32 ((xs.set 0 237).set 31 127) [] (by simp) (by simpa using hl)
          go_wp2_with fail
          rw [unhide E]
          refine (impl_Pow (El a) primeB _).mono ?_
          rintro e w2 ⟨rfl, hb2⟩
          rw [powV_prime]
          have k2 : Below w1.heap.size w1 w2 := (below_row _ _ _ _ _ _ ((Below.refl _ _).alloc (Nat.le_refl _) _) (Nat.le_refl _)).trans (hb2.mono (by rw [size_row]; simp))
          have b2 := hide ((unhide b1).trans (k2.mono (unhide b1).size))
          have HB2 := hide (codeAt_below (unhide HB1) k2)
          clear hb2 k2 b1 HB1 cv E hl HO
          go_wp2_with fail
          refine (at_any w2 B m cbp 0 100 h2 (by omega) (by omega) (by omega) (unhide HB2)).mono ?_
          rintro e w3 ⟨x, rfl, hx, hb3⟩
          have b3 := hide ((unhide b2).trans (hb3.mono (unhide b2).size))
          have HB3 := hide (codeAt_below (unhide HB2) hb3)
          clear hb3 b2 HB2
          go_wp2_with fail
          refine (at_any w3 B m cbp 1 100 h2 (by omega) (by omega) (by omega) (unhide HB3)).mono ?_
          rintro e w4 ⟨y, rfl, hy, hb4⟩
          have b4 := hide ((unhide b3).trans (hb4.mono (unhide b3).size))
          clear hb4 b3 HB3
          have qx : (x : Int) < 100 := by omega
          have qy : (y : Int) < 100 := by omega
          have m32 := make32'
          go_wp2_with fail
          have hw : Below w4.heap.size w4 (((w4.alloc (Obj.cells ((Array.replicate 32 (Value.int .u8 0)).setIfInBounds 0 (.int .u8 (x : Int))) 5)).alloc (Obj.cells ((Array.replicate 32 (Value.int .u8 0)).setIfInBounds 0 (.int .u8 (y : Int))) 5)).alloc (Obj.cells ((Array.replicate 32 (Value.int .u8 0)).setIfInBounds 0 (.int .u8 ((x : Int) + (y : Int)))) 5)) := by go_grown
          have hX : (((w4.alloc (Obj.cells ((Array.replicate 32 (Value.int .u8 0)).setIfInBounds 0 (.int .u8 (x : Int))) 5)).alloc (Obj.cells ((Array.replicate 32 (Value.int .u8 0)).setIfInBounds 0 (.int .u8 (y : Int))) 5)).alloc (Obj.cells ((Array.replicate 32 (Value.int .u8 0)).setIfInBounds 0 (.int .u8 ((x : Int) + (y : Int)))) 5)).heap[w4.heap.size]? = some (Obj.cells ((Array.replicate 32 (Value.int .u8 0)).setIfInBounds 0 (.int .u8 (x : Int))) 5) := by
            rw [at_old _ _ _ (by simp; omega), at_old _ _ _ (by simp), at_new _ _ _ rfl]
          have hY : (((w4.alloc (Obj.cells ((Array.replicate 32 (Value.int .u8 0)).setIfInBounds 0 (.int .u8 (x : Int))) 5)).alloc (Obj.cells ((Array.replicate 32 (Value.int .u8 0)).setIfInBounds 0 (.int .u8 (y : Int))) 5)).alloc (Obj.cells ((Array.replicate 32 (Value.int .u8 0)).setIfInBounds 0 (.int .u8 ((x : Int) + (y : Int)))) 5)).heap[w4.heap.size + 1]? = some (Obj.cells ((Array.replicate 32 (Value.int .u8 0)).setIfInBounds 0 (.int .u8 (y : Int))) 5) := by
            rw [at_old _ _ _ (by simp), at_new _ _ _ (by simp)]
          have hZ : (((w4.alloc (Obj.cells ((Array.replicate 32 (Value.int .u8 0)).setIfInBounds 0 (.int .u8 (x : Int))) 5)).alloc (Obj.cells ((Array.replicate 32 (Value.int .u8 0)).setIfInBounds 0 (.int .u8 (y : Int))) 5)).alloc (Obj.cells ((Array.replicate 32 (Value.int .u8 0)).setIfInBounds 0 (.int .u8 ((x : Int) + (y : Int)))) 5)).heap[w4.heap.size + 1 + 1]? = some (Obj.cells ((Array.replicate 32 (Value.int .u8 0)).setIfInBounds 0 (.int .u8 ((x + y : Nat) : Int))) 5) := by
            rw [at_new _ _ _ (by simp), Int.natCast_add]
          generalize (((w4.alloc (Obj.cells ((Array.replicate 32 (Value.int .u8 0)).setIfInBounds 0 (.int .u8 (x : Int))) 5)).alloc (Obj.cells ((Array.replicate 32 (Value.int .u8 0)).setIfInBounds 0 (.int .u8 (y : Int))) 5)).alloc (Obj.cells ((Array.replicate 32 (Value.int .u8 0)).setIfInBounds 0 (.int .u8 ((x : Int) + (y : Int)))) 5)) = w5 at *
          have b5 := hide ((unhide b4).trans (hw.mono (unhide b4).size))
          have HX5 := hide hX
          have HY5 := hide hY
          have HZ5 := hide hZ
          have LX5 := hide (Array.getElem?_eq_some_iff.1 hX).1
          have LY5 := hide (Array.getElem?_eq_some_iff.1 hY).1
          have LZ5 := hide (Array.getElem?_eq_some_iff.1 hZ).1
          have PX := hide (powV_small a x (by omega))
          have PY := hide (powV_small a y (by omega))
          have PZ := hide (powV_small a (x + y) (by omega))
          clear hw hX hY hZ b4 m32 qx qy hx hy
          have cX := conv_small w5 _ _ (unhide HX5)
          rw [cX]
          go_wp2_with fail
          refine (impl_Pow (El a) (smallB x) _).mono ?_
          rintro e w6 ⟨rfl, hb6⟩
          rw [unhide PX]
          have b6 := hide ((unhide b5).trans (hb6.mono (unhide b5).size))
          have HY6 := hide ((hb6.block _ (unhide LY5)).trans (unhide HY5))
          have LY6 := hide (Nat.lt_of_lt_of_le (unhide LY5) hb6.size)
          have HZ6 := hide ((hb6.block _ (unhide LZ5)).trans (unhide HZ5))
          have LZ6 := hide (Nat.lt_of_lt_of_le (unhide LZ5) hb6.size)
          clear hb6 b5 cX HX5 LX5 HY5 LY5 HZ5 LZ5
          have cY := conv_small w6 _ _ (unhide HY6)
          go_wp2_with fail
          refine (impl_Pow (El a) (smallB y) _).mono ?_
          rintro e w7 ⟨rfl, hb7⟩
          rw [unhide PY]
          have b7 := hide ((unhide b6).trans (hb7.mono (unhide b6).size))
          have HZ7 := hide ((hb7.block _ (unhide LZ6)).trans (unhide HZ6))
          have LZ7 := hide (Nat.lt_of_lt_of_le (unhide LZ6) hb7.size)
          clear hb7 b6 cY HY6 LY6 HZ6 LZ6
          have cZ := conv_small w7 _ _ (unhide HZ7)
          go_wp2_with fail
          refine (impl_Pow (El a) (smallB (x + y)) _).mono ?_
          rintro e w8 ⟨rfl, hb8⟩
          rw [unhide PZ]
          have b8 := hide ((unhide b7).trans (hb8.mono (unhide b7).size))
          have HZ8 := hide ((hb8.block _ (unhide LZ7)).trans (unhide HZ7))
          have LZ8 := hide (Nat.lt_of_lt_of_le (unhide LZ7) hb8.size)
          clear hb8 b7 cZ HZ7 LZ7
          go_wp2_with fail
          refine (impl_Mul (El (a ^ x)) (El (a ^ y)) _).mono ?_
          rintro e w9 ⟨rfl, hb9⟩
          rw [mulV_El, el_powers]
          have b9 := hide ((unhide b8).trans (hb9.mono (unhide b8).size))
          have HZ9 := hide ((hb9.block _ (unhide LZ8)).trans (unhide HZ8))
          clear hb9 b8 HZ8 LZ8
          have cZ := conv_small w9 _ _ (unhide HZ9)
          go_wp2_with fail
          refine (spec_Pow (El a) (smallB (x + y)) (El_max a) _).mono ?_
          rintro e w10 ⟨rfl, hb10⟩
          rw [unhide PZ]
          have b10 := hide ((unhide b9).trans (hb10.mono (unhide b9).size))
          clear hb10 b9 cZ HZ9
          go_wp2
          go_ret
          exact ⟨rfl, unhide b10⟩
    · go_enter Try.func4, Try.ntmps4
      go_wp2
      go_ret
      exact ⟨rfl, Below.refl _ _⟩
  · go_enter Try.func4, Try.ntmps4
    go_wp2
    go_ret
    exact ⟨rfl, Below.refl _ _⟩
end Go.Proofs.Ytecphhfdleaklaa
