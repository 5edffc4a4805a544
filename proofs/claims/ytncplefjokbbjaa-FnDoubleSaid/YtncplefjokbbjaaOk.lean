/- Contracts of FieldOK on both sides, of anyLong and of fieldCode. -/
import Derived.Test.YtncplefjokbbjaaSpecC
import Derived.Test.YtncplefjokbbjaaImplC
import Derived.Test.YtncplefjokbbjaaImplD
import Derived.Test.YtncplefjokbbjaaEnc
namespace Go.Proofs.Ytncplefjokbbjaa
open Go.RowKit
set_option maxHeartbeats 800000
theorem text_eq {a b : ByteArray} (h : a.toList = b.toList) : a = b := by
  rw [Go.ByteArray.toList_eq, Go.ByteArray.toList_eq] at h
  have := Array.ext' h
  cases a; cases b; simp_all
theorem in_car {m0 m1 m2 m3 m4 : Int} (h : In51 m0 m1 m2 m3 m4) : Car m0 m1 m2 m3 m4 := by
  obtain ⟨h0, h1, h2, h3, h4⟩ := h
  exact ⟨by omega, h1, h2, h3, h4⟩
/-- the bytes of what a text of thirty-two bytes is read as -/
def redB (s : ByteArray) : ByteArray := enc (((numN s : Nat) : Int) % 57896044618658097711785492504343953926634992332820282019728792003956564819968 % pInt)
theorem red_ok {s : ByteArray} (h : s.size = 32) : ((redB s).toList == s.toList) = okB s := by
  rw [Bool.eq_iff_iff]
  simp only [beq_iff_eq, okB, decide_eq_true_eq]
  constructor
  · intro e; exact ⟨h, (same_iff s h).1 (text_eq e)⟩
  · rintro ⟨_, e⟩; exact congrArg ByteArray.toList ((same_iff s h).2 e)
theorem ok_size {s : ByteArray} (h : ¬ s.size = 32) : okB s = false := by simp [okB, h]
theorem ten_of (n : Nat) : ∃ m0 m1 m2 m3 m4 m5 m6 m7 m8 m9 : Int, digI 26 10 n 255 = [m0, m1, m2, m3, m4, m5, m6, m7, m8, m9] ∧ In26 m0 m1 m2 m3 m4 m5 m6 m7 m8 m9 ∧ V10 m0 m1 m2 m3 m4 m5 m6 m7 m8 m9 = (n : Int) % 57896044618658097711785492504343953926634992332820282019728792003956564819968 := by
  refine ⟨((n % 2 ^ 255 / 1 % 2 ^ 26 : Nat) : Int), ((n % 2 ^ 255 / 67108864 % 2 ^ 26 : Nat) : Int), ((n % 2 ^ 255 / 4503599627370496 % 2 ^ 26 : Nat) : Int), ((n % 2 ^ 255 / 302231454903657293676544 % 2 ^ 26 : Nat) : Int), ((n % 2 ^ 255 / 20282409603651670423947251286016 % 2 ^ 26 : Nat) : Int), ((n % 2 ^ 255 / 1361129467683753853853498429727072845824 % 2 ^ 26 : Nat) : Int), ((n % 2 ^ 255 / 91343852333181432387730302044767688728495783936 % 2 ^ 26 : Nat) : Int), ((n % 2 ^ 255 / 6129982163463555433433388108601236734474956488734408704 % 2 ^ 26 : Nat) : Int), ((n % 2 ^ 255 / 411376139330301510538742295639337626245683966408394965837152256 % 2 ^ 26 : Nat) : Int), ((n % 2 ^ 255 / 27606985387162255149739023449108101809804435888681546220650096895197184 % 2 ^ 26 : Nat) : Int), rfl, ?_, ?_⟩
  · unfold In26; omega
  · unfold V10; omega
theorem near_in {x0 x1 x2 x3 x4 x5 x6 x7 x8 x9 : Int} (h : In26 x0 x1 x2 x3 x4 x5 x6 x7 x8 x9) : Near x0 x1 x2 x3 x4 x5 x6 x7 x8 x9 := by
  obtain ⟨h0, h1, h2, h3, h4, h5, h6, h7, h8, h9⟩ := h
  unfold Near; omega
/-- store of what load gave -/
theorem store_load (s : ByteArray) (w w1 : World) (h : w1 = w.alloc (rowObj 3 .i64 (digI 26 10 (numN s) 255) [])) :
    Calls Try.prog 40 #[.slice (some ⟨w.heap.size, 0, none⟩) 10 10] w1 fun e w' => e = .returned (.string (redB s)) ∧ Below w.heap.size w w' := by
  subst h
  obtain ⟨m0, m1, m2, m3, m4, m5, m6, m7, m8, m9, hm, hin, hv⟩ := ten_of (numN s)
  rw [hm]
  refine (store_any _ _ _ [] m0 m1 m2 m3 m4 m5 m6 m7 m8 m9 (heap_alloc_new _ _) (near_in hin)).mono ?_
  rintro e w2 ⟨rfl, hb⟩
  rw [hv]
  exact ⟨rfl, ((Below.refl _ _).alloc (Nat.le_refl _) _).trans (hb.mono (by simp))⟩
theorem spec_ok (s : ByteArray) (hs : s.size ≤ maxLen) (w : World) : Calls Try.prog 37 #[.string s] w fun e w' => e = .returned (.bool (okB s)) ∧ Below w.heap.size w w' := by
  unfold maxLen at hs
  by_cases hl : s.size ≤ 65536
  · by_cases h : s.size = 32
    · by_cases h31 : ((s[31]'(by omega)).toNat : Int) < 128
      · have HR := hide (red_ok h)
        go_enter Try.func37, Try.ntmps37
        go_wp2_with fail
        refine (load_any s h _).mono ?_
        rintro e w1 ⟨rfl, hw⟩
        have HW := hide hw
        clear hw
        go_wp2_with fail
        refine (store_load s w _ (unhide HW)).mono ?_
        rintro e w2 ⟨rfl, hb⟩
        clear HW
        go_wp2
        go_ret
        exact ⟨ret_bool (unhide HR), hb⟩
      · have HR := hide (show okB s = false by
          unfold okB
          simp only [decide_eq_false_iff_not]
          rintro ⟨_, hp⟩
          have := byte_of s 31 (by omega)
          unfold pN at hp
          omega)
        go_enter Try.func37, Try.ntmps37
        go_wp2
        go_ret
        exact ⟨ret_bool (unhide HR).symm, Below.refl _ _⟩
    · have HR := hide (ok_size h)
      have hd : ((s.size : Int) == 32) = false := by simp; omega
      go_enter Try.func37, Try.ntmps37
      go_wp2
      go_ret
      exact ⟨ret_bool (unhide HR).symm, Below.refl _ _⟩
  · have HR := hide (ok_size (s := s) (by omega))
    go_enter Try.func37, Try.ntmps37
    go_wp2
    go_ret
    exact ⟨ret_bool (unhide HR).symm, Below.refl _ _⟩
theorem impl_ok (s : ByteArray) (w : World) : Calls Try.prog 51 #[.string s] w fun e w' => e = .returned (.bool (okB s)) ∧ Below w.heap.size w w' := by
  by_cases h : s.size = 32
  · have HR := hide (red_ok h)
    go_enter Try.func51, Try.ntmps51
    go_wp2_with fail
    refine (limbsOf_any s h _).mono ?_
    rintro e w1 ⟨⟨m0, m1, m2, m3, m4, rfl, hin, hv⟩, hb⟩
    have HV := hide hv
    clear hv
    go_wp2_with fail
    refine (text_any m0 m1 m2 m3 m4 _ (in_car hin)).mono ?_
    rintro e w2 ⟨rfl, hb2⟩
    rw [unhide HV, show enc (((numN s : Nat) : Int) % 57896044618658097711785492504343953926634992332820282019728792003956564819968 % pInt) = redB s from rfl]
    clear HV
    go_wp2
    go_ret
    exact ⟨ret_bool (unhide HR), hb.trans (hb2.mono hb.size)⟩
  · have HR := hide (ok_size h)
    have hd : ((s.size : Int) == 32) = false := by simp; omega
    go_enter Try.func51, Try.ntmps51
    go_wp2
    go_ret
    exact ⟨ret_bool (unhide HR).symm, Below.refl _ _⟩
end Go.Proofs.Ytncplefjokbbjaa
