/- The law that sums and products keep the laws of a field, walked. -/
import Derived.Test.YtecphhfdleaklaaFSrc
import Derived.Test.YtecphhfdleaklaaFEl
import Derived.Test.YtecphhfdleaklaaJoin
import Derived.Test.YtecphhfdleaklaaOf
namespace Go.Proofs.Ytecphhfdleaklaa
open Go.RowKit
set_option maxHeartbeats 8000000
set_option maxRecDepth 20000
theorem el_back (a b : Int) : El (a + b - b) = El a := by rw [Int.add_sub_cancel]
theorem el_dist (a b c : Int) : El ((a + b) * c) = El (a * c + b * c) := by rw [Int.add_mul]
theorem el_zero_is (a : Int) : ((El a).toList == (strOfNums [0, 0, 0, 0, 0, 0, 0, 0, 0, 0, 0, 0, 0, 0, 0, 0, 0, 0, 0, 0, 0, 0, 0, 0, 0, 0, 0, 0, 0, 0, 0, 0]).toList) = decide (a % pInt = 0) := by
  rw [zero_num _ (El_size a), Bool.eq_iff_iff]
  simp only [decide_eq_true_eq]
  have := El_num a
  omega
theorem law_Field (w : World) (A : Option Addr) (n cap : Nat) (hn : n ≤ maxLen) (hA : codeAt w A n) (B : Option Addr) (m cbp : Nat) (hm : m ≤ maxLen) (hB : codeAt w B m) :
    Calls Try.prog 3 #[.slice A n cap, .slice B m cbp] w fun e w' => e = .returned (.bool true) ∧ Below w.heap.size w w' := by
  have hn' := hn
  have hm' := hm
  unfold maxLen at hn' hm'
  by_cases h1 : n ≤ 1048576
  · by_cases h2 : m ≤ 1048576
    · have HA := hide hA
      have HB := hide hB
      have Hn := hide hn
      have Hm := hide hm
      clear hA hB hn hm
      go_enter Try.func3, Try.ntmps3
      go_wp2_with fail
      refine (fieldOf2_any w A n cap (unhide Hn) (unhide HA)).mono ?_
      rintro e w1 ⟨a, rfl, hb1⟩
      rw [show enc (a % pInt) = El a from rfl]
      have b1 := hide hb1
      have HB1 := hide (codeAt_below (unhide HB) hb1)
      have HA1 := hide (codeAt_below (unhide HA) hb1)
      clear hb1 HB HA
      go_wp2_with fail
      refine (fieldOf2_any w1 B m cbp (unhide Hm) (unhide HB1)).mono ?_
      rintro e w2 ⟨b, rfl, hb2⟩
      rw [show enc (b % pInt) = El b from rfl]
      have b2 := hide ((unhide b1).trans (hb2.mono (unhide b1).size))
      have HB2 := hide (codeAt_below (unhide HB1) hb2)
      have HA2 := hide (codeAt_below (unhide HA1) hb2)
      clear hb2 HB1 HA1 b1
      go_wp2_with (first
        | (at_builtin; refine wpList_append_code _ rfl _ _ rfl w2.heap.size 0 (.slice (some ⟨w2.heap.size, 0, none⟩) 0 0) [] rfl (World.ownsRow_made w2 #[] 0 (Nat.le_refl _) (Nat.zero_le _) rfl) (by simp) ⟨_, _, rfl⟩ B m cbp rfl (codeAt_below (unhide HB2) ((Below.refl _ _).alloc (Nat.le_refl _) _)) (by omega) (by simp) ?_; intro g3 c3 w3 ys3 own3 bd3 gr3; rw [Nat.zero_add] at own3)
        | (at_builtin; refine wpList_append_code _ rfl _ _ rfl w2.heap.size m (.slice (some ⟨g3, 0, none⟩) m c3) ys3 rfl own3 bd3 ⟨_, _, rfl⟩ A n cap rfl (codeAt_below (unhide HA2) (Below.grown ((Below.refl _ w2).alloc (Nat.le_refl _) _) gr3 (by simp) (by simp [Value.ownBlock]))) (by omega) (by have := gr3.size; simp at this; omega) ?_; intro g4 c4 w4 ys4 own4 bd4 gr4))
      have k3 : Below w2.heap.size w2 w3 := Below.grown ((Below.refl _ w2).alloc (Nat.le_refl _) _) gr3 (by simp) (by simp [Value.ownBlock])
      have k4 : Below w2.heap.size w2 w4 := Below.grown k3 gr4 k3.size (fun j hj => (own3.lt j hj).1)
      have b4 := hide ((unhide b2).trans (k4.mono (unhide b2).size))
      obtain ⟨_, hl4, hc4⟩ := own_code own4 bd4 rfl
      have Hl4 := hide hl4
      have Hc4 := hide hc4
      clear k3 k4 gr3 gr4 own3 own4 bd3 bd4 hl4 hc4 HA2 HB2 b2
      go_wp2_with fail
      refine (fieldOf2_any w4 _ _ c4 (unhide Hl4) (unhide Hc4)).mono ?_
      rintro e w5 ⟨c, rfl, hb5⟩
      rw [show enc (c % pInt) = El c from rfl]
      have b5 := hide ((unhide b4).trans (hb5.mono (unhide b4).size))
      clear hb5 b4 Hl4 Hc4 Hn Hm
      have Z := hide (el_zero_is a)
      have M32 := hide make32
      have K := hide El_ok
      go_wp2_with fail
      refine (impl_Add (El a) (El b) _).mono ?_
      rintro e w6 ⟨rfl, hb6⟩
      rw [addV_El]
      have b6 := hide ((unhide b5).trans (hb6.mono (unhide b5).size))
      clear hb6 b5
      go_wp2_with fail
      refine (spec_Add (El a) (El b) (El_max _) (El_max _) _).mono ?_
      rintro e w7 ⟨rfl, hb7⟩
      rw [addV_El]
      have b7 := hide ((unhide b6).trans (hb7.mono (unhide b6).size))
      clear hb7 b6
      go_wp2_with fail
      refine (impl_Sub (El (a + b)) (El b) _).mono ?_
      rintro e w8 ⟨rfl, hb8⟩
      rw [subV_El, el_back]
      have b8 := hide ((unhide b7).trans (hb8.mono (unhide b7).size))
      clear hb8 b7
      go_wp2_with fail
      refine (impl_Mul (El (a + b)) (El c) _).mono ?_
      rintro e w9 ⟨rfl, hb9⟩
      rw [mulV_El, el_dist]
      have b9 := hide ((unhide b8).trans (hb9.mono (unhide b8).size))
      clear hb9 b8
      go_wp2_with fail
      refine (impl_Mul (El a) (El c) _).mono ?_
      rintro e w10 ⟨rfl, hb10⟩
      rw [mulV_El]
      have b10 := hide ((unhide b9).trans (hb10.mono (unhide b9).size))
      clear hb10 b9
      go_wp2_with fail
      refine (impl_Mul (El b) (El c) _).mono ?_
      rintro e w11 ⟨rfl, hb11⟩
      rw [mulV_El]
      have b11 := hide ((unhide b10).trans (hb11.mono (unhide b10).size))
      clear hb11 b10
      go_wp2_with fail
      refine (spec_Mul (El a) (El c) (El_max _) (El_max _) _).mono ?_
      rintro e w12 ⟨rfl, hb12⟩
      rw [mulV_El]
      have b12 := hide ((unhide b11).trans (hb12.mono (unhide b11).size))
      clear hb12 b11
      go_wp2_with fail
      refine (impl_Add (El (a * c)) (El (b * c)) _).mono ?_
      rintro e w13 ⟨rfl, hb13⟩
      rw [addV_El]
      have b13 := hide ((unhide b12).trans (hb13.mono (unhide b12).size))
      clear hb13 b12
      go_wp2_with fail
      refine (impl_ok (El (a * c + b * c)) _).mono ?_
      rintro e w14 ⟨rfl, hb14⟩
      rw [El_ok]
      have b14 := hide ((unhide b13).trans (hb14.mono (unhide b13).size))
      clear hb14 b13
      go_wp2_with fail
      refine (impl_of_in 1 (by omega) (by omega) _).mono ?_
      rintro e w15 ⟨rfl, hb15⟩
      rw [show enc (1 % pInt) = El 1 from rfl]
      have b15 := hide ((unhide b14).trans (hb15.mono (unhide b14).size))
      clear hb15 b14
      by_cases hz : a % pInt = 0
      · have V := hide (invV_zero a hz)
        have Zt : ((El a).toList == (strOfNums [0, 0, 0, 0, 0, 0, 0, 0, 0, 0, 0, 0, 0, 0, 0, 0, 0, 0, 0, 0, 0, 0, 0, 0, 0, 0, 0, 0, 0, 0, 0, 0]).toList) = true := by rw [unhide Z]; simp [hz]
        clear hz
        go_wp2_with fail
        refine (impl_Inv (El a) _).mono ?_
        rintro e w16 ⟨rfl, hb16⟩
        rw [unhide V]
        have b16 := hide ((unhide b15).trans (hb16.mono (unhide b15).size))
        clear hb16 b15
        have hm := unhide M32
        go_wp2
        go_ret
        exact ⟨rfl, (unhide b16).alloc (unhide b16).size _⟩
      · have V := hide (invV_El a hz)
        have O := hide (inv_one a hz)
        have Zf : ((El a).toList == (strOfNums [0, 0, 0, 0, 0, 0, 0, 0, 0, 0, 0, 0, 0, 0, 0, 0, 0, 0, 0, 0, 0, 0, 0, 0, 0, 0, 0, 0, 0, 0, 0, 0]).toList) = false := by rw [unhide Z]; simp [hz]
        clear hz
        go_wp2_with fail
        refine (impl_Inv (El a) _).mono ?_
        rintro e w16 ⟨rfl, hb16⟩
        rw [unhide V]
        have b16 := hide ((unhide b15).trans (hb16.mono (unhide b15).size))
        clear hb16 b15
        have hm := unhide M32
        go_wp2_with fail
        refine (impl_Mul (El a) (El (a ^ numN lessTwo)) _).mono ?_
        rintro e w17 ⟨rfl, hb17⟩
        rw [mulV_El, unhide O]
        go_wp2
        go_ret
        exact ⟨rfl, ((unhide b16).alloc (unhide b16).size _).trans (hb17.mono (by have := (unhide b16).size; simp; omega))⟩
    · go_enter Try.func3, Try.ntmps3
      go_wp2
      go_ret
      exact ⟨rfl, Below.refl _ _⟩
  · go_enter Try.func3, Try.ntmps3
    go_wp2
    go_ret
    exact ⟨rfl, Below.refl _ _⟩
end Go.Proofs.Ytecphhfdleaklaa
