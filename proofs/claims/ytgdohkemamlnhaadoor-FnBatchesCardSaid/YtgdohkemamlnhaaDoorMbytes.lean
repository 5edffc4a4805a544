/- The specification's MessageBytes, and reading. -/
import Derived.Test.YtgdohkemamlnhaaDoorMsgB
namespace Go.Proofs.YtgdohkemamlnhaaDoor
open Go.RowKit
set_option maxHeartbeats 4000000
set_option maxRecDepth 20000
def mbL (r s a : Int) (d b : ByteArray) : List Int := if okM r s a d b = true then mB r s a d b else []
def mbC (r s a : Int) (d b : ByteArray) : Int := if okM r s a d b = true then 0 else 1
theorem okM_sizes {r s a : Int} {d b : ByteArray} (h : okM r s a d b = true) : d.size = 8 ∧ b.size ≤ 40 := by
  unfold okM at h
  simp at h
  exact ⟨h.1.2, h.2⟩
theorem own_none (w : World) : ownB w.heap.size (w.alloc (.cells #[] 5)) (.slice (some ⟨w.heap.size, 0, none⟩) 0 0) [] :=
  ⟨(fun x hx => by cases hx), .inr ⟨_, _, [], rfl, Nat.le_refl _, heap_at _ _ _ rfl, Nat.le_refl _⟩⟩
theorem mb10 (r s a : Int) (d b : ByteArray) (w : World) : Calls Tryd.prog 20 #[msgV r s a d b] w fun e w' => ∃ v, e = .returned (.tuple #[v, .int .i64 (mbC r s a d b)]) ∧ ownB w.heap.size w' v (mbL r s a d b) ∧ Below w.heap.size w w' := by
  cases ho : okM r s a d b
  · have eL : mbL r s a d b = [] := by unfold mbL; rw [if_neg (by simp [ho])]
    have eC : mbC r s a d b = 1 := by unfold mbC; rw [if_neg (by simp [ho])]
    rw [eL, eC]
    have h7 := hide (ok7 r s a d b (w.alloc (.cells #[.int .i64 r, .int .i64 s, .int .i64 a, .string d, .string b] 24)))
    rw [ho] at h7
    have b0 : Below w.heap.size w (w.alloc (.cells #[.int .i64 r, .int .i64 s, .int .i64 a, .string d, .string b] 24)) := (Below.refl _ _).alloc (Nat.le_refl _) _
    clear ho eL eC
    go_enter Tryd.func20, Tryd.ntmps20
    go_wp2_with fail
    refine (unhide h7).mono ?_
    rintro e w1 ⟨rfl, b1'⟩
    have b1 := b0.trans (b1'.mono b0.size)
    clear b1' b0
    have on := hide (own_none w1)
    go_wp2
    go_returns
    exact ⟨_, rfl, (unhide on).lower b1.size, b1.alloc b1.size _⟩
  · have eL : mbL r s a d b = mB r s a d b := by unfold mbL; rw [if_pos ho]
    have eC : mbC r s a d b = 0 := by unfold mbC; rw [if_pos ho]
    rw [eL, eC]
    obtain ⟨hd, hb⟩ := okM_sizes ho
    have h7 := hide (ok7 r s a d b (w.alloc (.cells #[.int .i64 r, .int .i64 s, .int .i64 a, .string d, .string b] 24)))
    rw [ho] at h7
    have b0 : Below w.heap.size w (w.alloc (.cells #[.int .i64 r, .int .i64 s, .int .i64 a, .string d, .string b] 24)) := (Below.refl _ _).alloc (Nat.le_refl _) _
    have mc : MC w.heap.size r s a d b (w.alloc (.cells #[.int .i64 r, .int .i64 s, .int .i64 a, .string d, .string b] 24)) := by
      obtain ⟨h0, h1, h2, h3, h4⟩ := msg_cells w r s a d b
      exact ⟨by simp, h0, h1, h2, h3, h4⟩
    have MC0 := hide mc
    clear mc
    have h20 := hide (by20 r s a d b hd hb)
    clear ho eL eC
    generalize mB r s a d b = M at *
    go_enter Tryd.func20, Tryd.ntmps20
    go_wp2_with fail
    refine (unhide h7).mono ?_
    rintro e w1 ⟨rfl, b1'⟩
    have b1 := b0.trans (b1'.mono b0.size)
    obtain ⟨_, c0, c1, c2, c3, c4⟩ := (unhide MC0).below b1'
    clear b1' b0 MC0
    go_wp2_with fail
    refine (unhide h20 w1).mono ?_
    rintro e w2 ⟨v, rfl, o2, b2⟩
    go_wp2
    go_returns
    exact ⟨_, rfl, o2.lower b1.size, b1.trans (b2.mono b1.size)⟩
end Go.Proofs.YtgdohkemamlnhaaDoor
