/- Contracts of fieldCode and l01Two; what the operations of two numbers answer. -/
import Derived.Test.YtncplefjokbbjaaRead
import Derived.Test.YtncplefjokbbjaaAddSub
namespace Go.Proofs.Ytncplefjokbbjaa
open Go.RowKit
set_option maxHeartbeats 1600000
def code2 (a b : ByteArray) : Int := if longB a || longB b then 2 else if okB a && okB b then 0 else 1
theorem code_two (a b : ByteArray) (w : World) (k : Nat) (hk : k < w.heap.size) (hc : w.cell? ⟨k, 0, none⟩ = some (.string a)) (hd : w.cell? ⟨k, 1, none⟩ = some (.string b)) :
    Calls Try.prog 32 #[.slice (some ⟨k, 0, none⟩) 2 2] w fun e w' => e = .returned (.int .i64 (code2 a b)) ∧ Below w.heap.size w w' := by
  cases hl : (longB a || longB b) with
  | true =>
    rw [show code2 a b = 2 by simp [code2, hl]]
    go_enter Try.func32, Try.ntmps32
    go_wp2_with fail
    refine (long_two a b _ _ hc hd).mono ?_
    rintro e w1 ⟨rfl, rfl⟩
    rw [hl]
    go_wp2
    go_ret
    exact ⟨rfl, Below.refl _ _⟩
  | false =>
    cases ha : okB a with
    | false =>
      rw [show code2 a b = 1 by simp [code2, hl, ha]]
      go_enter Try.func32, Try.ntmps32
      go_wp2_with fail
      refine (long_two a b _ _ hc hd).mono ?_
      rintro e w1 ⟨rfl, rfl⟩
      rw [hl]
      go_wp2
      refine wp_loop_rounds 3 ?_
      rw [rounds_succ]
      go_wp2_with fail
      refine (impl_ok a _).mono ?_
      rintro e w1 ⟨rfl, hb⟩
      rw [ha]
      go_wp2
      go_ret
      exact ⟨rfl, hb⟩
    | true =>
      cases hb2 : okB b with
      | false =>
        rw [show code2 a b = 1 by simp [code2, hl, ha, hb2]]
        go_enter Try.func32, Try.ntmps32
        go_wp2_with fail
        refine (long_two a b _ _ hc hd).mono ?_
        rintro e w1 ⟨rfl, rfl⟩
        rw [hl]
        go_wp2
        refine wp_loop_rounds 3 ?_
        rw [rounds_succ]
        go_wp2_with fail
        refine (impl_ok a _).mono ?_
        rintro e w1 ⟨rfl, hb⟩
        rw [ha]
        have hd1 : w1.cell? ⟨k, 1, none⟩ = some (.string b) := (hb.cell (p := ⟨k, 1, none⟩) hk).trans hd
        go_wp2
        rw [rounds_succ]
        go_wp2_with fail
        refine (impl_ok b _).mono ?_
        rintro e w2 ⟨rfl, hb3⟩
        rw [hb2]
        go_wp2
        go_ret
        exact ⟨rfl, hb.trans (hb3.mono hb.size)⟩
      | true =>
        rw [show code2 a b = 0 by simp [code2, hl, ha, hb2]]
        go_enter Try.func32, Try.ntmps32
        go_wp2_with fail
        refine (long_two a b _ _ hc hd).mono ?_
        rintro e w1 ⟨rfl, rfl⟩
        rw [hl]
        go_wp2
        refine wp_loop_rounds 3 ?_
        rw [rounds_succ]
        go_wp2_with fail
        refine (impl_ok a _).mono ?_
        rintro e w1 ⟨rfl, hb⟩
        rw [ha]
        have hd1 : w1.cell? ⟨k, 1, none⟩ = some (.string b) := (hb.cell (p := ⟨k, 1, none⟩) hk).trans hd
        go_wp2
        rw [rounds_succ]
        go_wp2_with fail
        refine (impl_ok b _).mono ?_
        rintro e w2 ⟨rfl, hb3⟩
        rw [hb2]
        go_wp2
        rw [rounds_succ]
        go_wp2
        go_ret
        exact ⟨rfl, hb.trans (hb3.mono hb.size)⟩
theorem load_row (s : ByteArray) (w : World) : Row10 (w.alloc (rowObj 3 .i64 (digI 26 10 (numN s) 255) [])) w.heap.size ((numN s : Int) % 57896044618658097711785492504343953926634992332820282019728792003956564819968) := by
  obtain ⟨m0, m1, m2, m3, m4, m5, m6, m7, m8, m9, hm, hin, hv⟩ := ten_of (numN s)
  exact ⟨m0, m1, m2, m3, m4, m5, m6, m7, m8, m9, [], by rw [heap_alloc_new, hm], hin, by rw [hv]⟩
theorem store_row (w : World) (b cap : Nat) (v : Int) (h : Row10 w b v) : Calls Try.prog 40 #[.slice (some ⟨b, 0, none⟩) 10 cap] w fun e w' => e = .returned (.string (enc (v % pInt))) ∧ Below w.heap.size w w' := by
  obtain ⟨m0, m1, m2, m3, m4, m5, m6, m7, m8, m9, rest, hr, hin, hv⟩ := h
  rw [← hv]
  exact store_any w b cap rest m0 m1 m2 m3 m4 m5 m6 m7 m8 m9 hr (near_in hin)
theorem ok_parts {s : ByteArray} (h : okB s = true) : s.size = 32 ∧ (numN s : Int) % 57896044618658097711785492504343953926634992332820282019728792003956564819968 = numN s := by
  simp only [okB, decide_eq_true_eq] at h
  have := h.2
  unfold pN at this
  exact ⟨h.1, by omega⟩
end Go.Proofs.Ytncplefjokbbjaa
