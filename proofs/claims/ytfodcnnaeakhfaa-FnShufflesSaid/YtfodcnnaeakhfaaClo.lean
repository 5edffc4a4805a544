/- Numbers drawn by closures over the words; how many in a row are below a bound. -/
import Derived.Test.YtfodcnnaeakhfaaCnt
namespace Go.Proofs.Ytfodcnnaeakhfaa
open Go.RowKit
set_option maxHeartbeats 4000000
set_option maxRecDepth 20000
theorem hmf : ∀ (fn : Fn) (first cap : Array Value) (w : World), (Instr.makeFunc fn first cap).run Try.prog w = .ok (.func fn first cap) w := fun _ _ _ _ => rfl
/-- a slice that reads as these ints, and has room for them -/
def intsC (w : World) (v : Value) (xs : List Int) : Prop := intsV w v xs ∧ ∃ A c, v = .slice A xs.length c ∧ xs.length ≤ c
theorem ownI.intsC {lo hi : Nat} {w : World} {v : Value} {xs : List Int} (h : ownI lo hi w v xs) : intsC w v xs := by
  refine ⟨h.ints, ?_⟩
  obtain ⟨rfl, rfl⟩ | ⟨g, cap, rest, rfl, hg, hh, hc, hcp⟩ := h
  · exact ⟨none, 0, rfl, Nat.le_refl _⟩
  · exact ⟨_, cap, rfl, hcp⟩
theorem intsC.below {w w' : World} {v : Value} {xs : List Int} (h : intsC w v xs) (hb : Below w.heap.size w w') : intsC w' v xs := ⟨h.1.below hb, h.2⟩
/-- what is behind the first k -/
theorem cut_ints {A : Option Addr} {n cap : Nat} {xs : List Int} {W0 : World} (hv : intsC W0 (.slice A n cap) xs) (k : Nat) (hk : k ≤ xs.length) :
    ∃ A', (∀ W, (Instr.slice 23 (.slice A n cap) (some (.int .i64 (k : Int))) none none).run Try.prog W = .ok (.slice A' (n - k) (cap - k)) W) ∧ intsC W0 (.slice A' (n - k) (cap - k)) (xs.drop k) := by
  obtain ⟨⟨A0, cap0, e, hr⟩, A1, c1, e1, hcap⟩ := hv
  simp only [Value.slice.injEq] at e e1
  obtain ⟨rfl, rfl, rfl⟩ := e
  obtain ⟨rfl, _, rfl⟩ := e1
  have hl : (xs.drop k).length = xs.length - k := List.length_drop
  have k0 : (0 : Int) ≤ (k : Int) := by omega
  have k1 : (k : Int) ≤ (xs.length : Int) := by omega
  by_cases hc : cap = k
  · refine ⟨A, fun W => ?_, ⟨A, cap - k, by rw [hl], fun h => by rw [hl] at h; omega⟩, A, cap - k, by rw [hl], by rw [hl]; omega⟩
    subst hc
    have e : xs.length = cap := by omega
    cases A
    · go_simp
    · go_simp
  · by_cases h0 : xs.length = 0
    · obtain rfl : k = 0 := by omega
      refine ⟨A, fun W => ?_, ⟨A, cap - 0, by rw [hl], fun h => by rw [hl] at h; omega⟩, A, cap - 0, by rw [hl], by rw [hl]; omega⟩
      cases A
      · go_simp
      · rename_i a
        obtain ⟨b, o, p⟩ := a
        go_simp
    · obtain ⟨b, off, rfl, hb, hcell⟩ := hr (by omega)
      refine ⟨some ⟨b, off + k, none⟩, fun W => ?_, ⟨_, cap - k, by rw [hl], fun h => ⟨b, off + k, rfl, hb, fun i hi => ?_⟩⟩, _, cap - k, by rw [hl], by rw [hl]; omega⟩
      · go_simp
      · rw [hl] at hi
        rw [Nat.add_assoc, hcell (k + i) (by omega)]
        simp [List.getElem?_drop]
theorem draws55 (v : Value) (A : Option Addr) (n cap : Nat) (hv : v = .slice A n cap) (w : World) : Calls Try.prog 47 #[v] w fun e w' =>
    e = .returned (.tuple #[.func (.func 51) #[] #[.pointer (some ⟨w.heap.size + 1, 0, none⟩)], .func (.func 53) #[] #[.pointer (some ⟨w.heap.size, 0, none⟩), .pointer (some ⟨w.heap.size + 1, 0, none⟩)]]) ∧
    w' = (w.alloc (.cells #[v] 23 (0, 0))).alloc (.cells #[v] 23 (0, 0)) := by
  subst hv
  have hmf := hmf
  go_enter Try.func47, Try.ntmps47
  go_wp2
  go_ret2
  exact ⟨rfl, rfl⟩
theorem wOK_drop {xs : List Int} (h : wOK xs = true) (k : Nat) : wOK (xs.drop k) = true := by
  unfold wOK at h ⊢
  rw [Bool.and_eq_true, List.all_eq_true] at h ⊢
  refine ⟨decide_eq_true ?_, fun x hx => h.2 x (List.mem_of_mem_drop hx)⟩
  have := of_decide_eq_true h.1
  rw [List.length_drop]; omega
theorem taken60 (v u : Value) (n m : Nat) (A A' : Option Addr) (c c' : Nat) (hv : v = .slice A n c) (hu : u = .slice A' m c') (Bw Bl : Nat) (w : World) (h1 : w.heap[Bw]? = some (.cells #[v] 23 (0, 0))) (h2 : w.heap[Bl]? = some (.cells #[u] 23 (0, 0))) (hn : n ≤ 2000) (hm : m ≤ n) :
    Calls Try.prog 53 #[.pointer (some ⟨Bw, 0, none⟩), .pointer (some ⟨Bl, 0, none⟩)] w fun e w' => e = .returned (.int .i64 ((n : Int) - m)) ∧ w' = w := by
  subst hv hu
  have c1 := row_cell (i := 0) h1
  have c2 := row_cell (i := 0) h2
  have n0 : (n : Int) ≤ 2000 := by omega
  have n1 : (m : Int) ≤ (n : Int) := by omega
  have n2 : (0 : Int) ≤ (m : Int) := by omega
  clear h1 h2
  go_enter Try.func53, Try.ntmps53
  go_wp2
  go_ret
  exact ⟨rfl, rfl⟩
theorem below58 (n : Int) (hn : 1 ≤ n) (hn' : n ≤ 65536) (v : Value) (xs : List Int) (w0 : World) (hv : intsC w0 v xs) (hk : wOK xs = true) (Bl : Nat) (w : World) (hw : Below w0.heap.size w0 w) (h2 : w.heap[Bl]? = some (.cells #[v] 23 (0, 0))) :
    Calls Try.prog 51 #[.int .i64 n, .pointer (some ⟨Bl, 0, none⟩)] w fun e w' => ∃ u, e = .returned (.tuple #[.int .i64 (uF (65536 - 65536 % n) n xs 0).1, .bool (uF (65536 - 65536 % n) n xs 0).2.2]) ∧ w' = w.setCell ⟨Bl, 0, none⟩ u ∧
      intsC w0 u (xs.drop (uF (65536 - 65536 % n) n xs 0).2.1.toNat) := by
  have K := hide (uni16 v xs n w (hv.1.below hw) hk hn hn')
  have c2 := row_cell (i := 0) h2
  have f2 := row_free (i := 0) h2
  obtain ⟨x, m, ok, hu, hm⟩ := uF_bd (65536 - 65536 % n) n xs
  rw [hu] at K ⊢
  rw [Int.toNat_natCast]
  obtain ⟨A, cap, rfl, hcap⟩ := hv.2
  obtain ⟨A', hs, hi⟩ := cut_ints hv m hm
  have HI := hide hi
  have s1 := hs (w)
  clear hs hi hv hu hw h2 hk
  go_enter Try.func51, Try.ntmps51
  go_wp2_with fail
  refine (unhide K).mono ?_
  rintro e w' ⟨rfl, hw'⟩
  have hw2 := hw'.symm
  subst hw2
  clear K
  go_wp2
  go_ret2
  exact ⟨_, rfl, rfl, unhide HI⟩
end Go.Proofs.Ytfodcnnaeakhfaa
