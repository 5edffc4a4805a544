/- What sums up, what is the same from both ends, what a beginning of the words gives. -/
import Derived.Test.YtafjodaeckiedaaPri
import Derived.Test.YtafjodaeckiedaaNpb
import Derived.Test.YtafjodaeckiedaaWrd
namespace Go.Proofs.Ytafjodaeckiedaa
open Go.RowKit
set_option maxHeartbeats 4000000
set_option maxRecDepth 20000
def Sw (m a b : Int) : Nat → Int
  | 0 => 0
  | j + 1 => Sw m a b j + wF j m a b
theorem Sw_all : ∀ (m : Fin 9) (a : Fin 8) (c : Fin 7), Sw ((m : Nat) : Int) (((a : Nat) : Int) + 1) (((a : Nat) : Int) + 2 + ((c : Nat) : Int)) (2 * (m : Nat) + 1) = tF ((m : Nat) : Int) (((a : Nat) : Int) + 1) (((a : Nat) : Int) + 2 + ((c : Nat) : Int)) := by decide +kernel
theorem Sw_total (M : Nat) (a b : Int) (hM : M ≤ 8) (a1 : 1 ≤ a) (a8 : a ≤ 8) (b1 : a < b) (b7 : b ≤ a + 7) : Sw M a b (2 * M + 1) = tF M a b := by
  have h := Sw_all ⟨M, by omega⟩ ⟨(a - 1).toNat, by omega⟩ ⟨(b - a - 1).toNat, by omega⟩
  simp only at h
  rw [show (((a - 1).toNat : Nat) : Int) + 1 = a by omega, show (((a - 1).toNat : Nat) : Int) + 2 + (((b - a - 1).toNat : Nat) : Int) = b by omega] at h
  exact h
theorem wF_sym (n m a b : Int) : wF (2 * m - n) m a b = wF n m a b := by
  unfold wF
  rw [show max (2 * m - n - m) (m - (2 * m - n)) = max (n - m) (m - n) by omega]
theorem Sw_bd (M : Nat) (a b : Int) (ha : 1 ≤ a) (hab : a < b) (hb : b ≤ 16) (h8 : M ≤ 8) : ∀ j : Nat, j ≤ 2 * M + 1 → 0 ≤ Sw M a b j ∧ Sw M a b j ≤ 68719476736 * j
  | 0, _ => ⟨Int.le_refl _, by simp [Sw]⟩
  | j + 1, h => by
    have i := Sw_bd M a b ha hab hb h8 j (by omega)
    have b1 := wF_bd j M a b ha hab hb (by omega) (by omega) (by omega) (by omega)
    rw [Sw]
    omega
theorem gF_take {top a b : Int} : ∀ (xs : List Int) (k n g : Int) (m q : Nat), gF top a b xs k n = (g, k + m, true) → m ≤ q → gF top a b (xs.take q) k n = (g, k + m, true)
  | [], k, n, g, m, q, h, _ => by rw [gF] at h; simp at h
  | x :: xs, k, n, g, m, q, h, hq => by
    obtain ⟨g', m', ok', e, l1, l2, _⟩ := gF_bd (top := top) (a := a) (b := b) (x :: xs) k n
    rw [e] at h
    simp only [Prod.mk.injEq] at h
    obtain ⟨rfl, h3, rfl⟩ := h
    obtain rfl : m' = m := by omega
    have hm := (l2 rfl).2.2
    obtain ⟨q', rfl⟩ : ∃ q', q = q' + 1 := ⟨q - 1, by omega⟩
    obtain ⟨m2, rfl⟩ : ∃ m2, m' = m2 + 1 := ⟨m' - 1, by omega⟩
    rw [List.take_succ_cons, gF]
    rw [gF] at e
    have ek : k + ((m2 + 1 : Nat) : Int) = k + 1 + (m2 : Int) := by omega
    rw [ek] at e ⊢
    by_cases h1 : x < top
    · rw [if_pos h1] at e ⊢
      by_cases h2 : a ≤ x % b
      · rw [if_pos h2] at e ⊢; exact e
      · rw [if_neg h2] at e ⊢
        exact gF_take xs (k + 1) (n + 1) g' m2 q' e (by omega)
    · rw [if_neg h1] at e ⊢
      exact gF_take xs (k + 1) n g' m2 q' e (by omega)
theorem cF_take {top a b : Int} (xs : List Int) (g h : Int) (t : Nat) (hc : cF top a b 2 xs 0 = some ([g, h], (t : Int))) : cF top a b 2 (xs.take t) 0 = some ([g, h], (t : Int)) := by
  obtain ⟨g1, n1, ok1, e1, l1, _, _, f1, f2⟩ := cF_two (top := top) (a := a) (b := b) xs
  cases ok1
  · rw [f1 rfl] at hc; cases hc
  obtain ⟨h1, m1, ok2, e2, l2, _, _, f3, f4⟩ := f2 rfl
  cases ok2
  · rw [f3 rfl] at hc; cases hc
  rw [f4 rfl] at hc
  obtain ⟨hx, hy⟩ := Prod.mk.inj (Option.some.inj hc)
  obtain ⟨rfl, rfl⟩ : g1 = g ∧ h1 = h := by simpa using hx
  obtain rfl : t = n1 + m1 := by omega
  have i1 := gF_take xs 0 0 g1 n1 (n1 + m1) (by rw [e1]; simp) (by omega)
  have i2 := gF_take (xs.drop n1) 0 0 h1 m1 m1 (by rw [e2]; simp) (by omega)
  have ed : (xs.take (n1 + m1)).drop n1 = (xs.drop n1).take m1 := by rw [List.drop_take, Nat.add_sub_cancel_left]
  obtain ⟨g2, n2, ok3, e3, _, _, _, _, f6⟩ := cF_two (top := top) (a := a) (b := b) (xs.take (n1 + m1))
  rw [e3, Int.zero_add] at i1
  simp only [Prod.mk.injEq] at i1
  obtain ⟨rfl, i3, rfl⟩ := i1
  obtain rfl : n2 = n1 := by omega
  obtain ⟨h2, m2, ok4, e4, _, _, _, _, f8⟩ := f6 rfl
  rw [ed] at e4
  rw [e4, Int.zero_add] at i2
  simp only [Prod.mk.injEq] at i2
  obtain ⟨rfl, i4, rfl⟩ := i2
  obtain rfl : m2 = m1 := by omega
  rw [f8 rfl]
  simp
theorem wOK_take {xs : List Int} (h : wOK xs = true) (k : Nat) : wOK (xs.take k) = true := by
  unfold wOK at h ⊢
  rw [Bool.and_eq_true, List.all_eq_true] at h ⊢
  refine ⟨decide_eq_true ?_, fun x hx => h.2 x (List.mem_of_mem_take hx)⟩
  have := of_decide_eq_true h.1
  rw [List.length_take]; omega
/-- the first k -/
theorem head_ints {A : Option Addr} {n cap : Nat} {xs : List Int} {W0 : World} (hv : intsC W0 (.slice A n cap) xs) (k : Nat) (hk : k ≤ xs.length) :
    (∀ W, (Instr.slice 27 (.slice A n cap) none (some (.int .i64 (k : Int))) none).run Try.prog W = .ok (.slice A k cap) W) ∧ intsC W0 (.slice A k cap) (xs.take k) := by
  obtain ⟨⟨A0, cap0, e, hr⟩, A1, c1, e1, hcap⟩ := hv
  simp only [Value.slice.injEq] at e e1
  obtain ⟨rfl, rfl, rfl⟩ := e
  obtain ⟨rfl, _, rfl⟩ := e1
  have hl : (xs.take k).length = k := by rw [List.length_take]; omega
  have k0 : (0 : Int) ≤ (k : Int) := by omega
  have k1 : (k : Int) ≤ (cap : Int) := by omega
  refine ⟨fun W => ?_, ⟨A, cap, by rw [hl], fun h => ?_⟩, A, cap, by rw [hl], by omega⟩
  · cases A
    · have h0 : xs.length = 0 := by
        rcases Nat.eq_zero_or_pos xs.length with h | h
        · exact h
        · obtain ⟨_, _, h, _⟩ := hr h; cases h
      obtain rfl : k = 0 := by omega
      go_simp
    · rename_i a
      obtain ⟨b, o, p⟩ := a
      go_simp
  · rw [hl] at h
    obtain ⟨b, off, rfl, hb, hc⟩ := hr (by omega)
    refine ⟨b, off, rfl, hb, fun i hi => ?_⟩
    rw [hl] at hi
    rw [hc i (by omega), List.getD_eq_getElem?_getD, List.getD_eq_getElem?_getD, List.getElem?_take_of_lt hi]
theorem nCode_ok {xs : List Int} {m a b : Int} (hl : xs.length ≤ 4096) (hw : wOK xs = true) (hr : rOK a b = true) (hm : mOK m = true) : nCode xs m a b = 0 := by
  have e : gCode xs a b = 0 := by unfold gCode; rw [if_neg (by omega), hw, if_pos rfl, hr, if_pos rfl]
  unfold nCode
  rw [e, if_pos rfl, hm, if_pos rfl]
end Go.Proofs.Ytafjodaeckiedaa
