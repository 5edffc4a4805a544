/- A frame that is right; a text that is awaited: both sides. -/
import Derived.Test.YthonnlifgdnacaaSyb
namespace Go.Proofs.Ythonnlifgdnacaa
open Go.RowKit
set_option maxHeartbeats 4000000
set_option maxRecDepth 20000
def frB (f : Fr) : Bool := sqB f.s && sqB f.a && is40 f.b && (f.h || decide (f.b.size = 0))
def awB (p : Pe) (f : Fr) : Bool := f.h && decide (f.s = p.e) && decide (p.i.length < 100) && decide (p.e < 65535)
theorem takeF_t {p : Pe} {f : Fr} (h : awB p f = true) : takeF p f = ⟨p.q, p.s, p.e + 1, p.i ++ [f.b]⟩ := by
  unfold awB at h
  simp only [Bool.and_eq_true, decide_eq_true_eq] at h
  obtain ⟨⟨⟨h1, h2⟩, h3⟩, h4⟩ := h
  exact if_pos ⟨h1, h2, h3, h4⟩
theorem takeF_f {p : Pe} {f : Fr} (h : awB p f = false) : takeF p f = p := by
  refine if_neg fun ⟨h1, h2, h3, h4⟩ => ?_
  unfold awB at h
  simp [h1, h2, h3, h4] at h
theorem txt_nil (b : ByteArray) : b.toList = [] ↔ b.size = 0 := by
  rw [ByteArray.toList_eq]
  constructor
  · intro h
    show b.data.size = 0
    rw [← Array.length_toList, h]; rfl
  · intro h
    have h2 : b.data.size = 0 := h
    rw [← Array.length_toList] at h2
    exact List.length_eq_zero_iff.1 h2
theorem right52 (f : Fr) (w : World) (hf : f.b.size ≤ maxLen) :
    Calls Try.prog 52 #[frV f] w fun e w' => e = .returned (.bool (frB f)) ∧ Below w.heap.size w w' := by
  obtain ⟨s, a, h, b⟩ := f
  show Calls Try.prog 52 #[frA s a h b] w fun e w' => e = .returned (.bool (sqB s && sqB a && is40 b && (h || decide (b.size = 0)))) ∧ Below w.heap.size w w'
  dsimp only at hf
  have K1 := hide (fun n => seq51 n (w.alloc (.cells #[.int .i64 s, .int .i64 a, .bool h, .string b] 41)))
  have K3 := hide (no59 b (w.alloc (.cells #[.int .i64 s, .int .i64 a, .bool h, .string b] 41)))
  have HB := hide (show Below w.heap.size w (w.alloc (.cells #[.int .i64 s, .int .i64 a, .bool h, .string b] 41)) from bl_al (Below.refl _ _))
  obtain ⟨_, c0, c1, c2, c3⟩ := fc_new w s a h b 41
  have K1a := hide (unhide K1 s)
  have K1b := hide (unhide K1 a)
  clear K1 hf
  generalize sqB s = b1 at *
  generalize sqB a = b2 at *
  generalize is40 b = b3 at *
  go_enter Try.func52, Try.ntmps52
  go_wp2_with fail
  generalize w.alloc (.cells #[.int .i64 s, .int .i64 a, .bool h, .string b] 41) = w1 at *
  refine (unhide K1a).mono ?_
  rintro e1 w2 ⟨rfl, hw⟩
  have hw2 := hw.symm
  subst hw2
  clear K1a hw
  cases b1
  · clear K1b K3
    go_wp2
    go_ret
    exact ⟨ret_bool (by simp), unhide HB⟩
  · go_wp2_with fail
    refine (unhide K1b).mono ?_
    rintro e1 w2 ⟨rfl, hw⟩
    have hw2 := hw.symm
    subst hw2
    clear K1b hw
    cases b2
    · clear K3
      go_wp2
      go_ret
      exact ⟨ret_bool (by simp), unhide HB⟩
    · go_wp2_with fail
      refine (unhide K3).mono ?_
      rintro e1 w2 ⟨rfl, hw⟩
      have hw2 := hw.symm
      subst hw2
      clear K3 hw
      cases b3
      · go_wp2
        go_ret
        exact ⟨ret_bool (by simp), unhide HB⟩
      · cases h
        · by_cases hz : b.size = 0
          · go_wp2
            go_ret
            exact ⟨ret_bool (by simp [hz, txt_nil]), unhide HB⟩
          · go_wp2
            go_ret
            exact ⟨ret_bool (by simp [hz, txt_nil]), unhide HB⟩
        · go_wp2
          go_ret
          exact ⟨ret_bool (by simp), unhide HB⟩
theorem awaits54 (v : Value) (p : Pe) (f : Fr) (w : World) (hv : peV w v p) (hf : peFew p) :
    Calls Try.prog 54 #[v, frV f] w fun e w' => e = .returned (.bool (awB p f)) ∧ Below w.heap.size w w' := by
  obtain ⟨q, i, rfl, hq, hi⟩ := hv
  obtain ⟨f1, f2⟩ := hf
  obtain ⟨xq, s, e, xi⟩ := p
  obtain ⟨fs, fa, fh, fb⟩ := f
  dsimp only at *
  obtain ⟨A, ca, rfl⟩ := hq.slice
  obtain ⟨A2, cb, rfl⟩ := hi.slice
  show Calls Try.prog 54 #[peA (.slice A xq.length ca) s e (.slice A2 xi.length cb), frA fs fa fh fb] w fun e1 w' => e1 = .returned (.bool (fh && decide (fs = e) && decide (xi.length < 100) && decide (e < 65535))) ∧ Below w.heap.size w w'
  clear hq hi f1
  generalize xq.length = n
  have n0 : (0 : Int) ≤ (xi.length : Int) := by omega
  have n1 : (xi.length : Int) ≤ 1048576 := by omega
  generalize xi.length = m at *
  have HB := hide (show Below w.heap.size w ((w.alloc (.cells #[.slice A n ca, .int .i64 s, .int .i64 e, .slice A2 m cb] 33)).alloc (.cells #[.int .i64 fs, .int .i64 fa, .bool fh, .string fb] 41)) from bl_al (bl_al (Below.refl _ _)))
  cases fh
  · go_enter Try.func54, Try.ntmps54
    go_wp2
    go_ret
    exact ⟨ret_bool (by simp), unhide HB⟩
  by_cases h1 : fs = e
  · subst h1
    by_cases h2 : m < 100
    · have h3 : (m : Int) < 100 := by omega
      clear f2
      by_cases h4 : fs < 65535
      · go_enter Try.func54, Try.ntmps54
        go_wp2
        go_ret
        exact ⟨ret_bool (by simp [h2, h4]), unhide HB⟩
      · have h5 : 65535 ≤ fs := by omega
        go_enter Try.func54, Try.ntmps54
        go_wp2
        go_ret
        exact ⟨ret_bool (by simp [h4]), unhide HB⟩
    · have h3 : (100 : Int) ≤ (m : Int) := by omega
      clear f2
      go_enter Try.func54, Try.ntmps54
      go_wp2
      go_ret
      exact ⟨ret_bool (by simp), unhide HB⟩
  · have h1' : (fs == e) = false := by simpa using h1
    go_enter Try.func54, Try.ntmps54
    go_wp2
    go_ret
    exact ⟨ret_bool (by simp [h1]), unhide HB⟩
end Go.Proofs.Ythonnlifgdnacaa
