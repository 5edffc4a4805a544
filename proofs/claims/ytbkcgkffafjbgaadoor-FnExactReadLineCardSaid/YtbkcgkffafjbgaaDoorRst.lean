/- The specification's rest of a line, behind two words. -/
import Derived.Test.YtbkcgkffafjbgaaDoorSpw
namespace Go.Proofs.YtbkcgkffafjbgaaDoor
open Go.RowKit
set_option maxHeartbeats 4000000
set_option maxRecDepth 20000
def rsN : Nat → By → By
  | 0, l => l
  | i + 1, l => rs (rsN i l)
theorem tl_step {l : By} {k : Nat} (h : k < l.length) (hb : bla (l.getD k 0) = true) : tl (l.drop (k + 1)) = tl (l.drop k) := by
  rw [drop_at l k h, tl_cons_bla hb]
theorem tl_stop {l : By} {k : Nat} (h : l.length ≤ k ∨ (k < l.length ∧ bla (l.getD k 0) = false)) : tl (l.drop k) = l.drop k := by
  rcases h with h | ⟨h, hb⟩
  · rw [List.drop_eq_nil_of_le h]; rfl
  · rw [drop_at l k h, tl_cons_non hb]
theorem dw_step {l : By} {k : Nat} (h : k < l.length) (hb : bla (l.getD k 0) = false) : (l.drop (k + 1)).dropWhile non = (l.drop k).dropWhile non := by
  rw [drop_at l k h, List.dropWhile_cons, non_bla, hb]; rfl
theorem dw_stop {l : By} {k : Nat} (h : l.length ≤ k ∨ (k < l.length ∧ bla (l.getD k 0) = true)) : (l.drop k).dropWhile non = l.drop k := by
  rcases h with h | ⟨h, hb⟩
  · rw [List.drop_eq_nil_of_le h]; rfl
  · rw [drop_at l k h, List.dropWhile_cons, non_bla, hb]; rfl
/-- where the end stands while blanks are taken off behind -/
def EI (l : By) (k e : Nat) : Prop := k ≤ e ∧ e ≤ l.length ∧ tb ((l.drop k).take (e - k)) = tb (l.drop k)
theorem EI.start {l : By} {k : Nat} (h : k ≤ l.length) : EI l k l.length := ⟨h, Nat.le_refl _, by rw [List.take_of_length_le (by simp)]⟩
theorem seg_snoc {l : By} {k e : Nat} (h : k < e) (he : e ≤ l.length) : (l.drop k).take (e - k) = (l.drop k).take (e - 1 - k) ++ [l.getD (e - 1) 0] := by
  rw [show e - k = (e - 1 - k) + 1 by omega, List.take_add_one, List.getElem?_drop, show k + (e - 1 - k) = e - 1 by omega, List.getD_eq_getElem?_getD, List.getElem?_eq_getElem (show e - 1 < l.length by omega)]
  rfl
theorem EI.step {l : By} {k e : Nat} (h : EI l k e) (hk : k < e) (hb : bla (l.getD (e - 1) 0) = true) : EI l k (e - 1) := by
  refine ⟨by omega, by have := h.2.1; omega, ?_⟩
  rw [← h.2.2, seg_snoc hk h.2.1, tb_snoc_bla hb]
theorem EI.stop {l : By} {k e : Nat} (h : EI l k e) (hb : k = e ∨ (k < e ∧ bla (l.getD (e - 1) 0) = false)) : (l.drop k).take (e - k) = tb (l.drop k) := by
  rw [← h.2.2]
  rcases hb with rfl | ⟨hk, hb⟩
  · simp [tb]
  · rw [seg_snoc hk h.2.1, tb_snoc_non hb]
theorem rest12 (l : By) (w : World) (hl : l.length ≤ 65536) :
    Calls Tryd.prog 12 #[.string (bs l), .int .i64 2] w fun e w' => e = .returned (.string (bs (tr (rs (rs l))))) ∧ w' = w := by
  have hat : Hid (∀ (j : Nat) (h : j < (bs l).size), ((((bs l)[j]'h).toNat : Int) == 32) = bla (l.getD j 0)) := hide (fun j h => by rw [bs_at]; exact bla_int _)
  have hex : Hid (∀ f j, (bs l).extract f j = bs ((l.drop f).take (j - f))) := hide (extract_seg l)
  obtain ⟨n, hn⟩ : ∃ n, n = (bs l).size := ⟨_, rfl⟩
  have hnl : Hid (n = l.length) := hide (hn.trans (bs_size l))
  have k2 : (n : Int) ≤ 65536 := by have := unhide hnl; omega
  generalize bs l = t at *
  have hsz : t.size = n := hn.symm
  clear hn hl
  go_enter Tryd.func12, Tryd.ntmps12
  go_wp2
  go_loop [5, 6] (fun kv iv => ∃ k i : Nat, k ≤ n ∧ i ≤ 2 ∧ kv = .int .i64 k ∧ iv = .int .i64 i ∧ l.drop k = rsN i l) (fun _ iv => 2 - (intOf iv).toNat)
  case atStart => exact ⟨0, 0, by omega, by omega, rfl, rfl, rfl⟩
  case round =>
    obtain ⟨k, i, hk, hi, rfl, rfl, hki⟩ := hrel
    have HK := hide hk
    have HI := hide hki
    clear hk hki
    rcases (by omega : i = 2 ∨ i < 2) with rfl | hi2
    · clear hi
      go_wp2
      go_loop [5] (fun kv => ∃ k : Nat, k ≤ n ∧ kv = .int .i64 k ∧ tl (l.drop k) = tl (rsN 2 l)) (fun kv => n - (intOf kv).toNat)
      case atStart => exact ⟨k, unhide HK, rfl, by rw [unhide HI]⟩
      case round =>
        obtain ⟨k3, hk, rfl, hki⟩ := hrel
        have HK3 := hide hk
        have HI3 := hide hki
        have p0 : (0 : Int) ≤ (k3 : Int) := by omega
        rcases Nat.lt_or_ge k3 n with hlt | hge
        · have p1 : (k3 : Int) < (n : Int) := by omega
          have HL := hide hlt
          have e2 := unhide hat k3
          have e3 : ∀ (h : k3 < t.size), (((t[k3]'h).toNat : Int) != 32) = !bla (l.getD k3 0) := fun h => by rw [bne, unhide hat k3 h]
          cases hbl : bla (l.getD k3 0) with
          | true =>
            simp only [hbl, Bool.not_true] at e2 e3
            have HS := hide (tl_step (by have := unhide hnl; omega) hbl)
            clear hk hki hlt hbl
            go_wp2
            refine ⟨⟨k3 + 1, by have := unhide HL; omega, by go_num, (unhide HS).trans (unhide HI3)⟩, ?_⟩
            have := unhide HL
            simp [intOf] <;> omega
          | false =>
            simp only [hbl, Bool.not_false] at e2 e3
            have HE : Hid (l.length ≤ k3 ∨ (k3 < l.length ∧ bla (l.getD k3 0) = false)) := hide (Or.inr ⟨by have := unhide hnl; omega, hbl⟩)
            clear hk hki hlt hbl
            go_wp2
            go_loop [7] (fun ev => ∃ e : Nat, ev = .int .i64 e ∧ EI l k3 e) (fun ev => (intOf ev).toNat)
            case atStart => exact ⟨n, rfl, by have := EI.start (l := l) (k := k3) (by have := unhide HK3; have := unhide hnl; omega); rw [← unhide hnl] at this; exact this⟩
            case round =>
              obtain ⟨e, rfl, he⟩ := hrel
              have HE2 := hide he
              have g1 : (k3 : Int) ≤ (e : Int) := by have := he.1; omega
              have g2 : (e : Int) ≤ (n : Int) := by have := he.2.1; have := unhide hnl; omega
              have g0 : (0 : Int) ≤ (k3 : Int) := by omega
              have FIN : Hid ((k3 = e ∨ (k3 < e ∧ bla (l.getD (e - 1) 0) = false)) → t.extract k3 e = bs (tr (rs (rs l)))) := hide (fun h => by
                rw [unhide hex, (unhide HE2).stop h, ← tl_stop (unhide HE), unhide HI3, tb_tl]; rfl)
              rcases Nat.lt_or_ge k3 e with hlt | hge
              · have g3 : (k3 : Int) < (e : Int) := by omega
                have HL := hide hlt
                obtain ⟨d, rfl⟩ : ∃ d, e = d + 1 := ⟨e - 1, by omega⟩
                have g4 : (d : Int) < (n : Int) := by omega
                have g5 : (0 : Int) ≤ (d : Int) := by omega
                have e2 := unhide hat d
                cases hbl : bla (l.getD d 0) with
                | true =>
                  simp only [hbl] at e2
                  have HS : Hid (EI l k3 d) := hide ((unhide HE2).step hlt hbl)
                  clear he hlt hbl FIN
                  go_wp2
                  all_goals refine ⟨⟨d, by go_num, unhide HS⟩, ?_⟩
                  all_goals simp [intOf] <;> omega
                | false =>
                  simp only [hbl] at e2
                  have HF := hide (unhide FIN (Or.inr ⟨hlt, hbl⟩))
                  clear he hlt hbl FIN
                  go_wp2
                  all_goals go_ret
                  all_goals exact ⟨congrArg (fun x => Ending.returned (.string x)) (unhide HF), rfl⟩
              · have g3 : (e : Int) ≤ (k3 : Int) := by omega
                have HF := hide (unhide FIN (Or.inl (by omega)))
                clear he hge FIN
                go_wp2
                go_ret
                exact ⟨congrArg (fun x => Ending.returned (.string x)) (unhide HF), rfl⟩
        · have p1 : (n : Int) ≤ (k3 : Int) := by omega
          have HE : Hid (l.length ≤ k3 ∨ (k3 < l.length ∧ bla (l.getD k3 0) = false)) := hide (Or.inl (by have := unhide hnl; omega))
          clear hk hki hge
          go_wp2
          go_loop [7] (fun ev => ∃ e : Nat, ev = .int .i64 e ∧ EI l k3 e) (fun ev => (intOf ev).toNat)
          case atStart => exact ⟨n, rfl, by have := EI.start (l := l) (k := k3) (by have := unhide HK3; have := unhide hnl; omega); rw [← unhide hnl] at this; exact this⟩
          case round =>
            obtain ⟨e, rfl, he⟩ := hrel
            have HE2 := hide he
            have g1 : (k3 : Int) ≤ (e : Int) := by have := he.1; omega
            have g2 : (e : Int) ≤ (n : Int) := by have := he.2.1; have := unhide hnl; omega
            have g0 : (0 : Int) ≤ (k3 : Int) := by omega
            have FIN : Hid ((k3 = e ∨ (k3 < e ∧ bla (l.getD (e - 1) 0) = false)) → t.extract k3 e = bs (tr (rs (rs l)))) := hide (fun h => by
              rw [unhide hex, (unhide HE2).stop h, ← tl_stop (unhide HE), unhide HI3, tb_tl]; rfl)
            rcases Nat.lt_or_ge k3 e with hlt | hge
            · have g3 : (k3 : Int) < (e : Int) := by omega
              have HL := hide hlt
              obtain ⟨d, rfl⟩ : ∃ d, e = d + 1 := ⟨e - 1, by omega⟩
              have g4 : (d : Int) < (n : Int) := by omega
              have g5 : (0 : Int) ≤ (d : Int) := by omega
              have e2 := unhide hat d
              cases hbl : bla (l.getD d 0) with
              | true =>
                simp only [hbl] at e2
                have HS : Hid (EI l k3 d) := hide ((unhide HE2).step hlt hbl)
                clear he hlt hbl FIN
                go_wp2
                all_goals refine ⟨⟨d, by go_num, unhide HS⟩, ?_⟩
                all_goals simp [intOf] <;> omega
              | false =>
                simp only [hbl] at e2
                have HF := hide (unhide FIN (Or.inr ⟨hlt, hbl⟩))
                clear he hlt hbl FIN
                go_wp2
                all_goals go_ret
                all_goals exact ⟨congrArg (fun x => Ending.returned (.string x)) (unhide HF), rfl⟩
            · have g3 : (e : Int) ≤ (k3 : Int) := by omega
              have HF := hide (unhide FIN (Or.inl (by omega)))
              clear he hge FIN
              go_wp2
              go_ret
              exact ⟨congrArg (fun x => Ending.returned (.string x)) (unhide HF), rfl⟩
    · have q1 : (i : Int) < 2 := by omega
      have q2 : (0 : Int) ≤ (i : Int) := by omega
      have HI2 := hide hi2
      clear hi hi2
      go_wp2
      go_loop [5] (fun kv => ∃ k : Nat, k ≤ n ∧ kv = .int .i64 k ∧ tl (l.drop k) = tl (rsN i l)) (fun kv => n - (intOf kv).toNat)
      case atStart => exact ⟨k, unhide HK, rfl, by rw [unhide HI]⟩
      case round =>
        obtain ⟨k3, hk, rfl, hki⟩ := hrel
        have HK3 := hide hk
        have HI3 := hide hki
        have p0 : (0 : Int) ≤ (k3 : Int) := by omega
        rcases Nat.lt_or_ge k3 n with hlt | hge
        · have p1 : (k3 : Int) < (n : Int) := by omega
          have HL := hide hlt
          have e2 := unhide hat k3
          have e3 : ∀ (h : k3 < t.size), (((t[k3]'h).toNat : Int) != 32) = !bla (l.getD k3 0) := fun h => by rw [bne, unhide hat k3 h]
          cases hbl : bla (l.getD k3 0) with
          | true =>
            simp only [hbl, Bool.not_true] at e2 e3
            have HS := hide (tl_step (by have := unhide hnl; omega) hbl)
            clear hk hki hlt hbl
            go_wp2
            refine ⟨⟨k3 + 1, by have := unhide HL; omega, by go_num, (unhide HS).trans (unhide HI3)⟩, ?_⟩
            have := unhide HL
            simp [intOf] <;> omega
          | false =>
            simp only [hbl, Bool.not_false] at e2 e3
            have HE : Hid (l.length ≤ k3 ∨ (k3 < l.length ∧ bla (l.getD k3 0) = false)) := hide (Or.inr ⟨by have := unhide hnl; omega, hbl⟩)
            clear hk hki hlt hbl
            go_wp2
            go_loop [5] (fun kv => ∃ k : Nat, k ≤ n ∧ kv = .int .i64 k ∧ (l.drop k).dropWhile non = (tl (rsN i l)).dropWhile non) (fun kv => n - (intOf kv).toNat)
            case atStart => exact ⟨k3, unhide HK3, rfl, by rw [← unhide HI3, tl_stop (unhide HE)]⟩
            case round =>
              obtain ⟨k4, hk, rfl, hki⟩ := hrel
              have HK3 := hide hk
              have HI3 := hide hki
              have p0 : (0 : Int) ≤ (k4 : Int) := by omega
              rcases Nat.lt_or_ge k4 n with hlt | hge
              · have p1 : (k4 : Int) < (n : Int) := by omega
                have HL := hide hlt
                have e2 := unhide hat k4
                have e3 : ∀ (h : k4 < t.size), (((t[k4]'h).toNat : Int) != 32) = !bla (l.getD k4 0) := fun h => by rw [bne, unhide hat k4 h]
                cases hbl : bla (l.getD k4 0) with
                | false =>
                  simp only [hbl, Bool.not_false] at e2 e3
                  have HS := hide (dw_step (by have := unhide hnl; omega) hbl)
                  clear hk hki hlt hbl
                  go_wp2
                  refine ⟨⟨k4 + 1, by have := unhide HL; omega, by go_num, (unhide HS).trans (unhide HI3)⟩, ?_⟩
                  have := unhide HL
                  simp [intOf] <;> omega
                | true =>
                  simp only [hbl, Bool.not_true] at e2 e3
                  have HE : Hid (l.length ≤ k4 ∨ (k4 < l.length ∧ bla (l.getD k4 0) = true)) := hide (Or.inr ⟨by have := unhide hnl; omega, hbl⟩)
                  clear hk hki hlt hbl
                  go_wp2
                  refine ⟨⟨k4, i + 1, unhide HK3, by have := unhide HI2; omega, rfl, by go_num, ?_⟩, ?_⟩
                  · rw [← dw_stop (unhide HE), unhide HI3]; rfl
                  · have := unhide HI2
                    simp [intOf] <;> omega
              · have p1 : (n : Int) ≤ (k4 : Int) := by omega
                have HE : Hid (l.length ≤ k4 ∨ (k4 < l.length ∧ bla (l.getD k4 0) = true)) := hide (Or.inl (by have := unhide hnl; omega))
                clear hk hki hge
                go_wp2
                refine ⟨⟨k4, i + 1, unhide HK3, by have := unhide HI2; omega, rfl, by go_num, ?_⟩, ?_⟩
                · rw [← dw_stop (unhide HE), unhide HI3]; rfl
                · have := unhide HI2
                  simp [intOf] <;> omega
        · have p1 : (n : Int) ≤ (k3 : Int) := by omega
          have HE : Hid (l.length ≤ k3 ∨ (k3 < l.length ∧ bla (l.getD k3 0) = false)) := hide (Or.inl (by have := unhide hnl; omega))
          clear hk hki hge
          go_wp2
          go_loop [5] (fun kv => ∃ k : Nat, k ≤ n ∧ kv = .int .i64 k ∧ (l.drop k).dropWhile non = (tl (rsN i l)).dropWhile non) (fun kv => n - (intOf kv).toNat)
          case atStart => exact ⟨k3, unhide HK3, rfl, by rw [← unhide HI3, tl_stop (unhide HE)]⟩
          case round =>
            obtain ⟨k4, hk, rfl, hki⟩ := hrel
            have HK3 := hide hk
            have HI3 := hide hki
            have p0 : (0 : Int) ≤ (k4 : Int) := by omega
            rcases Nat.lt_or_ge k4 n with hlt | hge
            · have p1 : (k4 : Int) < (n : Int) := by omega
              have HL := hide hlt
              have e2 := unhide hat k4
              have e3 : ∀ (h : k4 < t.size), (((t[k4]'h).toNat : Int) != 32) = !bla (l.getD k4 0) := fun h => by rw [bne, unhide hat k4 h]
              cases hbl : bla (l.getD k4 0) with
              | false =>
                simp only [hbl, Bool.not_false] at e2 e3
                have HS := hide (dw_step (by have := unhide hnl; omega) hbl)
                clear hk hki hlt hbl
                go_wp2
                refine ⟨⟨k4 + 1, by have := unhide HL; omega, by go_num, (unhide HS).trans (unhide HI3)⟩, ?_⟩
                have := unhide HL
                simp [intOf] <;> omega
              | true =>
                simp only [hbl, Bool.not_true] at e2 e3
                have HE : Hid (l.length ≤ k4 ∨ (k4 < l.length ∧ bla (l.getD k4 0) = true)) := hide (Or.inr ⟨by have := unhide hnl; omega, hbl⟩)
                clear hk hki hlt hbl
                go_wp2
                refine ⟨⟨k4, i + 1, unhide HK3, by have := unhide HI2; omega, rfl, by go_num, ?_⟩, ?_⟩
                · rw [← dw_stop (unhide HE), unhide HI3]; rfl
                · have := unhide HI2
                  simp [intOf] <;> omega
            · have p1 : (n : Int) ≤ (k4 : Int) := by omega
              have HE : Hid (l.length ≤ k4 ∨ (k4 < l.length ∧ bla (l.getD k4 0) = true)) := hide (Or.inl (by have := unhide hnl; omega))
              clear hk hki hge
              go_wp2
              refine ⟨⟨k4, i + 1, unhide HK3, by have := unhide HI2; omega, rfl, by go_num, ?_⟩, ?_⟩
              · rw [← dw_stop (unhide HE), unhide HI3]; rfl
              · have := unhide HI2
                simp [intOf] <;> omega
end Go.Proofs.YtbkcgkffafjbgaaDoor
