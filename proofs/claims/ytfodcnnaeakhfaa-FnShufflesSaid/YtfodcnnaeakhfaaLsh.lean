/- Of all choices each order of a few comes just once. -/
import Derived.Test.YtfodcnnaeakhfaaLpe
import Derived.Test.YtfodcnnaeakhfaaShs
import Derived.Test.YtfodcnnaeakhfaaAt
namespace Go.Proofs.Ytfodcnnaeakhfaa
open Go.RowKit
set_option maxHeartbeats 4000000
set_option maxRecDepth 100000
/-- the choices that a number tells: r modulo i, then the rest modulo one less, down to 2 -/
def dgF : Nat → Nat → List Int
  | 0, _ => []
  | i + 1, r => ((r % (i + 2) : Nat) : Int) :: dgF i (r / (i + 2))
def idF (ps : List Int) : Int := ps.foldl (fun a x => 5 * a + x) 0
def idOf (m k : Nat) : Nat := (idF (pOf (dgF m k))).toNat
def factN : Nat → Nat
  | 0 => 1
  | n + 1 => (n + 1) * factN n
theorem dgF_len : ∀ (m k : Nat), (dgF m k).length = m
  | 0, _ => rfl
  | m + 1, k => by rw [dgF, List.length_cons, dgF_len]
theorem dgF_ch : ∀ (m k : Nat), chB (dgF m k) = true
  | 0, _ => rfl
  | m + 1, k => by
    rw [dgF, chB, dgF_len, dgF_ch m, decide_eq_true (show (0 : Int) ≤ _ by omega), decide_eq_true]
    · rfl
    · have := Nat.mod_lt k (show 0 < m + 2 by omega); omega
theorem fact_small : ∀ m : Fin 5, factN (m.1 + 1) ≤ 120 := by decide
/-- the number that choices come of -/
def upF : List Int → Nat → Nat
  | [], _ => 0
  | c :: cs, i => c.toNat + i * upF cs (i - 1)
def dig : Nat → Nat → List Int → List Int
  | 0, _, a => a
  | i + 1, x, a => dig i (x / 5) (((x % 5 : Nat) : Int) :: a)
def bkF (m x : Nat) : Nat := upF (chF (dig (m + 1) x []) m (rg (m + 1))) (m + 1)
theorem ids_back : ∀ m : Fin 5, ∀ k : Fin 120, k.1 < factN (m.1 + 1) → bkF m.1 (idOf m.1 k.1) = k.1 := by decide +kernel
theorem ids_apart {m k j : Nat} (hm : m < 5) (hk : k < factN (m + 1)) (hj : j < k) : idOf m k ≠ idOf m j := fun e => by
  have h120 : factN (m + 1) ≤ 120 := fact_small ⟨m, hm⟩
  have h1 := ids_back ⟨m, hm⟩ ⟨k, by omega⟩ hk
  have h2 := ids_back ⟨m, hm⟩ ⟨j, by omega⟩ (show j < factN (m + 1) by omega)
  simp only at h1 h2
  rw [e, h2] at h1
  omega
theorem ids_small : ∀ m : Fin 5, ∀ k : Fin 120, idOf m.1 k.1 < 3125 := by decide +kernel
theorem make_seen : ∃ S : List Bool, S.length = 3125 ∧ (∀ i, S.getD i false = false) ∧ ∀ w : World, (Instr.makeSlice 30 (.int .i64 3125) (.int .i64 3125)).run Try.prog w = .ok (.slice (some ⟨w.heap.size, 0, none⟩) 3125 3125) (w.alloc (bolO S [])) :=
  ⟨List.replicate 3125 false, List.length_replicate, fun i => by rw [List.getD_eq_getElem?_getD, List.getElem?_replicate]; split <;> rfl, fun w => make_bools 3125 (by omega) w⟩
theorem idF_take {ps : List Int} {j : Nat} (h : j < ps.length) : idF (ps.take (j + 1)) = 5 * idF (ps.take j) + ps.getD j 0 := by
  unfold idF
  rw [List.take_add_one, List.foldl_append, List.getElem?_eq_getElem h, List.getD_eq_getElem?_getD, List.getElem?_eq_getElem h]
  rfl
theorem pow5 {j : Nat} (h : j ≤ 4) : (5 : Int) ^ j ≤ 625 := by
  have : j = 0 ∨ j = 1 ∨ j = 2 ∨ j = 3 ∨ j = 4 := by omega
  rcases this with rfl | rfl | rfl | rfl | rfl <;> decide
/-- what was seen up to k -/
def seenB (m k : Nat) (S : List Bool) : Prop := S.length = 3125 ∧ ∀ i, i < 3125 → S.getD i false = true → ∃ j, j < k ∧ idOf m j = i
theorem seenB_new {m k : Nat} {S : List Bool} (h : seenB m k S) (hm : m < 5) (hk : k < factN (m + 1)) : S.getD (idOf m k) false = false := by
  have h120 : factN (m + 1) ≤ 120 := fact_small ⟨m, hm⟩
  have hs : idOf m k < 3125 := ids_small ⟨m, hm⟩ ⟨k, by omega⟩
  cases hb : S.getD (idOf m k) false
  · rfl
  · obtain ⟨j, hj, e⟩ := h.2 _ hs hb
    exact absurd e.symm (ids_apart hm hk hj)
theorem seenB_set {m k : Nat} {S : List Bool} (h : seenB m k S) : seenB m (k + 1) (S.set (idOf m k) true) := by
  refine ⟨by rw [List.length_set]; exact h.1, fun i hi hb => ?_⟩
  rw [List.getD_eq_getElem?_getD, List.getElem?_set] at hb
  by_cases e : idOf m k = i
  · exact ⟨k, by omega, e⟩
  · rw [if_neg e, ← List.getD_eq_getElem?_getD] at hb
    obtain ⟨j, hj, e2⟩ := h.2 i hi hb
    exact ⟨j, by omega, e2⟩
theorem law_shuf (w : World) (A : Option Addr) (n cap : Nat) (hn : n ≤ maxLen) (hA : codeAt w A n) (B : Option Addr) (l cbp : Nat) (hl : l ≤ maxLen) (hB : codeAt w B l) :
    Calls Try.prog 4 #[.slice A n cap, .slice B l cbp] w fun e w' => e = .returned (.bool true) ∧ Below w.heap.size w w' := by
  obtain ⟨i0, hi0, hz0, hz1, hz2⟩ := info_parts info3b
  have HA := hide hA
  have HNN := hide hn
  have KA := hide (fun h => at_any w B l cbp 0 5 h (by omega) (by omega) (by omega) hB)
  unfold maxLen at hn hl
  have n0 : (0 : Int) ≤ (n : Int) := by omega
  have n1 : (n : Int) ≤ 9223372036854775807 := by omega
  have l0 : (0 : Int) ≤ (l : Int) := by omega
  have l1 : (l : Int) ≤ 9223372036854775807 := by omega
  by_cases h1 : 1048576 < n
  · have q : (1048576 : Int) < (n : Int) := by omega
    clear h1 hn hA hB hl KA HA HNN
    go_enter Try.func4, Try.ntmps4
    go_wp2
    go_ret
    exact ⟨rfl, Below.refl _ _⟩
  have q : (n : Int) ≤ 1048576 := by omega
  by_cases h2 : 1048576 < l
  · have q : (1048576 : Int) < (l : Int) := by omega
    clear h1 h2 hn hA hB hl KA HA HNN
    go_enter Try.func4, Try.ntmps4
    go_wp2
    go_ret
    exact ⟨rfl, Below.refl _ _⟩
  have q2 : (l : Int) ≤ 1048576 := by omega
  have K1 := hide (unhide KA (by omega))
  clear h1 h2 hn hl hA hB KA
  obtain ⟨S0, hS1, hS2, mk⟩ := make_seen
  have HS0 := hide (And.intro hS1 hS2)
  clear hS1 hS2
  go_enter Try.func4, Try.ntmps4
  go_wp2_with fail
  refine (unhide K1).mono ?_
  rintro e w1 ⟨m, rfl, hm, b1⟩
  have B1 := hide b1
  have HM := hide hm
  have m0 : (0 : Int) ≤ (m : Int) := by omega
  have m1 : (m : Int) ≤ 4 := by omega
  clear K1 b1 hm
  go_wp2
  go_loopw [6, 7] (fun a i wr => ∃ j : Nat, j ≤ m ∧ i = .int .i64 ((j : Int) + 2) ∧ a = .int .i64 ((factN (j + 1) : Nat) : Int) ∧ wr = w1) (fun _ i _ => m + 2 - (intOf i).toNat)
  case atStart => exact ⟨0, by omega, by go_num, rfl, rfl⟩
  case round =>
    obtain ⟨j, hj, rfl, rfl, rfl⟩ := hrel
    have hf : factN (j + 1) ≤ 120 := fact_small ⟨j, by have := unhide HM; omega⟩
    have f0 : (0 : Int) ≤ ((factN (j + 1) : Nat) : Int) := by omega
    have f1 : ((factN (j + 1) : Nat) : Int) ≤ 120 := by omega
    by_cases hlt : j < m
    · have hg : factN (j + 1 + 1) ≤ 120 := fact_small ⟨j + 1, by have := unhide HM; omega⟩
      have hfg : ((factN (j + 1) : Nat) : Int) * ((j : Int) + 2) = ((factN (j + 1 + 1) : Nat) : Int) := by
        rw [show factN (j + 1 + 1) = (j + 1 + 1) * factN (j + 1) from rfl, Nat.mul_comm]
        simp only [Int.natCast_mul, Int.natCast_add]
        rfl
      have g0 : (0 : Int) ≤ ((factN (j + 1 + 1) : Nat) : Int) := by omega
      have g1 : ((factN (j + 1 + 1) : Nat) : Int) ≤ 120 := by omega
      have q1 : (j : Int) < (m : Int) := by omega
      have q0 : (0 : Int) ≤ (j : Int) := by omega
      have HJ := hide hlt
      obtain ⟨G, hG⟩ : ∃ G : Int, ((factN (j + 1 + 1) : Nat) : Int) = G := ⟨_, rfl⟩
      have HG := hide hG
      rw [hG] at hfg g0 g1
      clear hG hlt hj hf hg mk
      generalize ((factN (j + 1) : Nat) : Int) = F at *
      go_wp2
      go_roundw
      case rel => exact ⟨j + 1, unhide HJ, by go_num, by rw [unhide HG], by first | rfl | trivial⟩
      case measure => have := unhide HJ; simp [intOf]; omega
    · obtain rfl : j = m := by omega
      have mk1 := mk wr
      have HALL : Hid ((factN (j + 1) : Nat) ≤ 120) := hide hf
      clear mk hf hj hlt
      obtain ⟨FA, hFA⟩ : ∃ F : Nat, factN (j + 1) = F := ⟨_, rfl⟩
      have HFA := hide hFA
      rw [hFA] at f0 f1 ⊢
      clear hFA
      go_wp2
      clear mk1
      generalize wr = w1 at *
      go_loopw [9] (fun s wr => ∃ (k : Nat) (S : List Bool), k ≤ FA ∧ s = .int .i64 (k : Int) ∧ seenB j k S ∧ wr.heap[w1.heap.size]? = some (bolO S []) ∧ Below w1.heap.size w1 wr) (fun s _ => FA - (intOf s).toNat)
      case atStart => exact ⟨0, S0, by omega, rfl, ⟨(unhide HS0).1, fun i _ h => by rw [(unhide HS0).2 i] at h; cases h⟩, heap_at _ _ _ rfl, bl_al (Below.refl _ _)⟩
      case round =>
        obtain ⟨k, S, hk, rfl, hseen, hrow, hbl⟩ := hrel
        clear HS0
        by_cases hlt : k < FA
        · have q1 : (k : Int) < (FA : Int) := by omega
          have q0 : (0 : Int) ≤ (k : Int) := by omega
          have HK := hide hlt
          have HSE := hide hseen
          have HR0 : Hid ((wr.alloc (.cells #[] 3 (0, 0))).heap[w1.heap.size]? = some (bolO S [])) := hide (by rw [Below.heap_alloc _ _ _ (Array.getElem?_eq_some_iff.1 hrow).1]; exact hrow)
          have HB0 := hide (bl_al (o := .cells #[] 3 (0, 0)) hbl)
          have hs2 : w1.heap.size + 1 ≤ wr.heap.size := (Array.getElem?_eq_some_iff.1 hrow).1
          have ho0 : (wr.alloc (.cells #[] 3 (0, 0))).ownsRow wr.heap.size 3 1 (.slice (some ⟨wr.heap.size, 0, none⟩) 0 0) 0 [] := World.ownsRow_made wr #[] 0 (Nat.le_refl _) (Nat.zero_le _) rfl
          obtain ⟨Bs, hBs⟩ : ∃ x, wr.heap.size = x := ⟨_, rfl⟩
          rw [hBs] at ho0 hs2
          have HO0 := hide ho0
          have HB2 := hide hs2
          have HZ0 : Hid (Bs ≤ (wr.alloc (.cells #[] 3 (0, 0))).heap.size) := hide (by rw [← hBs]; simp)
          have kb : (k : Int) ≤ 120 := by omega
          have HBs := hide hBs
          clear hrow hbl hseen hk hlt ho0 hs2 hBs
          go_wp2
          rw [unhide HBs]
          clear HBs
          generalize wr.alloc (.cells #[] 3 (0, 0)) = wz at *
          go_loopw [10, 11, 12] (fun o r s wy => ∃ (i rr : Nat) (cs : List Int), i ≤ j ∧ s = .int .i64 ((i : Int) + 1) ∧ r = .int .i64 (rr : Int) ∧ rr ≤ 120 ∧ cs.length + i = j ∧ cs ++ dgF i rr = dgF j k ∧ wy.ownsRow Bs 3 1 o cs.length (cs.map (Value.int .i64)) ∧ wy.heap[w1.heap.size]? = some (bolO S []) ∧ Below w1.heap.size w1 wy ∧ Bs ≤ wy.heap.size) (fun _ _ s _ => (intOf s).toNat)
          case atStart => exact ⟨j, k, [], Nat.le_refl _, by go_num, rfl, by omega, by simp, rfl, unhide HO0, unhide HR0, unhide HB0, unhide HZ0⟩
          case round =>
            obtain ⟨i, rr, cs, hi, rfl, rfl, hrr, hcl, hdg, hown, hrow, hbl, hzz⟩ := hrel
            clear HO0 HR0 HB0 HZ0
            cases i with
            | succ i =>
              have q3 : ((i + 1 : Nat) : Int) + 1 = (i : Int) + 2 := by omega
              rw [q3]
              have i0' : (0 : Int) ≤ (i : Int) := by omega
              have i1' : (i : Int) ≤ 4 := by omega
              have r0 : (0 : Int) ≤ (rr : Int) := by omega
              have r1 : (rr : Int) ≤ 120 := by omega
              have t1 : Int.tmod (rr : Int) ((i : Int) + 2) = ((rr % (i + 2) : Nat) : Int) := by rw [Int.tmod_eq_emod_of_nonneg r0]; rfl
              have t2 : Int.tdiv (rr : Int) ((i : Int) + 2) = ((rr / (i + 2) : Nat) : Int) := by rw [Int.tdiv_eq_ediv_of_nonneg r0]; rfl
              have d1 : rr / (i + 2) ≤ rr := Nat.div_le_self _ _
              have d2 : rr % (i + 2) < i + 2 := Nat.mod_lt _ (by omega)
              rw [dgF] at hdg
              have HD : Hid ((cs ++ [((rr % (i + 2) : Nat) : Int)]) ++ dgF i (rr / (i + 2)) = dgF j k) := hide (by rw [List.append_assoc]; exact hdg)
              have HC : Hid (cs.length + (i + 1) = j ∧ i ≤ j) := hide ⟨hcl, by omega⟩
              generalize rr % (i + 2) = x at *
              generalize rr / (i + 2) = y at *
              have x0 : (0 : Int) ≤ (x : Int) := by omega
              have x1 : (x : Int) ≤ 6 := by omega
              have y0 : (0 : Int) ≤ (y : Int) := by omega
              have y1 : (y : Int) ≤ 120 := by omega
              have HY : Hid (y ≤ 120) := hide (by omega)
              have cb : cs.length ≤ 16 := by have := unhide HM; omega
              have hbs := unhide HB2
              clear q3 hdg hcl hi hrr d1 d2
              go_wp2_with (
                at_builtin
                refine wpList_append_lies _ rfl _ _ 23 rfl (Bs) 3 i0 (.int .i64 0) 1 8 Try.underlying23 hi0 hz0 hz1 hz2 rfl (by omega) u10 cs.length (cs.map (Value.int .i64)) rfl (hown.alloc _) ⟨wr.heap.size, 0, none⟩ 1 1 [.int .i64 (x : Int)] rfl rfl (World.news_of_block (cs := #[.int .i64 (x : Int)]) (t := 3) (fr := (0, 0)) (heap_alloc_new wr _)) (by simp [Value.oneCell']) (by omega) (by unfold maxLen; omega) (by omega) (by simp; omega) (wr.heap.size + 1) (by simp) ?_
                intro gg cp w3 hown3 hgrow3 hat hltg
                have B3 := hide ((bl_al hbl).grown hgrow3 (bl_al hbl).size fun k hk => by have := (hown.lt k hk).1; omega)
                have R3 : Hid (w3.heap[w1.heap.size]? = some (bolO S [])) := hide (by
                  rw [hgrow3.block _ (by simp; omega) (fun e => by have := (hown.lt _ e.symm).1; omega), Below.heap_alloc _ _ _ (Array.getElem?_eq_some_iff.1 hrow).1]
                  exact hrow)
                have O3 : Hid (w3.ownsRow Bs 3 1 (.slice (some ⟨gg, 0, none⟩) (cs.length + 1) cp) (cs ++ [(x : Int)]).length ((cs ++ [(x : Int)]).map (Value.int .i64))) := hide (by rw [map_snoc, List.length_append]; exact hown3)
                have Z3 : Hid (Bs ≤ w3.heap.size) := hide (by have := hgrow3.size; simp at this; omega)
                clear hown hbl hown3 hgrow3 hat hltg hrow hzz)
              go_roundw
              case rel => exact ⟨i, y, cs ++ [(x : Int)], (unhide HC).2, by go_num, by go_num, unhide HY, by have := unhide HC; rw [List.length_append, List.length_singleton]; omega, unhide HD, unhide O3, unhide R3, unhide B3, unhide Z3⟩
              case measure => simp [intOf]; omega
            | zero =>
              rw [dgF, List.append_nil] at hdg
              subst hdg
              have hoi := rowI hown rfl
              have hslice := hoi.slice
              have hl6 : (dgF j k).length ≤ 6 := by rw [dgF_len]; have := unhide HM; omega
              have K1 := perm10 _ (dgF j k) wr hoi.ints (by omega)
              rw [pmR_ch hl6 (dgF_ch j k)] at K1
              have KP := hide K1
              obtain ⟨A1, c1, rfl⟩ := hslice
              have HROW := hide hrow
              have HBL := hide hbl
              clear hown hbl hrow hoi hl6 K1 hcl hi hrr hzz
              go_wp2_with fail
              refine (unhide KP).mono ?_
              rintro e w3 ⟨v3, rfl, o3, b3⟩
              have R3 : Hid (w3.heap[w1.heap.size]? = some (bolO S [])) := hide ((b3.block _ (Array.getElem?_eq_some_iff.1 (unhide HROW)).1).trans (unhide HROW))
              have B3 := hide (bl_st b3 (unhide HBL))
              have o3' := o3.ints
              obtain ⟨A3, c3, e3, h3⟩ := o3'
              subst e3
              rw [pOf_len, dgF_len] at h3 ⊢
              obtain ⟨bb, off, hA3, _, hc3⟩ := h3 (by omega)
              subst hA3
              have C3 := hide hc3
              have P3 : Hid (∀ t, t < j + 1 → 0 ≤ (pOf (dgF j k)).getD t 0 ∧ (pOf (dgF j k)).getD t 0 < ((j + 1 : Nat) : Int)) := hide fun t ht => by
                have := pOf_in (dgF_ch j k) t (by rw [dgF_len]; exact ht)
                rw [dgF_len] at this
                exact this
              have HPL : Hid ((pOf (dgF j k)).length = j + 1) := hide (by rw [pOf_len, dgF_len])
              have HID : Hid (((idOf j k : Nat) : Int) = idF (pOf (dgF j k)) ∨ ¬ 0 ≤ idF (pOf (dgF j k))) := hide (by unfold idOf; omega)
              clear KP HROW HBL o3 b3 h3 hc3
              generalize pOf (dgF j k) = ps at *
              have hjj : (((j : Int) + 1) != (1 + (j : Int))) = false := by rw [Int.add_comm]; simp
              go_wp2
              clear hjj
              go_loopw [15, 16] (fun a s wy => ∃ (t : Nat), t ≤ j + 1 ∧ s = .int .i64 (t : Int) ∧ a = .int .i64 (idF (ps.take t)) ∧ 0 ≤ idF (ps.take t) ∧ idF (ps.take t) < 5 ^ t ∧ wy = w3) (fun _ s _ => j + 1 - (intOf s).toNat)
              case atStart => exact ⟨0, by omega, rfl, rfl, Int.le_refl _, by show (0 : Int) < 1; omega, rfl⟩
              case round =>
                obtain ⟨t, ht, rfl, rfl, ha0, ha1, rfl⟩ := hrel
                by_cases htl : t < j + 1
                · have hp5 := pow5 (j := t) (by have := unhide HM; omega)
                  have pc := unhide C3 t htl
                  obtain ⟨x0, x1⟩ := unhide P3 t htl
                  have htk := idF_take (ps := ps) (j := t) (by have := unhide HPL; omega)
                  have HF : Hid (0 ≤ idF (ps.take (t + 1)) ∧ idF (ps.take (t + 1)) < 5 ^ (t + 1) ∧ idF (ps.take (t + 1)) = 5 * idF (ps.take t) + ps.getD t 0) := hide ⟨by omega, by rw [Int.pow_succ]; omega, htk⟩
                  have HT := hide htl
                  have q5 : (t : Int) < (j : Int) + 1 := by omega
                  have q6 : (0 : Int) ≤ (t : Int) := by omega
                  have a1 : idF (ps.take t) ≤ 625 := by omega
                  clear htk ht htl ha1 hp5
                  generalize ps.getD t 0 = x at *
                  generalize idF (ps.take t) = a at *
                  have x2 : x < (j : Int) + 1 := by omega
                  clear x1
                  go_wp2
                  go_roundw
                  case rel => exact ⟨t + 1, unhide HT, by go_num, by rw [(unhide HF).2.2], (unhide HF).1, (unhide HF).2.1, by first | rfl | trivial⟩
                  case measure => have := unhide HT; simp [intOf]; omega
                · obtain rfl : t = j + 1 := by omega
                  rw [List.take_of_length_le (by have := unhide HPL; omega)] at ha0 ⊢
                  have hid : idF ps = ((idOf j k : Nat) : Int) := by
                    rcases unhide HID with h | h
                    · exact h.symm
                    · omega
                  rw [hid]
                  have hk2 : k < factN (j + 1) := by have := unhide HFA; have := unhide HK; omega
                  have hnew := seenB_new (unhide HSE) (unhide HM) hk2
                  have hset := hide (seenB_set (unhide HSE))
                  have hsm : idOf j k < 3125 := ids_small ⟨j, unhide HM⟩ ⟨k, by omega⟩
                  have d1 : ((idOf j k : Nat) : Int) < 3125 := by omega
                  have d0 : (0 : Int) ≤ ((idOf j k : Nat) : Int) := by omega
                  have p1 := cell_bolO (unhide R3) (idOf j k) (by rw [(unhide HSE).1]; exact hsm)
                  rw [hnew] at p1
                  have p2 := free_bolO (unhide R3) (idOf j k)
                  have HP3 := hide (set_bolO (unhide R3) (idOf j k) true (by rw [(unhide HSE).1]; exact hsm))
                  clear hid hk2 hnew hsm ha0 ha1 ht htl
                  generalize S.set (idOf j k) true = S2 at *
                  generalize idOf j k = D at *
                  go_wp2
                  go_roundw
                  case rel => exact ⟨k + 1, S2, unhide HK, by go_num, unhide hset, unhide HP3, bl_set (unhide B3) (Nat.le_refl _)⟩
                  case measure => have := unhide HK; simp [intOf]; omega
        · obtain rfl : k = FA := by omega
          have b1 := bl_st hbl (unhide B1)
          have KW := hide (wordsOf_any 30 wr A n cap (by omega) (unhide HNN) (codeAt_below (unhide HA) b1))
          have B2 := hide b1
          clear hseen hrow hbl hk hlt b1 B1
          go_wp2_with fail
          refine (unhide KW).mono ?_
          rintro e w2 ⟨v2, xs, rfl, hx, hxw, o2, b2⟩
          have K1 := hide (shuffle17 v2 xs (1 + (j : Int)) w2 o2 (by omega))
          have K2 : Hid (∀ W, Below w2.heap.size w2 W → Calls Try.prog 18 #[v2, .int .i64 (1 + (j : Int))] W fun e w' => outJ W (shR xs (1 + (j : Int))).1 (shR xs (1 + (j : Int))).2.1 (shR xs (1 + (j : Int))).2.2 e w') := hide fun W hW => shuffle18 v2 xs (1 + (j : Int)) W (o2.below hW) (by omega)
          have HLN := hide (shR_len xs (1 + (j : Int)))
          have B3 := hide (bl_st b2 (unhide B2))
          obtain ⟨A2, c2, rfl, _⟩ := o2.2
          clear KW b2 o2 hx hxw B2
          generalize shR xs (1 + (j : Int)) = rr at *
          obtain ⟨ys, tk, cd⟩ := rr
          dsimp only at *
          go_wp2_with fail
          refine (unhide K1).mono ?_
          rintro e w3 ⟨v3, rfl, o3, b3⟩
          have O3 := hide o3
          have B4 := hide (bl_st b3 (unhide B3))
          have K3 := hide (unhide K2 w3 b3)
          clear K1 K2 o3 b3 B3
          go_wp2_with fail
          refine (unhide K3).mono ?_
          rintro e w4 ⟨v4, rfl, o4, b4⟩
          have B5 := hide (bl_st b4 (unhide B4))
          have KS := hide (same14 v3 v4 ys w4 ((unhide O3).below b4).ints o4.ints (by have := unhide HLN; omega))
          clear K3 o4 b4 B4 O3
          go_wp2_with fail
          refine (unhide KS).mono ?_
          rintro e w5 ⟨rfl, k5, hw5⟩
          have B6 : Hid (Below w.heap.size w w5) := hide (by rw [hw5]; exact below_drewN (unhide B5) _)
          clear KS hw5 B5
          go_wp2
          go_ret
          exact ⟨rfl, unhide B6⟩
end Go.Proofs.Ytfodcnnaeakhfaa
