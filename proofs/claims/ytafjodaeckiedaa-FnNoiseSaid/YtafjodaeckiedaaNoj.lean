/- Noises, one behind the other: the program's side. -/
import Derived.Test.YtafjodaeckiedaaNoi
namespace Go.Proofs.Ytafjodaeckiedaa
open Go.RowKit
set_option maxHeartbeats 4000000
set_option maxRecDepth 20000
def noisesL (m : Int) : List Int → List Int
  | g :: h :: r => clampN m g h :: noisesL m r
  | _ => []
def nCode (xs : List Int) (m a b : Int) : Int := if gCode xs a b = 0 then (if mOK m then 0 else 4) else gCode xs a b
/-- what noises end as: an answer, how many words were taken, a code -/
def nsEnd (N : Nat) (xs : List Int) (m a b : Int) (lo : Nat) (e : Ending) (w' : World) : Prop :=
  ∃ u t c, e = .returned (.tuple #[u, .int .i64 t, .int .i64 c]) ∧
    ((nCode xs m a b ≠ 0 ∧ t = 0 ∧ c = nCode xs m a b ∧ u = .slice none 0 0) ∨ (nCode xs m a b = 0 ∧ cF (65536 - 65536 % b) a b (N * 2) xs 0 = none ∧ t = 0 ∧ c = 14 ∧ u = .slice none 0 0) ∨
      (nCode xs m a b = 0 ∧ c = 0 ∧ ∃ ds, cF (65536 - 65536 % b) a b (N * 2) xs 0 = some (ds, t) ∧ ownI lo w'.heap.size w' u (noisesL m ds)))
theorem noisesL_at (m : Int) : ∀ (ds : List Int) (N j : Nat), ds.length = N * 2 → j < N → (noisesL m ds).getD j 0 = clampN m (ds.getD (j * 2) 0) (ds.getD (j * 2 + 1) 0)
  | [], N, j, h, hj => by simp at h; omega
  | [x], N, j, h, hj => by simp at h; omega
  | g :: h :: r, 0, j, _, hj => by omega
  | g :: h :: r, N + 1, 0, _, _ => rfl
  | g :: h :: r, N + 1, j + 1, hl, hj => by
    rw [noisesL, List.getD_cons_succ, noisesL_at m r N j (by simp at hl; omega) (by omega)]
    rw [show (j + 1) * 2 = j * 2 + 1 + 1 by omega, List.getD_cons_succ, List.getD_cons_succ, List.getD_cons_succ, List.getD_cons_succ]
theorem noisesL_len (m : Int) : ∀ (ds : List Int) (N : Nat), ds.length = N * 2 → (noisesL m ds).length = N
  | [], N, h => by simp at h; obtain rfl : N = 0 := by omega
                   rfl
  | [x], N, h => by simp at h; omega
  | g :: h :: r, 0, hl => by simp at hl
  | g :: h :: r, N + 1, hl => by rw [noisesL, List.length_cons, noisesL_len m r N (by simp at hl; omega)]
theorem getD_bd {ds : List Int} {B : Int} (h : ∀ d ∈ ds, 0 ≤ d ∧ d ≤ B) (hB : 0 ≤ B) (i : Nat) : 0 ≤ ds.getD i 0 ∧ ds.getD i 0 ≤ B := by
  rw [List.getD_eq_getElem?_getD]
  cases he : ds[i]? with
  | none => exact ⟨Int.le_refl _, hB⟩
  | some x => exact h x (List.mem_of_getElem? he)
theorem noises39 (v : Value) (xs : List Int) (w : World) (hv : intsC w v xs) (hn : xs.length ≤ 1048576) (N : Nat) (hN : N ≤ 2) (m a b : Int) :
    Calls Try.prog 39 #[v, .int .i64 (N : Int), .int .i64 m, .int .i64 a, .int .i64 b] w fun e w' => nsEnd N xs m a b w.heap.size e w' ∧ Below w.heap.size w w' := by
  have K1 := hide (code14 v xs w hv.1 (by omega))
  have K2 := hide (mean30 m w)
  have K3 := hide (ratio31 a b w)
  have K4 := hide (fun hk => counts44 v xs w hv hk (N * 2) (by omega) a b)
  have HX := hide hv.1
  obtain ⟨A, cap, rfl, _⟩ := hv.2
  clear hv hn
  have N2 : (N : Int) ≤ 2 := by omega
  have N0 : (0 : Int) ≤ (N : Int) := by omega
  rcases gCode_cases xs a b with ⟨h1, hg, hw⟩ | ⟨h1, hb, hg, hw⟩ | ⟨h1, hb, hr, hg, hw⟩ | ⟨h1, hb, hr, hg, hw⟩
  · have HE : Hid (nCode xs m a b = 2) := hide (by unfold nCode; rw [hg, if_neg (by omega)])
    rw [hw] at K1
    clear h1 K2 K3 K4 hg hw HX
    go_enter Try.func39, Try.ntmps39
    go_wp2_with fail
    refine (unhide K1).mono ?_
    rintro e w' ⟨rfl, hw'⟩
    have hw2 := hw'.symm
    subst hw2
    clear K1
    go_wp2
    go_ret3
    exact ⟨⟨_, _, _, rfl, .inl ⟨by rw [unhide HE]; omega, rfl, (unhide HE).symm, rfl⟩⟩, Below.refl _ _⟩
  · have HE : Hid (nCode xs m a b = 1) := hide (by unfold nCode; rw [hg, if_neg (by omega)])
    rw [hw] at K1
    clear h1 K2 K3 K4 hg hw hb HX
    go_enter Try.func39, Try.ntmps39
    go_wp2_with fail
    refine (unhide K1).mono ?_
    rintro e w' ⟨rfl, hw'⟩
    have hw2 := hw'.symm
    subst hw2
    clear K1
    go_wp2
    go_ret3
    exact ⟨⟨_, _, _, rfl, .inl ⟨by rw [unhide HE]; omega, rfl, (unhide HE).symm, rfl⟩⟩, Below.refl _ _⟩
  · have HE : Hid (nCode xs m a b = 4) := hide (by unfold nCode; rw [hg, if_neg (by omega)])
    rw [hw] at K1
    rw [hr] at K3
    cases hm : mOK m
    all_goals
      rw [hm] at K2
      clear hm
    all_goals clear h1 K4 hg hw hb hr HX
    · clear K3
      go_enter Try.func39, Try.ntmps39
      go_wp2_with fail
      refine (unhide K1).mono ?_
      rintro e w' ⟨rfl, hw'⟩
      have hw2 := hw'.symm
      subst hw2
      clear K1
      go_wp2_with fail
      refine (unhide K2).mono ?_
      rintro e w' ⟨rfl, hw'⟩
      have hw2 := hw'.symm
      subst hw2
      clear K2
      go_wp2
      go_ret3
      exact ⟨⟨_, _, _, rfl, .inl ⟨by rw [unhide HE]; omega, rfl, (unhide HE).symm, rfl⟩⟩, Below.refl _ _⟩
    · skip
      go_enter Try.func39, Try.ntmps39
      go_wp2_with fail
      refine (unhide K1).mono ?_
      rintro e w' ⟨rfl, hw'⟩
      have hw2 := hw'.symm
      subst hw2
      clear K1
      go_wp2_with fail
      refine (unhide K2).mono ?_
      rintro e w' ⟨rfl, hw'⟩
      have hw2 := hw'.symm
      subst hw2
      clear K2
      go_wp2_with fail
      refine (unhide K3).mono ?_
      rintro e w' ⟨rfl, hw'⟩
      have hw2 := hw'.symm
      subst hw2
      clear K3
      go_wp2
      go_ret3
      exact ⟨⟨_, _, _, rfl, .inl ⟨by rw [unhide HE]; omega, rfl, (unhide HE).symm, rfl⟩⟩, Below.refl _ _⟩
  · rw [hw] at K1
    rw [hr] at K3
    cases hm : mOK m
    · have HE : Hid (nCode xs m a b = 4) := hide (by unfold nCode; rw [hg, if_pos rfl, hm]; rfl)
      rw [hm] at K2
      clear h1 K3 K4 hg hw hb hr hm HX
      go_enter Try.func39, Try.ntmps39
      go_wp2_with fail
      refine (unhide K1).mono ?_
      rintro e w' ⟨rfl, hw'⟩
      have hw2 := hw'.symm
      subst hw2
      clear K1
      go_wp2_with fail
      refine (unhide K2).mono ?_
      rintro e w' ⟨rfl, hw'⟩
      have hw2 := hw'.symm
      subst hw2
      clear K2
      go_wp2
      go_ret3
      exact ⟨⟨_, _, _, rfl, .inl ⟨by rw [unhide HE]; omega, rfl, (unhide HE).symm, rfl⟩⟩, Below.refl _ _⟩
    · have HC : Hid (nCode xs m a b = 0) := hide (by unfold nCode; rw [hg, if_pos rfl, hm]; rfl)
      rw [hm] at K2
      obtain ⟨r1, r2, r3⟩ : 1 ≤ a ∧ a < b ∧ b ≤ 16 := of_decide_eq_true hr
      obtain ⟨m0, m8⟩ : 0 ≤ m ∧ m ≤ 8 := of_decide_eq_true hm
      have HL := hide (wOK_len hb)
      have K5 := unhide K4 hb r1 r2 r3
      rw [show ((N * 2 : Nat) : Int) = (N : Int) * 2 by omega] at K5
      have K5 := hide K5
      have mk := make_ints N (by omega)
      clear h1 K4 hg hw hb hr hm r1 r2 r3
      obtain ⟨top, ht⟩ : ∃ top, top = 65536 - 65536 % b := ⟨_, rfl⟩
      rw [← ht] at K5
      unfold nsEnd
      rw [← ht]
      clear ht
      go_enter Try.func39, Try.ntmps39
      go_wp2_with fail
      refine (unhide K1).mono ?_
      rintro e w' ⟨rfl, hw'⟩
      have hw2 := hw'.symm
      subst hw2
      clear K1
      go_wp2_with fail
      refine (unhide K2).mono ?_
      rintro e w' ⟨rfl, hw'⟩
      have hw2 := hw'.symm
      subst hw2
      clear K2
      go_wp2_with fail
      refine (unhide K3).mono ?_
      rintro e w' ⟨rfl, hw'⟩
      have hw2 := hw'.symm
      subst hw2
      clear K3
      go_wp2_with fail
      refine (unhide K5).mono ?_
      rintro e w2 ⟨u, t, c, rfl, hb, h⟩
      have HB := hide hb
      clear K5 hb
      rcases h with ⟨ds, k, h, rfl, rfl, ho⟩ | ⟨h, rfl, rfl, rfl⟩
      · have HE := hide h
        obtain ⟨l1, l2, l3, l4⟩ := cF_bd _ _ _ _ _ h
        have HLN := hide (noisesL_len m ds N l1)
        have HAT := hide (fun j hj => noisesL_at m ds N j l1 hj)
        have HG : Hid (∀ i, 0 ≤ ds.getD i 0 ∧ ds.getD i 0 ≤ 2000) := hide fun i => getD_bd (B := 2000) (fun d hd => ⟨(l4 d hd).1, by have := (l4 d hd).2; have := unhide HL; omega⟩) (by omega) i
        have HL1 := hide l1
        have HO := hide ho
        have HOI : Hid (intsV w2 u ds) := hide ho.ints
        obtain ⟨A2, c2, rfl⟩ : ∃ A2 c2, u = .slice A2 ds.length c2 := by
          obtain ⟨A2, c2, hu, _⟩ := ho.ints
          exact ⟨A2, c2, hu⟩
        rw [l1] at HO HOI ⊢
        clear h ho l1 l2 l3 l4
        go_wp2
        clear mk
        go_loopw [52] (fun i wr => ∃ j : Nat, j ≤ N ∧ i = .int .i64 j ∧ wr.heap[w2.heap.size]? = some (rowObj 3 .i64 (mixL (noisesL m ds) (List.replicate N 0) j) []) ∧ Below w2.heap.size w2 wr) (fun i _ => N - (intOf i).toNat)
        case atStart => exact ⟨0, by omega, rfl, by rw [mixL_zero, heap_at _ _ _ rfl], (Below.refl _ _).alloc (Nat.le_refl _) _⟩
        case round =>
          obtain ⟨j, hj, rfl, hro, hbl⟩ := hrel
          by_cases hlt : j < N
          · obtain ⟨A3, c3, hA3, hcc⟩ := (unhide HOI)
            obtain ⟨bb, off, rfl, hbb, hcell⟩ := hcc (by have := unhide HL1; omega)
            simp only [Value.slice.injEq] at hA3
            obtain ⟨rfl, _, rfl⟩ := hA3
            have q1 : (j : Int) < (N : Int) := by omega
            have q0 : (0 : Int) ≤ (j : Int) := by omega
            have q2 : (j : Int) ≤ 1 := by omega
            obtain ⟨x0, x1⟩ := unhide HG (j * 2)
            obtain ⟨y0, y1⟩ := unhide HG (j * 2 + 1)
            have hat := unhide HAT j hlt
            have hln : (mixL (noisesL m ds) (List.replicate N 0) j).length = N := by rw [mixL_len _ _ _ (by rw [unhide HLN]; simp)]; simp
            have pa : ∀ k, (wr.drewN k).cell? ⟨bb, off + j * 2, none⟩ = some (.int .i64 (ds.getD (j * 2) 0)) := fun k => (cell_below hbl hbb).trans (hcell (j * 2) (by have := unhide HL1; omega))
            have pb : ∀ k, (wr.drewN k).cell? ⟨bb, off + (j * 2 + 1), none⟩ = some (.int .i64 (ds.getD (j * 2 + 1) 0)) := fun k => (cell_below hbl hbb).trans (hcell (j * 2 + 1) (by have := unhide HL1; omega))
            have p1 : ∀ k, (wr.drewN k).cell? ⟨w2.heap.size, j, none⟩ = _ := fun k => cell_rowO hro j (by omega)
            have p2 : ∀ k, (wr.drewN k).frozen? ⟨w2.heap.size, j, none⟩ = _ := fun k => free_rowO hro j
            generalize ds.getD (j * 2) 0 = x at *
            generalize ds.getD (j * 2 + 1) 0 = y at *
            have HJ := hide hlt
            have HBL := hide hbl
            have HRO := hide hro
            have HATJ := hide hat
            clear hro hbl hcell hbb hat hln hlt hj hcc
            have pa' : wr.cell? ⟨bb, off + j * 2, none⟩ = some (.int .i64 x) := pa 0
            have pb' : wr.cell? ⟨bb, off + (j * 2 + 1), none⟩ = some (.int .i64 y) := pb 0
            have q3 : ((j : Int) * 2).toNat = j * 2 := by omega
            have q4 : ((j : Int) * 2 + 1).toNat = j * 2 + 1 := by omega
            go_wp2
            go_quiet (fail)
            have hro2 : (wr.drewN nq).heap[w2.heap.size]? = some (rowObj 3 .i64 (mixL (noisesL m ds) (List.replicate N 0) j) []) := unhide HRO
            have hbl2 : Below w2.heap.size w2 (wr.drewN nq) := below_drewN (unhide HBL) nq
            have p3 := p1 nq
            have p4 := p2 nq
            clear pa pb pa' pb' q3 q4 p1 p2 HRO HBL
            generalize wr.drewN nq = W2 at *
            have fin : Hid (∀ z : Int, z = clampN m x y → (W2.setCell ⟨w2.heap.size, j, none⟩ (.int .i64 z)).heap[w2.heap.size]? = some (rowObj 3 .i64 (mixL (noisesL m ds) (List.replicate N 0) (j + 1)) []) ∧ Below w2.heap.size w2 (W2.setCell ⟨w2.heap.size, j, none⟩ (.int .i64 z))) := hide fun z hz => by
              refine ⟨?_, bl_set hbl2 (Nat.le_refl _)⟩
              have hln : (mixL (noisesL m ds) (List.replicate N 0) j).length = N := by rw [mixL_len _ _ _ (by rw [unhide HLN]; simp)]; simp
              rw [set_rowO hro2 j z (by have := unhide HJ; omega), hz, ← unhide HATJ, mixL_succ _ _ _ (by rw [unhide HLN]; simp) (by simpa using unhide HJ)]
            generalize (mixL (noisesL m ds) (List.replicate N 0) j).getD j 0 = old at *
            clear hro2 hbl2
            rcases Int.lt_or_le (m + x - y) 0 with hx | hx
            · have HX : Hid ((0 : Int) = clampN m x y) := hide (by unfold clampN; omega)
              have x2 : 0 ≤ 2 * m := by omega
              go_wp2
              all_goals
                go_roundw
                case rel => exact ⟨j + 1, unhide HJ, by go_num, unhide fin _ (by have := unhide HX; omega)⟩
                case measure => have := unhide HJ; simp [intOf]; omega
            · rcases Int.lt_or_le (2 * m) (m + x - y) with hy | hy
              · have HX : Hid (2 * m = clampN m x y) := hide (by unfold clampN; omega)
                have x3 : 2 * m ≤ m + x - y := by omega
                go_wp2
                all_goals
                  go_roundw
                  case rel => exact ⟨j + 1, unhide HJ, by go_num, unhide fin _ (by have := unhide HX; omega)⟩
                  case measure => have := unhide HJ; simp [intOf]; omega
              · have HX : Hid (m + x - y = clampN m x y) := hide (by unfold clampN; omega)
                go_wp2
                all_goals
                  go_roundw
                  case rel => exact ⟨j + 1, unhide HJ, by go_num, unhide fin _ (by have := unhide HX; omega)⟩
                  case measure => have := unhide HJ; simp [intOf]; omega
          · obtain rfl : j = N := by omega
            have hm := mixL_all (noisesL m ds) (List.replicate j 0) (by rw [unhide HLN]; simp)
            rw [List.length_replicate] at hm
            rw [hm] at hro
            have HRO := hide hro
            have hbel := hide hbl
            clear hro hbl hm
            go_wp2
            go_ret3
            refine ⟨⟨_, _, _, rfl, .inr (.inr ⟨unhide HC, rfl, ds, unhide HE, .inr ⟨w2.heap.size, j, [], ?_, (unhide HB).size, (Array.getElem?_eq_some_iff.1 (unhide HRO)).1, unhide HRO, by rw [unhide HLN]; exact Nat.le_refl _⟩⟩)⟩, bl_st (unhide hbel) (unhide HB)⟩
            rw [unhide HLN]
            rfl
      · have HE := hide h
        clear h mk
        go_wp2
        go_ret3
        exact ⟨⟨_, _, _, rfl, .inr (.inl ⟨unhide HC, unhide HE, rfl, rfl, rfl⟩)⟩, unhide HB⟩
end Go.Proofs.Ytafjodaeckiedaa
