/- A right filter drawn of a source. -/
import Derived.Test.YthckgccfjpgbaaaSbl
import Derived.Test.YthckgccfjpgbaaaNes
namespace Go.Proofs.Ythckgccfjpgbaaa
open Go.RowKit
set_option maxHeartbeats 4000000
set_option maxRecDepth 20000
/-- an answer of a filter, drawn: its lists lie in new blocks, behind the first -/
def outD (p : Nat) (w : World) (e : Ending) (w' : World) : Prop := ∃ (v : Value) (x : Blm) (lo hi : Nat), e = .returned v ∧ okX x = true ∧ ownX lo hi w' v x ∧ w.heap.size < lo ∧ Lone p w w'
theorem bloom44 (w : World) (p : Nat) (A : Option Addr) (n cap : Nat) (h : SrcAt w p A n cap 0 w) (hn : n ≤ maxLen) (hc : codeIn w p A n) :
    Calls Try.prog 44 #[.pointer (some ⟨p, 0, none⟩)] w fun e w' => outD p w e w' := by
  have hp := h.pp
  have NX : Hid (∀ (N : Int) (L : Nat) (W : World), SrcAt w p A n cap L W → 1 < N → N ≤ 65536 → L ≤ 1000 → Calls Try.prog 75 #[.pointer (some ⟨p, 0, none⟩), .int .i64 N] W fun e w' => ∃ c : Nat, e = .returned (.int .i64 (c : Int)) ∧ (c : Int) < N ∧ SrcAt w p A n cap (L + 3) w' ∧ Lone p W w' ∧ w'.heap.size = W.heap.size) := hide fun N L W h hN hN2 hL => next_all N w p A n cap L W h hN hN2 hn hL hc
  have Z0 := hide (heap_alloc_new w (.cells #[.int .i64 0, .int .i64 0, .slice none 0 0, .slice none 0 0] 26))
  have S0 : SrcAt w p A n cap 0 (w.alloc (.cells #[.int .i64 0, .int .i64 0, .slice none 0 0, .slice none 0 0] 26)) := h.below (bl_al (Below.refl _ _))
  have S1 : SrcAt w p A n cap 0 ((w.alloc (.cells #[.int .i64 0, .int .i64 0, .slice none 0 0, .slice none 0 0] 26)).alloc (.cells #[.int .i64 11, .int .i64 31, .int .i64 61, .int .i64 101, .int .i64 509] 3)) := S0.below (bl_al (Below.refl _ _))
  have K0 := hide (unhide NX 5 0 _ S1 (by omega) (by omega) (by omega))
  have HL := hide (heap_alloc_new (w.alloc (.cells #[.int .i64 0, .int .i64 0, .slice none 0 0, .slice none 0 0] 26)) (.cells #[.int .i64 11, .int .i64 31, .int .i64 61, .int .i64 101, .int .i64 509] 3))
  have HZ : Hid (((w.alloc (.cells #[.int .i64 0, .int .i64 0, .slice none 0 0, .slice none 0 0] 26)).alloc (.cells #[.int .i64 11, .int .i64 31, .int .i64 61, .int .i64 101, .int .i64 509] 3)).heap[w.heap.size]? = some (.cells #[.int .i64 0, .int .i64 0, .slice none 0 0, .slice none 0 0] 26 (0, 0))) := hide ((Below.heap_alloc _ _ _ (by simp)).trans (heap_alloc_new w (.cells #[.int .i64 0, .int .i64 0, .slice none 0 0, .slice none 0 0] 26)))
  have e0 : (w.alloc (.cells #[.int .i64 0, .int .i64 0, .slice none 0 0, .slice none 0 0] 26)).heap.size = w.heap.size + 1 := by simp
  have e1 : Hid (((w.alloc (.cells #[.int .i64 0, .int .i64 0, .slice none 0 0, .slice none 0 0] 26)).alloc (.cells #[.int .i64 11, .int .i64 31, .int .i64 61, .int .i64 101, .int .i64 509] 3)).heap.size = w.heap.size + 1 + 1) := hide (by simp)
  rw [e0] at HL
  have HPW := hide hp
  clear h S0 S1 e0 Z0
  go_enter Try.func44, Try.ntmps44
  go_wp2_with fail
  generalize (w.alloc (.cells #[.int .i64 0, .int .i64 0, .slice none 0 0, .slice none 0 0] 26)).alloc (.cells #[.int .i64 11, .int .i64 31, .int .i64 61, .int .i64 101, .int .i64 509] 3) = w1 at *
  refine (unhide K0).mono ?_
  rintro e w2 ⟨c0, rfl, hc0, s2, l2, e2⟩
  obtain ⟨P, hcl, hP⟩ := lit5_cell (g := w.heap.size + 1) (v := c0) ((l2.block (w.heap.size + 1) (by have := unhide e1; omega) (by omega)).trans (unhide HL)) (by omega)
  have HP := hide hP
  have Z2 := hide ((l2.block w.heap.size (by have := unhide e1; omega) (by omega)).trans (unhide HZ))
  have E2 := hide (e2.trans (unhide e1))
  have S2 := hide s2
  have p1 := hP.lo
  have p2 := hP.hi
  have iv0 : (0 : Int) ≤ (c0 : Int) := by omega
  have ip0 : (11 : Int) ≤ (P : Int) := by omega
  have ip1 : (P : Int) ≤ 509 := by omega
  have S3 := hide (s2.below (bl_al (o := .cells #[] 67) (Below.refl _ _)))
  have Z3 := hide ((Below.heap_alloc _ (.cells #[] 67) _ (by rw [unhide E2]; omega)).trans (unhide Z2))
  have K3 := hide (unhide NX 4 3 _ (unhide S3) (by omega) (by omega) (by omega))
  have O3 := hide (World.ownsRow_made w2 (base := w2.heap.size) (e := 67) (size := 2) #[] 0 (Nat.le_refl _) (Nat.zero_le _) rfl)
  have E3 : Hid ((w2.alloc (.cells #[] 67)).heap.size = w.heap.size + 1 + 1 + 1) := hide (by simp; exact unhide E2)
  clear s2 l2 e2 HL HZ e1 K0 hP
  go_wp2_with fail
  generalize hW3 : w2.alloc (.cells #[] 67) = w3 at *
  rw [unhide E2]
  rw [unhide E2] at O3
  refine (unhide K3).mono ?_
  rintro e w4 ⟨c1, rfl, hc1, s4, l4, e4⟩
  have S4 := hide s4
  have O4 := hide (ownsRow_lone (unhide O3) l4 (by omega))
  have Z4 := hide ((l4.block w.heap.size (by have := unhide E3; omega) (by omega)).trans (unhide Z3))
  have E4 := hide (e4.trans (unhide E3))
  have HC1 := hide (show c1 < 4 by omega)
  have i1 : (0 : Int) ≤ (c1 : Int) := by omega
  clear s4 l4 e4 O3 Z3 E3 S3 K3 hc0 hcl iv0 hW3 S2 Z2 E2
  obtain ⟨T, hT⟩ : ∃ T : Nat, (1 : Int) + (c1 : Int) = (T : Int) := ⟨1 + c1, by omega⟩
  have t1 : Hid (1 ≤ T ∧ T ≤ 4) := hide (by have := unhide HC1; omega)
  go_wp2
  clear hT HC1 i1 hc1
  go_loopw [4, 5] (fun u i wr => ∃ (j : Nat) (ss : List Slt) (L : Nat), ss.length + j = T ∧ i = .int .i64 j ∧ (∃ g c, u = .slice (some ⟨g, 0, none⟩) ss.length c) ∧ wr.ownsRow (w.heap.size + 1 + 1) 67 2 u ss.length (flatS ss) ∧ ss.all (saltOK P) = true ∧ L + 6 * j ≤ 30 ∧ SrcAt w p A n cap L wr ∧ wr.heap[w.heap.size]? = some (.cells #[.int .i64 0, .int .i64 0, .slice none 0 0, .slice none 0 0] 26 (0, 0)) ∧ w.heap.size + 1 + 1 + 1 ≤ wr.heap.size) (fun _ i _ => (intOf i).toNat)
  case atStart => exact ⟨T, [], 6, by simp, rfl, ⟨_, _, rfl⟩, unhide O4, rfl, by have := unhide t1; omega, unhide S4, unhide Z4, by have := unhide E4; omega⟩
  case round =>
    obtain ⟨j, ss, L, hj, rfl, ⟨g, c, rfl⟩, hown, hall, hL, hsr, hz, hsz⟩ := hrel
    have HJ := hide hj
    have OWN := hide hown
    have ALL := hide hall
    have HLL := hide hL
    have SR := hide hsr
    have HZr := hide hz
    have SZ := hide hsz
    have HT := unhide t1
    have j0 : (0 : Int) ≤ (j : Int) := by omega
    have j4 : (j : Int) ≤ 4 := by omega
    have sl0 : (0 : Int) ≤ (ss.length : Int) := by omega
    have sl1 : (ss.length : Int) ≤ 4 := by omega
    clear hj hown hall hL hsr hz hsz
    by_cases hlt : (0 : Int) < (j : Int)
    · have K1 := hide (unhide NX P L wr (unhide SR) (by omega) (by omega) (by have := unhide HLL; omega))
      clear HT
      go_wp2_with fail
      refine (unhide K1).mono ?_
      rintro e w5 ⟨c2, rfl, hc2, s5, l5, e5⟩
      have O5 := hide (ownsRow_lone (unhide OWN) l5 (by have := unhide HPW; omega))
      have Z5 := hide ((l5.block w.heap.size (by have := unhide SZ; omega) (by have := unhide HPW; omega)).trans (unhide HZr))
      have E5 : Hid (w.heap.size + 1 + 1 + 1 ≤ w5.heap.size) := hide (by have := unhide SZ; omega)
      have K2 := hide (unhide NX P (L + 3) w5 s5 (by omega) (by omega) (by have := unhide HLL; omega))
      have HC2 := hide hc2
      clear K1 s5 l5 e5 OWN HZr SZ SR hc2
      go_wp2_with fail
      refine (unhide K2).mono ?_
      rintro e w6 ⟨c3, rfl, hc3, s6, l6, e6⟩
      have BA : Below w6.heap.size w6 (w6.alloc (.cells #[.int .i64 (c2 : Int), .int .i64 (c3 : Int)] 67)) := bl_al (Below.refl _ _)
      have O6 := hide (ownsRow_below (ownsRow_lone (unhide O5) l6 (by have := unhide HPW; omega)) BA)
      have S6 := hide (s6.below BA)
      have Z6 := hide ((BA.block w.heap.size (by have := unhide E5; omega)).trans ((l6.block w.heap.size (by have := unhide E5; omega) (by have := unhide HPW; omega)).trans (unhide Z5)))
      have E6 : Hid (w.heap.size + 1 + 1 + 1 ≤ (w6.alloc (.cells #[.int .i64 (c2 : Int), .int .i64 (c3 : Int)] 67)).heap.size) := hide (by have := unhide E5; have := BA.size; omega)
      have V6 := hide (one_salt w6 (c2 : Int) (c3 : Int))
      have OK6 : Hid (saltOK P ((c2 : Int), (c3 : Int)) = true) := hide (by unfold saltOK; rw [inP_nat (unhide HC2), inP_nat hc3]; rfl)
      have gb : Hid (w.heap.size + 1 + 1 ≤ g) := hide (own_base (unhide O6))
      clear K2 s6 l6 e6 O5 Z5 E5 hc3 HC2 BA
      go_wp2_with (at_builtin; go_loud (refine wpList_append_salts _ rfl _ _ rfl (w.heap.size + 1 + 1) ss.length (.slice (some ⟨g, 0, none⟩) ss.length c) ss rfl (unhide O6) ⟨_, _, rfl⟩ (.slice (some ⟨w6.heap.size, 0, none⟩) 1 1) [((c2 : Int), (c3 : Int))] rfl (unhide V6) (by simp; omega) (by have := unhide E6; omega) ?_; intro g1 c1 w7 own1 gr1; have O7 := hide own1; have S7 := hide ((unhide S6).grown (q := g) gr1 (by have := unhide gb; omega)); have Z7 := hide ((gr1.block w.heap.size (by have := unhide E6; omega) (fun h => by have := unhide gb; have h2 : w.heap.size = g := Option.some.inj h; omega)).trans (unhide Z6)); have E7 : Hid (w.heap.size + 1 + 1 + 1 ≤ w7.heap.size) := hide (Nat.le_trans (unhide E6) gr1.size); clear own1 gr1))
      have e9 : ss.length + 1 = (ss ++ [((c2 : Int), (c3 : Int))]).length := by simp
      obtain ⟨j', rfl⟩ : ∃ j', j = j' + 1 := ⟨j - 1, by omega⟩
      go_roundw
      case rel => exact ⟨j', ss ++ [((c2 : Int), (c3 : Int))], L + 3 + 3, by have := unhide HJ; simp; omega, by go_num, ⟨g1, c1, by rw [e9]⟩, by rw [← e9]; exact unhide O7, all_snoc (unhide ALL) (unhide OK6), by have := unhide HLL; omega, unhide S7, unhide Z7, unhide E7⟩
      case measure => simp [intOf]
    · have OS := hide (own_salts (unhide OWN) ⟨_, _, rfl⟩)
      have hL30 : Hid (L ≤ 30) := hide (by have := unhide HLL; omega)
      have hs1 : 1 ≤ ss.length := by have := unhide HJ; omega
      have hne := (unhide HP).ne
      clear HT HJ HLL OWN
      rcases (show (P : Int) < 64 ∨ (64 : Int) < (P : Int) by omega) with h64 | h64
      · have K5 := hide (unhide NX P L wr (unhide SR) (by omega) (by omega) (by have := unhide hL30; omega))
        go_wp2_with fail
        refine (unhide K5).mono ?_
        rintro e w5 ⟨c2, rfl, hc2, s5, l5, e5⟩
        have OS5 := (unhide OS).lone l5 (by have := unhide HPW; omega)
        have Z5 := hide ((l5.block w.heap.size (by have := unhide SZ; omega) (by have := unhide HPW; omega)).trans (unhide HZr))
        have E5 : Hid (w.heap.size + 1 + 1 + 1 ≤ w5.heap.size) := hide (by have := unhide SZ; omega)
        have S5 := hide s5
        obtain ⟨M, hM⟩ : ∃ M : Nat, (1 : Int) + (c2 : Int) = (M : Int) := ⟨1 + c2, by omega⟩
        have K6 := hide (new29 P M _ ss w5 OS5.salts (by omega))
        obtain ⟨x0, en, okx, hx1, hx2⟩ := new_draw (M := M) (ss := ss) (unhide HP) (by omega) (by omega) (by omega) hs1 (by omega) (unhide ALL)
        rw [en] at K6
        have OKX := hide okx
        have HX0 := hide (And.intro hx1 hx2)
        have iM0 : (0 : Int) ≤ (M : Int) := by omega
        have iM1 : (M : Int) ≤ 64 := by omega
        have ic2 : (0 : Int) ≤ (c2 : Int) := by omega
        clear okx hx1 hx2 en K5 s5 l5 e5 OS5 OS HZr SZ SR h64 hs1 hne ALL
        go_wp2_with fail
        clear hM hc2 ic2
        refine (unhide K6).mono ?_
        rintro e w6 ⟨r, rfl, ox, b6⟩
        obtain ⟨D1, m1, k1, D2, m2, k2, hre⟩ := ox.slices
        subst hre
        have OX := hide ox
        have Z6 := hide ((b6.block w.heap.size (by have := unhide E5; omega)).trans (unhide Z5))
        have L6 := hide b6.size
        have BA : Below w6.heap.size w6 (w6.alloc (.cells #[.int .i64 x0.p, .int .i64 x0.w, .slice D1 m1 k1, .slice D2 m2 k2] 26)) := bl_al (Below.refl _ _)
        have K7 := hide (unhide NX 6 (L + 3) _ (((unhide S5).below b6).below BA) (by omega) (by omega) (by have := unhide hL30; omega))
        have Z7 := hide ((BA.block w.heap.size (by have := unhide E5; have := b6.size; omega)).trans (unhide Z6))
        have X7 := hide (heap_alloc_new w6 (.cells #[.int .i64 x0.p, .int .i64 x0.w, .slice D1 m1 k1, .slice D2 m2 k2] 26))
        have O7 := hide (ox.below BA)
        have E7 : Hid ((w6.alloc (.cells #[.int .i64 x0.p, .int .i64 x0.w, .slice D1 m1 k1, .slice D2 m2 k2] 26)).heap.size = w6.heap.size + 1) := hide (by simp)
        clear K6 ox b6 Z5 S5 iM0 iM1 Z6 OX BA
        go_wp2_with fail
        generalize w6.alloc (.cells #[.int .i64 x0.p, .int .i64 x0.w, .slice D1 m1 k1, .slice D2 m2 k2] 26) = w7 at *
        refine (unhide K7).mono ?_
        rintro e w8 ⟨c3, rfl, hc3, s8, l8, e8⟩
        have P8 := unhide HPW
        have Q5 := unhide E5
        have Q6 := unhide L6
        have Q7 := unhide E7
        have Z8 := hide ((l8.block w.heap.size (by omega) (by omega)).trans (unhide Z7))
        have X8 := hide ((l8.block w6.heap.size (by omega) (by omega)).trans (unhide X7))
        have O8 := hide ((unhide O7).lone l8 (by omega))
        have S8 := hide s8
        have E8 := hide (show w8.heap.size = w6.heap.size + 1 by omega)
        have c30 : (0 : Int) ≤ (c3 : Int) := by omega
        have HC3 := hide (show c3 ≤ 5 by omega)
        clear K7 s8 l8 e8 Z7 X7 O7 E7 Q7
        go_wp2
        go_loopw [8] (fun i wr => ∃ (j : Nat) (y : Blm) (a b : Value) (lo hi L' : Nat), j ≤ 5 ∧ i = .int .i64 j ∧ okX y = true ∧ y.p = P ∧ wr.heap[w6.heap.size]? = some (.cells #[.int .i64 y.p, .int .i64 y.w, a, b] 26 (0, 0)) ∧ ownX lo hi wr (bloV y.p y.w a b) y ∧ w.heap.size < lo ∧ hi ≤ wr.heap.size ∧ (w6.heap.size < lo ∨ hi ≤ w6.heap.size) ∧ L' + 3 * j ≤ 60 ∧ SrcAt w p A n cap L' wr ∧ wr.heap[w.heap.size]? = some (.cells #[.int .i64 0, .int .i64 0, .slice none 0 0, .slice none 0 0] 26 (0, 0))) (fun i _ => (intOf i).toNat)
        case atStart => exact ⟨c3, x0, _, _, _, _, L + 3 + 3, unhide HC3, rfl, unhide OKX, (unhide HX0).1, unhide X8, unhide O8, by omega, by have := unhide E8; omega, .inr (Nat.le_refl _), by have := unhide HC3; have := unhide hL30; omega, unhide S8, unhide Z8⟩
        case round =>
          obtain ⟨j, y, a, b, lo, hi, L', hj, rfl, hok, hyp, hX, hO, hlo, hhi, hap, hL', hS, hZ⟩ := hrel
          have gX := (Array.getElem?_eq_some_iff.1 hX).1
          have gZ := (Array.getElem?_eq_some_iff.1 hZ).1
          have hsm := (right_of hok).small
          by_cases hlt : (0 : Int) < (j : Int)
          · have j5 : (j : Int) ≤ 5 := by omega
            have HE := hide (fun t ht => addR_law (x := y) (t := t) hok ht)
            have hP8 : p < w.heap.size := P8
            go_wp2
            generalize hgx : w6.heap.size = gx at *
            refine wp_region_held (S := fun W' => Below wr.heap.size wr W' ∨ True) (by kernel_rfl) ?_
            have hS0 : Below wr.heap.size wr { wr with drawn := wr.drawn + 1 } ∨ True := .inr trivial
            refine wpAnyH_take (i := 1) (oi := { dst := some 51, op := Op.move (Operand.tmp 0), type := 62, pos := "l10_bloom.go:167", after := #[], guard := none }) (v := ?_) rfl (by kernel_rfl) (by kernel_rfl) (by kernel_rfl) (fun _ _ _ h => h) (Or.inl ⟨by rfl, ?_⟩) hS0 ?_
            rotate_left
            · intro W hSw
              go_simp
              try with_reducible rfl
            simp only [Act.put, List.setIfInBounds_toArray, List.set_cons_zero, List.set_cons_succ]
            refine wpAnyH_take (i := 2) (oi := { dst := some 52, op := Op.move (Operand.tmp 3), type := 3, pos := "l10_bloom.go:167", after := #[], guard := none }) (v := ?_) rfl (by kernel_rfl) (by kernel_rfl) (by kernel_rfl) (fun _ _ _ h => h) (Or.inl ⟨by rfl, ?_⟩) hS0 ?_
            rotate_left
            · intro W hSw
              go_simp
              try with_reducible rfl
            simp only [Act.put, List.setIfInBounds_toArray, List.set_cons_zero, List.set_cons_succ]
            obtain ⟨v0, hv0⟩ : ∃ v0, v0 = ({ wr with drawn := wr.drawn + 1 } : World) := ⟨_, rfl⟩
            have s0 : Below wr.heap.size wr v0 := by rw [hv0]; exact below_drewN (Below.refl _ _) 1
            have hT : ∀ W, Below wr.heap.size wr W ∨ True := fun _ => .inr trivial
            rw [← hv0]
            clear hv0 hS0
            have x0 := (s0.block gx gX).trans hX
            have z0 := (s0.block w.heap.size gZ).trans hZ
            have o0 := hO.below s0
            have r0 := hS.below s0
            have k0 : v0.heap.size = v0.heap.size := rfl
            have m0 := s0.size
            clear hX hZ hO hS s0
            refine wpAnyH_two (i := 0) (j := 3) (by kernel_rfl) ?_ ?_
            · obtain ⟨_, c0, c1, c2, c3⟩ := bc_row x0
              refine wpOp_step (o := { dst := some 50, op := Op.load 26 (Operand.tmp 6), type := 26, pos := "l10_bloom.go:167", after := #[], guard := none }) rfl fun K' hK => step_valueW (by rfl) (bloV y.p y.w a b) (v0) (by go_simp) ?_
              refine hK _ _ ⟨hT _, ?_⟩
              simp only [Act.put, List.setIfInBounds_toArray, List.set_cons_zero, List.set_cons_succ]
              clear c0 c1 c2 c3
              refine wpAnyH_one (i := 3) (by kernel_rfl) ?_
              refine wpOp_step (o := { dst := some 53, op := Op.call { callee := Callee.value (Operand.func 75), args := #[Operand.tmp 51, Operand.tmp 52], argTypes := #[62, 3] }, type := 3, pos := "l10_bloom.go:167", after := #[{ on := 1, ground := Ground.data }, { on := 2, ground := Ground.data }], guard := none }) rfl fun K' hK => step_enterW (by rfl) 75 #[.pointer (some ⟨p, 0, none⟩), .int .i64 (P : Int)] (by go_simp) ((unhide NX P L' v0 r0 (by omega) (by omega) (by omega)).mono ?_)
              rintro e v1 ⟨t, rfl, ht, r1, l1, e1⟩
              have x1 := (l1.block gx (by omega) (by omega)).trans x0
              have z1 := (l1.block w.heap.size (by omega) (by omega)).trans z0
              have o1 := o0.lone l1 (by omega)
              have m1 : wr.heap.size ≤ v1.heap.size := by omega
              clear l1 x0 z0 o0 r0
              refine ⟨_, rfl, hK _ _ ⟨hT _, ?_⟩⟩
              simp only [Act.put, List.setIfInBounds_toArray, List.set_cons_zero, List.set_cons_succ]
              refine wpAnyH_one (i := 4) (by kernel_rfl) ?_
              refine wpOp_step (o := { dst := some 54, op := Op.call { callee := Callee.value (Operand.func 18), args := #[Operand.tmp 50, Operand.tmp 53], argTypes := #[26, 3] }, type := 28, pos := "l10_bloom.go:167", after := #[{ on := 0, ground := Ground.data }, { on := 3, ground := Ground.data }, { on := 3, ground := Ground.chain }], guard := none }) rfl fun K' hK => step_enterW (by rfl) 18 #[bloV y.p y.w a b, .int .i64 (t : Int)] (by go_simp) ((add18 _ y t v1 o1.blm hsm.1 hsm.2).mono ?_)
              rintro e v2 ⟨q, rfl, oR, b2⟩
              rw [unhide HE t (inP_nat (by rw [hyp]; exact ht))] at oR ⊢
              dsimp only at oR
              obtain ⟨D1', m1', k1', D2', m2', k2', hre⟩ := oR.slices
              subst hre
              have x2 := (b2.block gx (by omega)).trans x1
              have z2 := (b2.block w.heap.size (by omega)).trans z1
              have r2 := r1.below b2
              have bs := b2.size
              have go := (Array.getElem?_eq_some_iff.1 x1).1
              clear b2 x1 z1 o1 r1
              refine ⟨_, rfl, hK _ _ ⟨hT _, ?_⟩⟩
              simp only [Act.put, List.setIfInBounds_toArray, List.set_cons_zero, List.set_cons_succ]
              refine wpAnyH_take (i := 5) (oi := { dst := some 49, op := Op.move (Operand.tmp 54), type := 28, pos := "l10_bloom.go:167", after := #[{ on := 4, ground := Ground.data }], guard := none }) (v := ?_) rfl (by kernel_rfl) (by kernel_rfl) (by kernel_rfl) (fun _ _ _ h => h) (Or.inl ⟨by rfl, ?_⟩) (hT _) ?_
              rotate_left
              · intro W hSw
                go_simp
                try with_reducible rfl
              simp only [Act.put, List.setIfInBounds_toArray, List.set_cons_zero, List.set_cons_succ]
              refine wpAnyH_take (i := 6) (oi := { dst := some 55, op := Op.extract (Operand.tmp 49) 0, type := 26, pos := "l10_bloom.go:167", after := #[{ on := 5, ground := Ground.data }], guard := none }) (v := ?_) rfl (by kernel_rfl) (by kernel_rfl) (by kernel_rfl) (fun _ _ _ h => h) (Or.inl ⟨by rfl, ?_⟩) (hT _) ?_
              rotate_left
              · intro W hSw
                go_simp
                try with_reducible rfl
              simp only [Act.put, List.setIfInBounds_toArray, List.set_cons_zero, List.set_cons_succ]
              refine wpAnyH_take (i := 7) (oi := { dst := some 56, op := Op.extract (Operand.tmp 49) 1, type := 3, pos := "l10_bloom.go:167", after := #[{ on := 5, ground := Ground.data }, { on := 8, ground := Ground.gcOnly Departure.lateStores }], guard := none }) (v := ?_) rfl (by kernel_rfl) (by kernel_rfl) (by kernel_rfl) (fun _ _ _ h => h) (Or.inl ⟨by rfl, ?_⟩) (hT _) ?_
              rotate_left
              · intro W hSw
                go_simp
                try with_reducible rfl
              simp only [Act.put, List.setIfInBounds_toArray, List.set_cons_zero, List.set_cons_succ]
              have f0 : v2.cell? ⟨gx, 0, none⟩ = some (.int .i64 y.p) := row_cell x2
              have g0 : v2.frozen? ⟨gx, 0, none⟩ = false := row_free x2
              have f1 : v2.cell? ⟨gx, 1, none⟩ = some (.int .i64 y.w) := row_cell x2
              have g1 : v2.frozen? ⟨gx, 1, none⟩ = false := row_free x2
              have f2 : v2.cell? ⟨gx, 2, none⟩ = some (a) := row_cell x2
              have g2 : v2.frozen? ⟨gx, 2, none⟩ = false := row_free x2
              have f3 : v2.cell? ⟨gx, 3, none⟩ = some (b) := row_cell x2
              have g3 : v2.frozen? ⟨gx, 3, none⟩ = false := row_free x2
              refine wpAnyH_one (i := 8) (by kernel_rfl) ?_
              refine wpOp_step (o := { dst := none, op := Op.store 26 (Operand.tmp 6) (Operand.tmp 55), type := 0, pos := "l10_bloom.go:167", after := #[{ on := 6, ground := Ground.data }, { on := 4, ground := Ground.chain }, { on := 0, ground := Ground.phase }, { on := 1, ground := Ground.phase }, { on := 2, ground := Ground.phase }, { on := 3, ground := Ground.phase }, { on := 4, ground := Ground.phase }, { on := 5, ground := Ground.phase }, { on := 6, ground := Ground.phase }, { on := 7, ground := Ground.textOnly Departure.lateStores }], guard := none }) rfl fun K' hK => step_skipW (by rfl) (put4 v2 gx (addX y t).p (addX y t).w (.slice D1' m1' k1') (.slice D2' m2' k2')) (by go_simp) ?_
              refine hK _ _ ⟨hT _, ?_⟩
              try simp only [Act.put]
              refine wpAnyH_done (by kernel_rfl) ?_ _
              have X9 := hide (row_put4 x2 (addX y t).p (addX y t).w (.slice D1' m1' k1') (.slice D2' m2' k2'))
              have LN := lone_put4 v2 gx (addX y t).p (addX y t).w (.slice D1' m1' k1') (.slice D2' m2' k2')
              have O9 := hide (oR.lone LN (by omega))
              have Z9 := hide ((LN.block w.heap.size (by omega) (by omega)).trans z2)
              have S9 := hide (r2.lone LN (by omega))
              have E9 := hide (size_put4 v2 gx (addX y t).p (addX y t).w (.slice D1' m1' k1') (.slice D2' m2' k2'))
              clear LN f0 f1 f2 f3 g0 g1 g2 g3 x2 z2 r2 oR
              generalize put4 v2 gx (addX y t).p (addX y t).w (.slice D1' m1' k1') (.slice D2' m2' k2') = w9 at *
              go_wp2
              obtain ⟨j', rfl⟩ : ∃ j', j = j' + 1 := ⟨j - 1, by omega⟩
              go_roundw
              case rel => exact ⟨j', by omega, by omega, addX y t, add_ok hok, hyp, _, _, unhide X9, _, _, unhide O9, by omega, by rw [unhide E9]; exact Nat.le_refl _, .inl (by omega), L' + 3, by omega, unhide S9, unhide Z9⟩
              case measure => simp [intOf]; omega
            · refine wpOp_step (o := { dst := some 53, op := Op.call { callee := Callee.value (Operand.func 75), args := #[Operand.tmp 51, Operand.tmp 52], argTypes := #[62, 3] }, type := 3, pos := "l10_bloom.go:167", after := #[{ on := 1, ground := Ground.data }, { on := 2, ground := Ground.data }], guard := none }) rfl fun K' hK => step_enterW (by rfl) 75 #[.pointer (some ⟨p, 0, none⟩), .int .i64 (P : Int)] (by go_simp) ((unhide NX P L' v0 r0 (by omega) (by omega) (by omega)).mono ?_)
              rintro e v1 ⟨t, rfl, ht, r1, l1, e1⟩
              have x1 := (l1.block gx (by omega) (by omega)).trans x0
              have z1 := (l1.block w.heap.size (by omega) (by omega)).trans z0
              have o1 := o0.lone l1 (by omega)
              have m1 : wr.heap.size ≤ v1.heap.size := by omega
              clear l1 x0 z0 o0 r0
              refine ⟨_, rfl, hK _ _ ⟨hT _, ?_⟩⟩
              simp only [Act.put, List.setIfInBounds_toArray, List.set_cons_zero, List.set_cons_succ]
              refine wpAnyH_one (i := 0) (by kernel_rfl) ?_
              obtain ⟨_, c0, c1, c2, c3⟩ := bc_row x1
              refine wpOp_step (o := { dst := some 50, op := Op.load 26 (Operand.tmp 6), type := 26, pos := "l10_bloom.go:167", after := #[], guard := none }) rfl fun K' hK => step_valueW (by rfl) (bloV y.p y.w a b) (v1) (by go_simp) ?_
              refine hK _ _ ⟨hT _, ?_⟩
              simp only [Act.put, List.setIfInBounds_toArray, List.set_cons_zero, List.set_cons_succ]
              clear c0 c1 c2 c3
              refine wpAnyH_one (i := 4) (by kernel_rfl) ?_
              refine wpOp_step (o := { dst := some 54, op := Op.call { callee := Callee.value (Operand.func 18), args := #[Operand.tmp 50, Operand.tmp 53], argTypes := #[26, 3] }, type := 28, pos := "l10_bloom.go:167", after := #[{ on := 0, ground := Ground.data }, { on := 3, ground := Ground.data }, { on := 3, ground := Ground.chain }], guard := none }) rfl fun K' hK => step_enterW (by rfl) 18 #[bloV y.p y.w a b, .int .i64 (t : Int)] (by go_simp) ((add18 _ y t v1 o1.blm hsm.1 hsm.2).mono ?_)
              rintro e v2 ⟨q, rfl, oR, b2⟩
              rw [unhide HE t (inP_nat (by rw [hyp]; exact ht))] at oR ⊢
              dsimp only at oR
              obtain ⟨D1', m1', k1', D2', m2', k2', hre⟩ := oR.slices
              subst hre
              have x2 := (b2.block gx (by omega)).trans x1
              have z2 := (b2.block w.heap.size (by omega)).trans z1
              have r2 := r1.below b2
              have bs := b2.size
              have go := (Array.getElem?_eq_some_iff.1 x1).1
              clear b2 x1 z1 o1 r1
              refine ⟨_, rfl, hK _ _ ⟨hT _, ?_⟩⟩
              simp only [Act.put, List.setIfInBounds_toArray, List.set_cons_zero, List.set_cons_succ]
              refine wpAnyH_take (i := 5) (oi := { dst := some 49, op := Op.move (Operand.tmp 54), type := 28, pos := "l10_bloom.go:167", after := #[{ on := 4, ground := Ground.data }], guard := none }) (v := ?_) rfl (by kernel_rfl) (by kernel_rfl) (by kernel_rfl) (fun _ _ _ h => h) (Or.inl ⟨by rfl, ?_⟩) (hT _) ?_
              rotate_left
              · intro W hSw
                go_simp
                try with_reducible rfl
              simp only [Act.put, List.setIfInBounds_toArray, List.set_cons_zero, List.set_cons_succ]
              refine wpAnyH_take (i := 6) (oi := { dst := some 55, op := Op.extract (Operand.tmp 49) 0, type := 26, pos := "l10_bloom.go:167", after := #[{ on := 5, ground := Ground.data }], guard := none }) (v := ?_) rfl (by kernel_rfl) (by kernel_rfl) (by kernel_rfl) (fun _ _ _ h => h) (Or.inl ⟨by rfl, ?_⟩) (hT _) ?_
              rotate_left
              · intro W hSw
                go_simp
                try with_reducible rfl
              simp only [Act.put, List.setIfInBounds_toArray, List.set_cons_zero, List.set_cons_succ]
              refine wpAnyH_take (i := 7) (oi := { dst := some 56, op := Op.extract (Operand.tmp 49) 1, type := 3, pos := "l10_bloom.go:167", after := #[{ on := 5, ground := Ground.data }, { on := 8, ground := Ground.gcOnly Departure.lateStores }], guard := none }) (v := ?_) rfl (by kernel_rfl) (by kernel_rfl) (by kernel_rfl) (fun _ _ _ h => h) (Or.inl ⟨by rfl, ?_⟩) (hT _) ?_
              rotate_left
              · intro W hSw
                go_simp
                try with_reducible rfl
              simp only [Act.put, List.setIfInBounds_toArray, List.set_cons_zero, List.set_cons_succ]
              have f0 : v2.cell? ⟨gx, 0, none⟩ = some (.int .i64 y.p) := row_cell x2
              have g0 : v2.frozen? ⟨gx, 0, none⟩ = false := row_free x2
              have f1 : v2.cell? ⟨gx, 1, none⟩ = some (.int .i64 y.w) := row_cell x2
              have g1 : v2.frozen? ⟨gx, 1, none⟩ = false := row_free x2
              have f2 : v2.cell? ⟨gx, 2, none⟩ = some (a) := row_cell x2
              have g2 : v2.frozen? ⟨gx, 2, none⟩ = false := row_free x2
              have f3 : v2.cell? ⟨gx, 3, none⟩ = some (b) := row_cell x2
              have g3 : v2.frozen? ⟨gx, 3, none⟩ = false := row_free x2
              refine wpAnyH_one (i := 8) (by kernel_rfl) ?_
              refine wpOp_step (o := { dst := none, op := Op.store 26 (Operand.tmp 6) (Operand.tmp 55), type := 0, pos := "l10_bloom.go:167", after := #[{ on := 6, ground := Ground.data }, { on := 4, ground := Ground.chain }, { on := 0, ground := Ground.phase }, { on := 1, ground := Ground.phase }, { on := 2, ground := Ground.phase }, { on := 3, ground := Ground.phase }, { on := 4, ground := Ground.phase }, { on := 5, ground := Ground.phase }, { on := 6, ground := Ground.phase }, { on := 7, ground := Ground.textOnly Departure.lateStores }], guard := none }) rfl fun K' hK => step_skipW (by rfl) (put4 v2 gx (addX y t).p (addX y t).w (.slice D1' m1' k1') (.slice D2' m2' k2')) (by go_simp) ?_
              refine hK _ _ ⟨hT _, ?_⟩
              try simp only [Act.put]
              refine wpAnyH_done (by kernel_rfl) ?_ _
              have X9 := hide (row_put4 x2 (addX y t).p (addX y t).w (.slice D1' m1' k1') (.slice D2' m2' k2'))
              have LN := lone_put4 v2 gx (addX y t).p (addX y t).w (.slice D1' m1' k1') (.slice D2' m2' k2')
              have O9 := hide (oR.lone LN (by omega))
              have Z9 := hide ((LN.block w.heap.size (by omega) (by omega)).trans z2)
              have S9 := hide (r2.lone LN (by omega))
              have E9 := hide (size_put4 v2 gx (addX y t).p (addX y t).w (.slice D1' m1' k1') (.slice D2' m2' k2'))
              clear LN f0 f1 f2 f3 g0 g1 g2 g3 x2 z2 r2 oR
              generalize put4 v2 gx (addX y t).p (addX y t).w (.slice D1' m1' k1') (.slice D2' m2' k2') = w9 at *
              go_wp2
              obtain ⟨j', rfl⟩ : ∃ j', j = j' + 1 := ⟨j - 1, by omega⟩
              go_roundw
              case rel => exact ⟨j', by omega, by omega, addX y t, add_ok hok, hyp, _, _, unhide X9, _, _, unhide O9, by omega, by rw [unhide E9]; exact Nat.le_refl _, .inl (by omega), L' + 3, by omega, unhide S9, unhide Z9⟩
              case measure => simp [intOf]; omega
          · obtain ⟨D3, m3, k3, D4, m4, k4, hre⟩ := hO.slices
            obtain ⟨rfl, rfl⟩ : a = .slice D3 m3 k3 ∧ b = .slice D4 m4 k4 := by simpa using hre
            clear hre
            obtain ⟨_, c0, c1, c2, c3⟩ := bc_row hX
            have f0 : wr.cell? ⟨w.heap.size, 0, none⟩ = some (.int .i64 0) := row_cell hZ
            have g0 : wr.frozen? ⟨w.heap.size, 0, none⟩ = false := row_free hZ
            have f1 : wr.cell? ⟨w.heap.size, 1, none⟩ = some (.int .i64 0) := row_cell hZ
            have g1 : wr.frozen? ⟨w.heap.size, 1, none⟩ = false := row_free hZ
            have f2 : wr.cell? ⟨w.heap.size, 2, none⟩ = some (.slice none 0 0) := row_cell hZ
            have g2 : wr.frozen? ⟨w.heap.size, 2, none⟩ = false := row_free hZ
            have f3 : wr.cell? ⟨w.heap.size, 3, none⟩ = some (.slice none 0 0) := row_cell hZ
            have g3 : wr.frozen? ⟨w.heap.size, 3, none⟩ = false := row_free hZ
            have ox := hO.lone (lone_put4 wr w.heap.size y.p y.w (.slice D3 m3 k3) (.slice D4 m4 k4)) (by omega)
            have HB := hide ox
            have HLO := hide hlo
            have HO9 := hide (hS.lone (lone_put4 wr w.heap.size y.p y.w (.slice D3 m3 k3) (.slice D4 m4 k4)) (Nat.le_refl _)).l
            have HR := hide (row_put4 hZ y.p y.w (.slice D3 m3 k3) (.slice D4 m4 k4))
            have HOK := hide hok
            clear ox hO hS hX hZ hap hhi hlo hL' hsm hok hyp
            go_wp2
            refine bodyPost_ret (v := bloV y.p y.w (.slice D3 m3 k3) (.slice D4 m4 k4)) ?_ rfl ⟨_, y, lo, hi, rfl, unhide HOK, unhide HB, unhide HLO, unhide HO9⟩
            exact results_cell_row rfl _ _ w.heap.size 26 _ (0, 0) _ rfl (unhide HR) Try.underlying26 rfl (by kernel_rfl)
      · have K5 := hide (unhide NX 64 L wr (unhide SR) (by omega) (by omega) (by have := unhide hL30; omega))
        go_wp2_with fail
        refine (unhide K5).mono ?_
        rintro e w5 ⟨c2, rfl, hc2, s5, l5, e5⟩
        have OS5 := (unhide OS).lone l5 (by have := unhide HPW; omega)
        have Z5 := hide ((l5.block w.heap.size (by have := unhide SZ; omega) (by have := unhide HPW; omega)).trans (unhide HZr))
        have E5 : Hid (w.heap.size + 1 + 1 + 1 ≤ w5.heap.size) := hide (by have := unhide SZ; omega)
        have S5 := hide s5
        obtain ⟨M, hM⟩ : ∃ M : Nat, (1 : Int) + (c2 : Int) = (M : Int) := ⟨1 + c2, by omega⟩
        have K6 := hide (new29 P M _ ss w5 OS5.salts (by omega))
        obtain ⟨x0, en, okx, hx1, hx2⟩ := new_draw (M := M) (ss := ss) (unhide HP) (by omega) (by omega) (by omega) hs1 (by omega) (unhide ALL)
        rw [en] at K6
        have OKX := hide okx
        have HX0 := hide (And.intro hx1 hx2)
        have iM0 : (0 : Int) ≤ (M : Int) := by omega
        have iM1 : (M : Int) ≤ 64 := by omega
        have ic2 : (0 : Int) ≤ (c2 : Int) := by omega
        clear okx hx1 hx2 en K5 s5 l5 e5 OS5 OS HZr SZ SR h64 hs1 hne ALL
        go_wp2_with fail
        clear hM hc2 ic2
        refine (unhide K6).mono ?_
        rintro e w6 ⟨r, rfl, ox, b6⟩
        obtain ⟨D1, m1, k1, D2, m2, k2, hre⟩ := ox.slices
        subst hre
        have OX := hide ox
        have Z6 := hide ((b6.block w.heap.size (by have := unhide E5; omega)).trans (unhide Z5))
        have L6 := hide b6.size
        have BA : Below w6.heap.size w6 (w6.alloc (.cells #[.int .i64 x0.p, .int .i64 x0.w, .slice D1 m1 k1, .slice D2 m2 k2] 26)) := bl_al (Below.refl _ _)
        have K7 := hide (unhide NX 6 (L + 3) _ (((unhide S5).below b6).below BA) (by omega) (by omega) (by have := unhide hL30; omega))
        have Z7 := hide ((BA.block w.heap.size (by have := unhide E5; have := b6.size; omega)).trans (unhide Z6))
        have X7 := hide (heap_alloc_new w6 (.cells #[.int .i64 x0.p, .int .i64 x0.w, .slice D1 m1 k1, .slice D2 m2 k2] 26))
        have O7 := hide (ox.below BA)
        have E7 : Hid ((w6.alloc (.cells #[.int .i64 x0.p, .int .i64 x0.w, .slice D1 m1 k1, .slice D2 m2 k2] 26)).heap.size = w6.heap.size + 1) := hide (by simp)
        clear K6 ox b6 Z5 S5 iM0 iM1 Z6 OX BA
        go_wp2_with fail
        generalize w6.alloc (.cells #[.int .i64 x0.p, .int .i64 x0.w, .slice D1 m1 k1, .slice D2 m2 k2] 26) = w7 at *
        refine (unhide K7).mono ?_
        rintro e w8 ⟨c3, rfl, hc3, s8, l8, e8⟩
        have P8 := unhide HPW
        have Q5 := unhide E5
        have Q6 := unhide L6
        have Q7 := unhide E7
        have Z8 := hide ((l8.block w.heap.size (by omega) (by omega)).trans (unhide Z7))
        have X8 := hide ((l8.block w6.heap.size (by omega) (by omega)).trans (unhide X7))
        have O8 := hide ((unhide O7).lone l8 (by omega))
        have S8 := hide s8
        have E8 := hide (show w8.heap.size = w6.heap.size + 1 by omega)
        have c30 : (0 : Int) ≤ (c3 : Int) := by omega
        have HC3 := hide (show c3 ≤ 5 by omega)
        clear K7 s8 l8 e8 Z7 X7 O7 E7 Q7
        go_wp2
        go_loopw [8] (fun i wr => ∃ (j : Nat) (y : Blm) (a b : Value) (lo hi L' : Nat), j ≤ 5 ∧ i = .int .i64 j ∧ okX y = true ∧ y.p = P ∧ wr.heap[w6.heap.size]? = some (.cells #[.int .i64 y.p, .int .i64 y.w, a, b] 26 (0, 0)) ∧ ownX lo hi wr (bloV y.p y.w a b) y ∧ w.heap.size < lo ∧ hi ≤ wr.heap.size ∧ (w6.heap.size < lo ∨ hi ≤ w6.heap.size) ∧ L' + 3 * j ≤ 60 ∧ SrcAt w p A n cap L' wr ∧ wr.heap[w.heap.size]? = some (.cells #[.int .i64 0, .int .i64 0, .slice none 0 0, .slice none 0 0] 26 (0, 0))) (fun i _ => (intOf i).toNat)
        case atStart => exact ⟨c3, x0, _, _, _, _, L + 3 + 3, unhide HC3, rfl, unhide OKX, (unhide HX0).1, unhide X8, unhide O8, by omega, by have := unhide E8; omega, .inr (Nat.le_refl _), by have := unhide HC3; have := unhide hL30; omega, unhide S8, unhide Z8⟩
        case round =>
          obtain ⟨j, y, a, b, lo, hi, L', hj, rfl, hok, hyp, hX, hO, hlo, hhi, hap, hL', hS, hZ⟩ := hrel
          have gX := (Array.getElem?_eq_some_iff.1 hX).1
          have gZ := (Array.getElem?_eq_some_iff.1 hZ).1
          have hsm := (right_of hok).small
          by_cases hlt : (0 : Int) < (j : Int)
          · have j5 : (j : Int) ≤ 5 := by omega
            have HE := hide (fun t ht => addR_law (x := y) (t := t) hok ht)
            have hP8 : p < w.heap.size := P8
            go_wp2
            generalize hgx : w6.heap.size = gx at *
            refine wp_region_held (S := fun W' => Below wr.heap.size wr W' ∨ True) (by kernel_rfl) ?_
            have hS0 : Below wr.heap.size wr { wr with drawn := wr.drawn + 1 } ∨ True := .inr trivial
            refine wpAnyH_take (i := 1) (oi := { dst := some 51, op := Op.move (Operand.tmp 0), type := 62, pos := "l10_bloom.go:167", after := #[], guard := none }) (v := ?_) rfl (by kernel_rfl) (by kernel_rfl) (by kernel_rfl) (fun _ _ _ h => h) (Or.inl ⟨by rfl, ?_⟩) hS0 ?_
            rotate_left
            · intro W hSw
              go_simp
              try with_reducible rfl
            simp only [Act.put, List.setIfInBounds_toArray, List.set_cons_zero, List.set_cons_succ]
            refine wpAnyH_take (i := 2) (oi := { dst := some 52, op := Op.move (Operand.tmp 3), type := 3, pos := "l10_bloom.go:167", after := #[], guard := none }) (v := ?_) rfl (by kernel_rfl) (by kernel_rfl) (by kernel_rfl) (fun _ _ _ h => h) (Or.inl ⟨by rfl, ?_⟩) hS0 ?_
            rotate_left
            · intro W hSw
              go_simp
              try with_reducible rfl
            simp only [Act.put, List.setIfInBounds_toArray, List.set_cons_zero, List.set_cons_succ]
            obtain ⟨v0, hv0⟩ : ∃ v0, v0 = ({ wr with drawn := wr.drawn + 1 } : World) := ⟨_, rfl⟩
            have s0 : Below wr.heap.size wr v0 := by rw [hv0]; exact below_drewN (Below.refl _ _) 1
            have hT : ∀ W, Below wr.heap.size wr W ∨ True := fun _ => .inr trivial
            rw [← hv0]
            clear hv0 hS0
            have x0 := (s0.block gx gX).trans hX
            have z0 := (s0.block w.heap.size gZ).trans hZ
            have o0 := hO.below s0
            have r0 := hS.below s0
            have k0 : v0.heap.size = v0.heap.size := rfl
            have m0 := s0.size
            clear hX hZ hO hS s0
            refine wpAnyH_two (i := 0) (j := 3) (by kernel_rfl) ?_ ?_
            · obtain ⟨_, c0, c1, c2, c3⟩ := bc_row x0
              refine wpOp_step (o := { dst := some 50, op := Op.load 26 (Operand.tmp 6), type := 26, pos := "l10_bloom.go:167", after := #[], guard := none }) rfl fun K' hK => step_valueW (by rfl) (bloV y.p y.w a b) (v0) (by go_simp) ?_
              refine hK _ _ ⟨hT _, ?_⟩
              simp only [Act.put, List.setIfInBounds_toArray, List.set_cons_zero, List.set_cons_succ]
              clear c0 c1 c2 c3
              refine wpAnyH_one (i := 3) (by kernel_rfl) ?_
              refine wpOp_step (o := { dst := some 53, op := Op.call { callee := Callee.value (Operand.func 75), args := #[Operand.tmp 51, Operand.tmp 52], argTypes := #[62, 3] }, type := 3, pos := "l10_bloom.go:167", after := #[{ on := 1, ground := Ground.data }, { on := 2, ground := Ground.data }], guard := none }) rfl fun K' hK => step_enterW (by rfl) 75 #[.pointer (some ⟨p, 0, none⟩), .int .i64 (P : Int)] (by go_simp) ((unhide NX P L' v0 r0 (by omega) (by omega) (by omega)).mono ?_)
              rintro e v1 ⟨t, rfl, ht, r1, l1, e1⟩
              have x1 := (l1.block gx (by omega) (by omega)).trans x0
              have z1 := (l1.block w.heap.size (by omega) (by omega)).trans z0
              have o1 := o0.lone l1 (by omega)
              have m1 : wr.heap.size ≤ v1.heap.size := by omega
              clear l1 x0 z0 o0 r0
              refine ⟨_, rfl, hK _ _ ⟨hT _, ?_⟩⟩
              simp only [Act.put, List.setIfInBounds_toArray, List.set_cons_zero, List.set_cons_succ]
              refine wpAnyH_one (i := 4) (by kernel_rfl) ?_
              refine wpOp_step (o := { dst := some 54, op := Op.call { callee := Callee.value (Operand.func 18), args := #[Operand.tmp 50, Operand.tmp 53], argTypes := #[26, 3] }, type := 28, pos := "l10_bloom.go:167", after := #[{ on := 0, ground := Ground.data }, { on := 3, ground := Ground.data }, { on := 3, ground := Ground.chain }], guard := none }) rfl fun K' hK => step_enterW (by rfl) 18 #[bloV y.p y.w a b, .int .i64 (t : Int)] (by go_simp) ((add18 _ y t v1 o1.blm hsm.1 hsm.2).mono ?_)
              rintro e v2 ⟨q, rfl, oR, b2⟩
              rw [unhide HE t (inP_nat (by rw [hyp]; exact ht))] at oR ⊢
              dsimp only at oR
              obtain ⟨D1', m1', k1', D2', m2', k2', hre⟩ := oR.slices
              subst hre
              have x2 := (b2.block gx (by omega)).trans x1
              have z2 := (b2.block w.heap.size (by omega)).trans z1
              have r2 := r1.below b2
              have bs := b2.size
              have go := (Array.getElem?_eq_some_iff.1 x1).1
              clear b2 x1 z1 o1 r1
              refine ⟨_, rfl, hK _ _ ⟨hT _, ?_⟩⟩
              simp only [Act.put, List.setIfInBounds_toArray, List.set_cons_zero, List.set_cons_succ]
              refine wpAnyH_take (i := 5) (oi := { dst := some 49, op := Op.move (Operand.tmp 54), type := 28, pos := "l10_bloom.go:167", after := #[{ on := 4, ground := Ground.data }], guard := none }) (v := ?_) rfl (by kernel_rfl) (by kernel_rfl) (by kernel_rfl) (fun _ _ _ h => h) (Or.inl ⟨by rfl, ?_⟩) (hT _) ?_
              rotate_left
              · intro W hSw
                go_simp
                try with_reducible rfl
              simp only [Act.put, List.setIfInBounds_toArray, List.set_cons_zero, List.set_cons_succ]
              refine wpAnyH_take (i := 6) (oi := { dst := some 55, op := Op.extract (Operand.tmp 49) 0, type := 26, pos := "l10_bloom.go:167", after := #[{ on := 5, ground := Ground.data }], guard := none }) (v := ?_) rfl (by kernel_rfl) (by kernel_rfl) (by kernel_rfl) (fun _ _ _ h => h) (Or.inl ⟨by rfl, ?_⟩) (hT _) ?_
              rotate_left
              · intro W hSw
                go_simp
                try with_reducible rfl
              simp only [Act.put, List.setIfInBounds_toArray, List.set_cons_zero, List.set_cons_succ]
              refine wpAnyH_take (i := 7) (oi := { dst := some 56, op := Op.extract (Operand.tmp 49) 1, type := 3, pos := "l10_bloom.go:167", after := #[{ on := 5, ground := Ground.data }, { on := 8, ground := Ground.gcOnly Departure.lateStores }], guard := none }) (v := ?_) rfl (by kernel_rfl) (by kernel_rfl) (by kernel_rfl) (fun _ _ _ h => h) (Or.inl ⟨by rfl, ?_⟩) (hT _) ?_
              rotate_left
              · intro W hSw
                go_simp
                try with_reducible rfl
              simp only [Act.put, List.setIfInBounds_toArray, List.set_cons_zero, List.set_cons_succ]
              have f0 : v2.cell? ⟨gx, 0, none⟩ = some (.int .i64 y.p) := row_cell x2
              have g0 : v2.frozen? ⟨gx, 0, none⟩ = false := row_free x2
              have f1 : v2.cell? ⟨gx, 1, none⟩ = some (.int .i64 y.w) := row_cell x2
              have g1 : v2.frozen? ⟨gx, 1, none⟩ = false := row_free x2
              have f2 : v2.cell? ⟨gx, 2, none⟩ = some (a) := row_cell x2
              have g2 : v2.frozen? ⟨gx, 2, none⟩ = false := row_free x2
              have f3 : v2.cell? ⟨gx, 3, none⟩ = some (b) := row_cell x2
              have g3 : v2.frozen? ⟨gx, 3, none⟩ = false := row_free x2
              refine wpAnyH_one (i := 8) (by kernel_rfl) ?_
              refine wpOp_step (o := { dst := none, op := Op.store 26 (Operand.tmp 6) (Operand.tmp 55), type := 0, pos := "l10_bloom.go:167", after := #[{ on := 6, ground := Ground.data }, { on := 4, ground := Ground.chain }, { on := 0, ground := Ground.phase }, { on := 1, ground := Ground.phase }, { on := 2, ground := Ground.phase }, { on := 3, ground := Ground.phase }, { on := 4, ground := Ground.phase }, { on := 5, ground := Ground.phase }, { on := 6, ground := Ground.phase }, { on := 7, ground := Ground.textOnly Departure.lateStores }], guard := none }) rfl fun K' hK => step_skipW (by rfl) (put4 v2 gx (addX y t).p (addX y t).w (.slice D1' m1' k1') (.slice D2' m2' k2')) (by go_simp) ?_
              refine hK _ _ ⟨hT _, ?_⟩
              try simp only [Act.put]
              refine wpAnyH_done (by kernel_rfl) ?_ _
              have X9 := hide (row_put4 x2 (addX y t).p (addX y t).w (.slice D1' m1' k1') (.slice D2' m2' k2'))
              have LN := lone_put4 v2 gx (addX y t).p (addX y t).w (.slice D1' m1' k1') (.slice D2' m2' k2')
              have O9 := hide (oR.lone LN (by omega))
              have Z9 := hide ((LN.block w.heap.size (by omega) (by omega)).trans z2)
              have S9 := hide (r2.lone LN (by omega))
              have E9 := hide (size_put4 v2 gx (addX y t).p (addX y t).w (.slice D1' m1' k1') (.slice D2' m2' k2'))
              clear LN f0 f1 f2 f3 g0 g1 g2 g3 x2 z2 r2 oR
              generalize put4 v2 gx (addX y t).p (addX y t).w (.slice D1' m1' k1') (.slice D2' m2' k2') = w9 at *
              go_wp2
              obtain ⟨j', rfl⟩ : ∃ j', j = j' + 1 := ⟨j - 1, by omega⟩
              go_roundw
              case rel => exact ⟨j', by omega, by omega, addX y t, add_ok hok, hyp, _, _, unhide X9, _, _, unhide O9, by omega, by rw [unhide E9]; exact Nat.le_refl _, .inl (by omega), L' + 3, by omega, unhide S9, unhide Z9⟩
              case measure => simp [intOf]; omega
            · refine wpOp_step (o := { dst := some 53, op := Op.call { callee := Callee.value (Operand.func 75), args := #[Operand.tmp 51, Operand.tmp 52], argTypes := #[62, 3] }, type := 3, pos := "l10_bloom.go:167", after := #[{ on := 1, ground := Ground.data }, { on := 2, ground := Ground.data }], guard := none }) rfl fun K' hK => step_enterW (by rfl) 75 #[.pointer (some ⟨p, 0, none⟩), .int .i64 (P : Int)] (by go_simp) ((unhide NX P L' v0 r0 (by omega) (by omega) (by omega)).mono ?_)
              rintro e v1 ⟨t, rfl, ht, r1, l1, e1⟩
              have x1 := (l1.block gx (by omega) (by omega)).trans x0
              have z1 := (l1.block w.heap.size (by omega) (by omega)).trans z0
              have o1 := o0.lone l1 (by omega)
              have m1 : wr.heap.size ≤ v1.heap.size := by omega
              clear l1 x0 z0 o0 r0
              refine ⟨_, rfl, hK _ _ ⟨hT _, ?_⟩⟩
              simp only [Act.put, List.setIfInBounds_toArray, List.set_cons_zero, List.set_cons_succ]
              refine wpAnyH_one (i := 0) (by kernel_rfl) ?_
              obtain ⟨_, c0, c1, c2, c3⟩ := bc_row x1
              refine wpOp_step (o := { dst := some 50, op := Op.load 26 (Operand.tmp 6), type := 26, pos := "l10_bloom.go:167", after := #[], guard := none }) rfl fun K' hK => step_valueW (by rfl) (bloV y.p y.w a b) (v1) (by go_simp) ?_
              refine hK _ _ ⟨hT _, ?_⟩
              simp only [Act.put, List.setIfInBounds_toArray, List.set_cons_zero, List.set_cons_succ]
              clear c0 c1 c2 c3
              refine wpAnyH_one (i := 4) (by kernel_rfl) ?_
              refine wpOp_step (o := { dst := some 54, op := Op.call { callee := Callee.value (Operand.func 18), args := #[Operand.tmp 50, Operand.tmp 53], argTypes := #[26, 3] }, type := 28, pos := "l10_bloom.go:167", after := #[{ on := 0, ground := Ground.data }, { on := 3, ground := Ground.data }, { on := 3, ground := Ground.chain }], guard := none }) rfl fun K' hK => step_enterW (by rfl) 18 #[bloV y.p y.w a b, .int .i64 (t : Int)] (by go_simp) ((add18 _ y t v1 o1.blm hsm.1 hsm.2).mono ?_)
              rintro e v2 ⟨q, rfl, oR, b2⟩
              rw [unhide HE t (inP_nat (by rw [hyp]; exact ht))] at oR ⊢
              dsimp only at oR
              obtain ⟨D1', m1', k1', D2', m2', k2', hre⟩ := oR.slices
              subst hre
              have x2 := (b2.block gx (by omega)).trans x1
              have z2 := (b2.block w.heap.size (by omega)).trans z1
              have r2 := r1.below b2
              have bs := b2.size
              have go := (Array.getElem?_eq_some_iff.1 x1).1
              clear b2 x1 z1 o1 r1
              refine ⟨_, rfl, hK _ _ ⟨hT _, ?_⟩⟩
              simp only [Act.put, List.setIfInBounds_toArray, List.set_cons_zero, List.set_cons_succ]
              refine wpAnyH_take (i := 5) (oi := { dst := some 49, op := Op.move (Operand.tmp 54), type := 28, pos := "l10_bloom.go:167", after := #[{ on := 4, ground := Ground.data }], guard := none }) (v := ?_) rfl (by kernel_rfl) (by kernel_rfl) (by kernel_rfl) (fun _ _ _ h => h) (Or.inl ⟨by rfl, ?_⟩) (hT _) ?_
              rotate_left
              · intro W hSw
                go_simp
                try with_reducible rfl
              simp only [Act.put, List.setIfInBounds_toArray, List.set_cons_zero, List.set_cons_succ]
              refine wpAnyH_take (i := 6) (oi := { dst := some 55, op := Op.extract (Operand.tmp 49) 0, type := 26, pos := "l10_bloom.go:167", after := #[{ on := 5, ground := Ground.data }], guard := none }) (v := ?_) rfl (by kernel_rfl) (by kernel_rfl) (by kernel_rfl) (fun _ _ _ h => h) (Or.inl ⟨by rfl, ?_⟩) (hT _) ?_
              rotate_left
              · intro W hSw
                go_simp
                try with_reducible rfl
              simp only [Act.put, List.setIfInBounds_toArray, List.set_cons_zero, List.set_cons_succ]
              refine wpAnyH_take (i := 7) (oi := { dst := some 56, op := Op.extract (Operand.tmp 49) 1, type := 3, pos := "l10_bloom.go:167", after := #[{ on := 5, ground := Ground.data }, { on := 8, ground := Ground.gcOnly Departure.lateStores }], guard := none }) (v := ?_) rfl (by kernel_rfl) (by kernel_rfl) (by kernel_rfl) (fun _ _ _ h => h) (Or.inl ⟨by rfl, ?_⟩) (hT _) ?_
              rotate_left
              · intro W hSw
                go_simp
                try with_reducible rfl
              simp only [Act.put, List.setIfInBounds_toArray, List.set_cons_zero, List.set_cons_succ]
              have f0 : v2.cell? ⟨gx, 0, none⟩ = some (.int .i64 y.p) := row_cell x2
              have g0 : v2.frozen? ⟨gx, 0, none⟩ = false := row_free x2
              have f1 : v2.cell? ⟨gx, 1, none⟩ = some (.int .i64 y.w) := row_cell x2
              have g1 : v2.frozen? ⟨gx, 1, none⟩ = false := row_free x2
              have f2 : v2.cell? ⟨gx, 2, none⟩ = some (a) := row_cell x2
              have g2 : v2.frozen? ⟨gx, 2, none⟩ = false := row_free x2
              have f3 : v2.cell? ⟨gx, 3, none⟩ = some (b) := row_cell x2
              have g3 : v2.frozen? ⟨gx, 3, none⟩ = false := row_free x2
              refine wpAnyH_one (i := 8) (by kernel_rfl) ?_
              refine wpOp_step (o := { dst := none, op := Op.store 26 (Operand.tmp 6) (Operand.tmp 55), type := 0, pos := "l10_bloom.go:167", after := #[{ on := 6, ground := Ground.data }, { on := 4, ground := Ground.chain }, { on := 0, ground := Ground.phase }, { on := 1, ground := Ground.phase }, { on := 2, ground := Ground.phase }, { on := 3, ground := Ground.phase }, { on := 4, ground := Ground.phase }, { on := 5, ground := Ground.phase }, { on := 6, ground := Ground.phase }, { on := 7, ground := Ground.textOnly Departure.lateStores }], guard := none }) rfl fun K' hK => step_skipW (by rfl) (put4 v2 gx (addX y t).p (addX y t).w (.slice D1' m1' k1') (.slice D2' m2' k2')) (by go_simp) ?_
              refine hK _ _ ⟨hT _, ?_⟩
              try simp only [Act.put]
              refine wpAnyH_done (by kernel_rfl) ?_ _
              have X9 := hide (row_put4 x2 (addX y t).p (addX y t).w (.slice D1' m1' k1') (.slice D2' m2' k2'))
              have LN := lone_put4 v2 gx (addX y t).p (addX y t).w (.slice D1' m1' k1') (.slice D2' m2' k2')
              have O9 := hide (oR.lone LN (by omega))
              have Z9 := hide ((LN.block w.heap.size (by omega) (by omega)).trans z2)
              have S9 := hide (r2.lone LN (by omega))
              have E9 := hide (size_put4 v2 gx (addX y t).p (addX y t).w (.slice D1' m1' k1') (.slice D2' m2' k2'))
              clear LN f0 f1 f2 f3 g0 g1 g2 g3 x2 z2 r2 oR
              generalize put4 v2 gx (addX y t).p (addX y t).w (.slice D1' m1' k1') (.slice D2' m2' k2') = w9 at *
              go_wp2
              obtain ⟨j', rfl⟩ : ∃ j', j = j' + 1 := ⟨j - 1, by omega⟩
              go_roundw
              case rel => exact ⟨j', by omega, by omega, addX y t, add_ok hok, hyp, _, _, unhide X9, _, _, unhide O9, by omega, by rw [unhide E9]; exact Nat.le_refl _, .inl (by omega), L' + 3, by omega, unhide S9, unhide Z9⟩
              case measure => simp [intOf]; omega
          · obtain ⟨D3, m3, k3, D4, m4, k4, hre⟩ := hO.slices
            obtain ⟨rfl, rfl⟩ : a = .slice D3 m3 k3 ∧ b = .slice D4 m4 k4 := by simpa using hre
            clear hre
            obtain ⟨_, c0, c1, c2, c3⟩ := bc_row hX
            have f0 : wr.cell? ⟨w.heap.size, 0, none⟩ = some (.int .i64 0) := row_cell hZ
            have g0 : wr.frozen? ⟨w.heap.size, 0, none⟩ = false := row_free hZ
            have f1 : wr.cell? ⟨w.heap.size, 1, none⟩ = some (.int .i64 0) := row_cell hZ
            have g1 : wr.frozen? ⟨w.heap.size, 1, none⟩ = false := row_free hZ
            have f2 : wr.cell? ⟨w.heap.size, 2, none⟩ = some (.slice none 0 0) := row_cell hZ
            have g2 : wr.frozen? ⟨w.heap.size, 2, none⟩ = false := row_free hZ
            have f3 : wr.cell? ⟨w.heap.size, 3, none⟩ = some (.slice none 0 0) := row_cell hZ
            have g3 : wr.frozen? ⟨w.heap.size, 3, none⟩ = false := row_free hZ
            have ox := hO.lone (lone_put4 wr w.heap.size y.p y.w (.slice D3 m3 k3) (.slice D4 m4 k4)) (by omega)
            have HB := hide ox
            have HLO := hide hlo
            have HO9 := hide (hS.lone (lone_put4 wr w.heap.size y.p y.w (.slice D3 m3 k3) (.slice D4 m4 k4)) (Nat.le_refl _)).l
            have HR := hide (row_put4 hZ y.p y.w (.slice D3 m3 k3) (.slice D4 m4 k4))
            have HOK := hide hok
            clear ox hO hS hX hZ hap hhi hlo hL' hsm hok hyp
            go_wp2
            refine bodyPost_ret (v := bloV y.p y.w (.slice D3 m3 k3) (.slice D4 m4 k4)) ?_ rfl ⟨_, y, lo, hi, rfl, unhide HOK, unhide HB, unhide HLO, unhide HO9⟩
            exact results_cell_row rfl _ _ w.heap.size 26 _ (0, 0) _ rfl (unhide HR) Try.underlying26 rfl (by kernel_rfl)
end Go.Proofs.Ythckgccfjpgbaaa
