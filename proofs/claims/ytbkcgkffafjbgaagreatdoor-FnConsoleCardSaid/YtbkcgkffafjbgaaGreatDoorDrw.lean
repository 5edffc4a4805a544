/- Lines that are drawn. -/
import Derived.Test.YtbkcgkffafjbgaaGreatDoorGp
import Derived.Test.YtbkcgkffafjbgaaGreatDoorGj
import Derived.Test.YtbkcgkffafjbgaaGreatDoorGb
namespace Go.Proofs.YtbkcgkffafjbgaaGreatDoor
open Go.RowKit
set_option maxHeartbeats 4000000
set_option maxRecDepth 20000
set_option linter.unusedVariables false
theorem cell_in {W : World} {b i : Nat} {v : Value} (h : W.cell? ⟨b, i, none⟩ = some v) : b < W.heap.size := by
  unfold World.cell? at h
  rw [show (⟨b, i, none⟩ : Addr).block = b from rfl] at h
  rcases Nat.lt_or_ge b W.heap.size with hl | hl
  · exact hl
  · rw [Array.getElem?_eq_none hl] at h; cases h
/-- a source of choices in block p, of which at most K were drawn -/
structure Sr (p : Nat) (A : Option Addr) (n cap K : Nat) (W : World) : Prop where
  row : ∃ (k : Nat) (s : Int), k ≤ K ∧ W.heap[p]? = some (srcO A n cap (k : Int) s) ∧ 0 ≤ s ∧ s < 2147483648
  code : codeIn W p A n
theorem Sr.lt {p : Nat} {A : Option Addr} {n cap k : Nat} {W : World} (h : Sr p A n cap k W) : p < W.heap.size := by
  obtain ⟨_, s, _, h1, _⟩ := h.row
  exact (Array.getElem?_eq_some_iff.1 h1).1
theorem Sr.more {p : Nat} {A : Option Addr} {n cap k k' : Nat} {W : World} (h : Sr p A n cap k W) (hk : k ≤ k') : Sr p A n cap k' W := by
  obtain ⟨j, s, hj, h1⟩ := h.row
  exact ⟨⟨j, s, by omega, h1⟩, h.code⟩
theorem codeIn_lone {W W' : World} {p q n : Nat} {A : Option Addr} (h : codeIn W p A n) (ho : Lone q W W') (hq : ∀ b off, A = some ⟨b, off, none⟩ → 0 < n → b ≠ q) : codeIn W' p A n := fun hn => by
  obtain ⟨b, off, hA, hb, hc⟩ := h hn
  refine ⟨b, off, hA, hb, fun i hi => ?_⟩
  obtain ⟨c, c0, c1, e⟩ := hc i hi
  refine ⟨c, c0, c1, ?_⟩
  rw [← e]
  unfold World.cell?
  rw [show (⟨b, off + i, none⟩ : Addr).block = b from rfl, ho.block b (cell_in e) (hq b off hA hn)]
theorem Sr.below {p : Nat} {A : Option Addr} {n cap k : Nat} {W W' : World} (h : Sr p A n cap k W) (hb : Below W.heap.size W W') : Sr p A n cap k W' := by
  obtain ⟨j, s, hj, h1, h2, h3⟩ := h.row
  refine ⟨⟨j, s, hj, (hb.block p h.lt).trans h1, h2, h3⟩, fun hn => ?_⟩
  obtain ⟨b, off, hA, hne, hc⟩ := h.code hn
  refine ⟨b, off, hA, hne, fun i hi => ?_⟩
  obtain ⟨c, c0, c1, e⟩ := hc i hi
  exact ⟨c, c0, c1, (cell_below hb (cell_in e)).trans e⟩
/-- while blocks are written that are newer than the source and what it reads -/
theorem Sr.grown {p : Nat} {A : Option Addr} {n cap k B : Nat} {W W' : World} {row : Option Nat} (h : Sr p A n cap k W) (hg : W.grownBy W' row) (hr : ∀ j, row = some j → B ≤ j) (hp : p < B) (hA : ∀ b off, A = some ⟨b, off, none⟩ → 0 < n → b < B) : Sr p A n cap k W' := by
  obtain ⟨j, s, hj, h1, h2, h3⟩ := h.row
  refine ⟨⟨j, s, hj, (hg.block p h.lt (fun e => by have := hr p e.symm; omega)).trans h1, h2, h3⟩, fun hn => ?_⟩
  obtain ⟨b, off, hA', hne, hc⟩ := h.code hn
  refine ⟨b, off, hA', hne, fun i hi => ?_⟩
  obtain ⟨c, c0, c1, e⟩ := hc i hi
  exact ⟨c, c0, c1, (World.cell?_of_block (hg.block b (cell_in e) (fun q => by have := hr b q.symm; have := hA b off hA' hn; omega))).trans e⟩
theorem next_o (N : Int) (p : Nat) (A : Option Addr) (n cap k : Nat) (W : World) (h : Sr p A n cap k W) (hN : 1 < N) (hN2 : N ≤ 256) (hn : n ≤ maxLen) (hk : k < 1000000) :
    Calls Tryz.prog 25 #[.pointer (some ⟨p, 0, none⟩), .int .i64 N] W fun e w' => ∃ c : Int, e = .returned (.int .i64 c) ∧ 0 ≤ c ∧ c < N ∧ Sr p A n cap (k + 1) w' ∧ Lone p W w' ∧ w'.heap.size = W.heap.size := by
  obtain ⟨j, s, hj, h1, s0, s1⟩ := h.row
  refine (next_at N W p A n cap j s h1 hN hN2 hn (by omega) s0 s1 h.code).mono ?_
  rintro e w' ⟨c, s', d', rfl, c0, c1, t0, t1, rfl⟩
  have lo : Lone p W (srcW W d' p A n cap ((j + 1 : Nat) : Int) s') := ⟨rfl, rfl, rfl, by simp [srcW], fun k _ hk => get_src_other W d' p A n cap _ s' k hk⟩
  refine ⟨c, rfl, c0, c1, ⟨⟨j + 1, s', by omega, get_src _ _ _ _ _ _ _ _ h.lt, t0, t1⟩, fun hn => ?_⟩, lo, by simp [srcW]⟩
  obtain ⟨b, off, hA, hne, hc⟩ := h.code hn
  refine ⟨b, off, hA, hne, fun i hi => ?_⟩
  obtain ⟨c, c0, c1, e⟩ := hc i hi
  exact ⟨c, c0, c1, (World.cell?_of_block (lo.block b (cell_in e) hne)).trans e⟩
theorem ownsRow_lone {w w' : World} {q base : Nat} {e : TypeId} {size : Nat} {v : Value} {n : Nat} {xs : List Value} (h : w.ownsRow base e size v n xs) (hl : Lone q w w') (hq : q < base) : w'.ownsRow base e size v n xs := by
  refine ⟨h.1, ?_⟩
  rcases h.2 with h | ⟨g, c, cur, hv, hb, hg, h1⟩
  · exact .inl h
  · exact .inr ⟨g, c, cur, hv, hb, (hl.block g (Array.getElem?_eq_some_iff.1 hg).1 (by omega)).trans hg, h1⟩
theorem grown_lone {q : Nat} {B : Nat} {a b c : World} {row : Option Nat} (h : Lone q a b) (hg : b.grownBy c row) (hr : ∀ j, row = some j → B ≤ j) (hB : a.heap.size ≤ B) : Lone q a c :=
  ⟨hg.os.trans h.os, hg.tape.trans h.tape, hg.output.trans h.output, Nat.le_trans h.size hg.size, fun k hk hne => (hg.block k (Nat.lt_of_lt_of_le hk h.size) (fun e => by have := hr k e.symm; omega)).trans (h.block k hk hne)⟩
/-- a short text with no end of a line in it -/
def okS (t : ByteArray) (m : Nat) : Prop := t.size ≤ m ∧ ∀ b ∈ t.data.toList, b ≠ 10
theorem okS.app {a b : ByteArray} {m n : Nat} (ha : okS a m) (hb : okS b n) : okS (a ++ b) (m + n) := by
  refine ⟨by rw [ByteArray.size_append]; exact Nat.add_le_add ha.1 hb.1, fun x hx => ?_⟩
  rw [ByteArray.data_append, Array.toList_append] at hx
  rcases List.mem_append.1 hx with h | h
  · exact ha.2 x h
  · exact hb.2 x h
theorem okS.le {a : ByteArray} {m n : Nat} (h : okS a m) (hn : m ≤ n) : okS a n := ⟨Nat.le_trans h.1 hn, h.2⟩
def okSB (t : ByteArray) (m : Nat) : Bool := decide (t.size ≤ m) && t.data.toList.all (fun b => b != 10)
theorem okS_of {t : ByteArray} {m : Nat} (h : okSB t m = true) : okS t m := by
  unfold okSB at h
  simp only [Bool.and_eq_true, decide_eq_true_eq, List.all_eq_true, bne_iff_ne] at h
  exact h
theorem pick_g (q : Nat) (p : Nat) (A : Option Addr) (n cap k N m : Nat) (xs : List ByteArray) (W : World) (h : Sr p A n cap k W) (hn : n ≤ maxLen) (hk : k < 1000000) (hq : q ≠ p) (hl : q < W.heap.size) (hN : xs.length = N) (hN1 : 1 < N) (hN2 : N ≤ 256)
    (hr : W.heap[q]? = some (.cells (xs.map Value.string).toArray 9 (0, 0))) (hx : xs.all (fun t => okSB t m) = true) :
    Calls Tryz.prog 42 #[.pointer (some ⟨p, 0, none⟩), .slice (some ⟨q, 0, none⟩) N N] W fun e w' => ∃ t : ByteArray, okS t m ∧ e = .returned (.string t) ∧ Sr p A n cap (k + 1) w' ∧ Lone p W w' ∧ w'.heap.size = W.heap.size := by
  have K := hide (next_o N p A n cap k W h (by omega) (by omega) hn hk)
  have HC : Hid (∀ i, i < N → ∃ t, okS t m ∧ W.cell? ⟨q, i, none⟩ = some (.string t)) := hide (fun i hi => by
    have e : xs[i]? = some (xs[i]'(by omega)) := List.getElem?_eq_getElem (by omega)
    refine ⟨xs[i]'(by omega), okS_of (List.all_eq_true.1 hx _ (List.getElem_mem _)), ?_⟩
    rw [row_cell hr, List.getElem?_toArray, List.getElem?_map, e]
    rfl)
  have HL := hide hl
  have HQ := hide hq
  have n0 : ((N : Int) == 0) = false := by rw [beq_eq_false_iff_ne]; omega
  have n1 : (N : Int) ≤ 256 := by omega
  clear h hr hx hn hk hl hq hN hN2
  go_enter Tryz.func42, Tryz.ntmps42
  go_wp2_with fail
  refine (unhide K).mono ?_
  rintro e w1 ⟨c, rfl, c0, c1, r1, o1, z1⟩
  obtain ⟨i, rfl⟩ := Int.eq_ofNat_of_zero_le c0
  have hi : i < N := by omega
  obtain ⟨t, ht, hc⟩ := unhide HC i hi
  have p1 : w1.cell? ⟨q, i, none⟩ = some (.string t) := (World.cell?_of_block (o1.block q (unhide HL) (unhide HQ))).trans hc
  have R1 := hide r1
  have O1 := hide o1
  have Z1 := hide z1
  have HT := hide ht
  clear r1 o1 hi z1 hc ht K HC
  go_wp2
  go_ret
  exact ⟨t, unhide HT, rfl, unhide R1, unhide O1, unhide Z1⟩
abbrev sayQ : List ByteArray := [⟨#[111, 110, 101]⟩, ⟨#[116, 119, 111]⟩, ⟨#[116, 104, 114, 101, 101]⟩, ⟨#[]⟩, ⟨#[103, 111, 111, 100, 32, 100, 97, 121]⟩]
theorem pick_new (p : Nat) (A : Option Addr) (n cap k N m : Nat) (xs : List ByteArray) (W : World) (h : Sr p A n cap k W) (hn : n ≤ maxLen) (hk : k < 1000000) (hN : xs.length = N) (hN1 : 1 < N) (hN2 : N ≤ 256) (hx : xs.all (fun t => okSB t m) = true) :
    Calls Tryz.prog 42 #[.pointer (some ⟨p, 0, none⟩), .slice (some ⟨W.heap.size, 0, none⟩) N N] (W.alloc (.cells (xs.map Value.string).toArray 9)) fun e w' => ∃ t : ByteArray, okS t m ∧ e = .returned (.string t) ∧ Sr p A n cap (k + 1) w' ∧ Lone p W w' := by
  have B1 : Below W.heap.size W (W.alloc (.cells (xs.map Value.string).toArray 9)) := bl_al (Below.refl _ _)
  refine (pick_g W.heap.size p A n cap k N m xs _ (h.below B1) hn hk (by have := h.lt; omega) (by simp) hN hN1 hN2 (heap_alloc_new W _) hx).mono ?_
  rintro e w' ⟨t, h1, rfl, h2, h3, _⟩
  exact ⟨t, h1, rfl, h2, (Lone.of_below B1).trans h3⟩
theorem say43 (p : Nat) (A : Option Addr) (n cap k : Nat) (W : World) (h : Sr p A n cap k W) (hn : n ≤ maxLen) (hk : k < 1000000) :
    Calls Tryz.prog 43 #[.pointer (some ⟨p, 0, none⟩)] W fun e w' => ∃ t : ByteArray, okS t 8 ∧ e = .returned (.string t) ∧ Sr p A n cap (k + 1) w' ∧ Lone p W w' := by
  have K := hide (pick_new p A n cap k 5 8 sayQ W h hn hk rfl (by omega) (by omega) (by decide +kernel))
  simp only [sayQ, List.map_cons, List.map_nil] at K
  clear h hn hk
  go_enter Tryz.func43, Tryz.ntmps43
  go_wp2_with fail
  refine (unhide K).mono ?_
  rintro e w1 ⟨t, ht, rfl, r1, o1⟩
  have R1 := hide r1
  have O1 := hide o1
  have HT := hide ht
  clear r1 o1 K ht
  go_wp2
  go_ret
  exact ⟨t, unhide HT, rfl, unhide R1, unhide O1⟩
theorem size26 (p : Nat) (A : Option Addr) (n cap k : Nat) (W : World) (h : Sr p A n cap k W) (hn : n ≤ maxLen) :
    Calls Tryz.prog 26 #[.pointer (some ⟨p, 0, none⟩), .int .i64 24] W fun e w' => ∃ c : Int, e = .returned (.int .i64 c) ∧ 1 ≤ c ∧ c ≤ 24 ∧ w' = W := by
  obtain ⟨j, s, hj, h1, s0, s1⟩ := h.row
  have c0 : W.cell? ⟨p, 0, none⟩ = some (.slice A n cap) := by
    rw [srcO] at h1
    rw [row_cell h1]; rfl
  unfold maxLen at hn
  have n0 : (0 : Int) ≤ (n : Int) := by omega
  have n1 : (n : Int) ≤ 9223372036854775807 := by omega
  obtain ⟨m, hm⟩ : ∃ m : Int, (n : Int) / 12 = m := ⟨_, rfl⟩
  have m0 : 0 ≤ m := by omega
  have m1 : m ≤ 768614336404564651 := by omega
  have hq : (n : Int).tdiv 12 = m := by rw [Int.tdiv_eq_ediv_of_nonneg n0]; exact hm
  clear h h1 hn hm
  by_cases hle : 1 + m ≤ 24
  · go_enter Tryz.func26, Tryz.ntmps26
    go_wp2
    go_ret
    exact ⟨_, rfl, by omega, by omega, rfl⟩
  · have hgt : 24 < 1 + m := by omega
    go_enter Tryz.func26, Tryz.ntmps26
    go_wp2
    go_ret
    exact ⟨_, rfl, by omega, by omega, rfl⟩
abbrev fiveQ : List ByteArray := [⟨#[114, 111, 117, 110, 100, 32, 108, 111, 115, 101, 32, 97]⟩, ⟨#[114, 111, 117, 110, 100, 32, 108, 111, 115, 101, 32, 98]⟩, ⟨#[114, 111, 117, 110, 100, 32, 108, 111, 115, 101, 32, 98, 111, 116, 104]⟩, ⟨#[113, 117, 101, 117, 101]⟩, ⟨#[104, 97, 110, 103, 32, 97]⟩]
abbrev tenQ : List ByteArray := [⟨#[]⟩, ⟨#[35, 32, 110, 111, 110, 101]⟩, ⟨#[103, 111]⟩, ⟨#[115, 97, 121]⟩, ⟨#[115, 97, 121, 32, 99, 32, 120]⟩, ⟨#[114, 111, 117, 110, 100, 32, 110, 111, 119]⟩, ⟨#[115, 97, 121, 32, 97]⟩, ⟨#[113, 117, 101, 117, 101, 32, 110, 111, 119]⟩, ⟨#[115, 97, 121, 32, 98, 32, 48, 49, 50, 51, 52, 53, 54, 55, 56, 57, 48, 49, 50, 51, 52, 53, 54, 55, 56, 57, 48, 49, 50, 51, 52, 53, 54, 55, 56, 57, 48, 49, 50, 51, 52, 53, 54, 55, 56, 57, 48]⟩, ⟨#[104, 97, 110, 103, 32, 98, 111, 116, 104]⟩]
abbrev abQ : List ByteArray := [⟨#[97]⟩, ⟨#[98]⟩]
theorem line27 (p : Nat) (A : Option Addr) (n cap k : Nat) (W : World) (h : Sr p A n cap k W) (hn : n ≤ maxLen) (hk : k < 900000) :
    Calls Tryz.prog 27 #[.pointer (some ⟨p, 0, none⟩)] W fun e w' => ∃ t : ByteArray, okS t 60 ∧ e = .returned (.string t) ∧ Sr p A n cap (k + 4) w' ∧ Lone p W w' := by
  have K25 := hide (next_o 6 p A n cap k W h (by omega) (by omega) hn (by omega))
  have K5 := hide (fun X (a : Sr p A n cap (k + 1) X) => pick_new p A n cap (k + 1) 5 60 fiveQ X a hn (by omega) rfl (by omega) (by omega) (by decide +kernel))
  have K10 := hide (fun X (a : Sr p A n cap (k + 1) X) => pick_new p A n cap (k + 1) 10 60 tenQ X a hn (by omega) rfl (by omega) (by omega) (by decide +kernel))
  have K2 := hide (fun X (a : Sr p A n cap (k + 1) X) => pick_new p A n cap (k + 1) 2 1 abQ X a hn (by omega) rfl (by omega) (by omega) (by decide +kernel))
  have KS := hide (fun X (a : Sr p A n cap (k + 2) X) => say43 p A n cap (k + 2) X a hn (by omega))
  have KN := hide (fun X (a : Sr p A n cap (k + 3) X) => next_o 9 p A n cap (k + 3) X a (by omega) (by omega) hn (by omega))
  have KD := hide (fun (c : Nat) X (hc : c < 9) => digit21 c X (by omega))
  simp only [fiveQ, tenQ, abQ, List.map_cons, List.map_nil] at K5 K10 K2
  clear h hn hk
  go_enter Tryz.func27, Tryz.ntmps27
  go_wp2_with fail
  refine (unhide K25).mono ?_
  rintro e w1 ⟨c, rfl, c0, c1, s1, l1, -⟩
  obtain ⟨i, rfl⟩ := Int.eq_ofNat_of_zero_le c0
  have HS1 := hide s1
  have HL1 := hide l1
  clear s1 l1 K25 c0
  rcases (by omega : i = 0 ∨ i = 1 ∨ (i = 2 ∨ i = 3) ∨ (i = 4 ∨ i = 5)) with rfl | rfl | h23 | h45
  · rw [show ((0 : Nat) : Int) = 0 from rfl]
    go_wp2_with fail
    refine (unhide K5 _ (unhide HS1)).mono ?_
    rintro e w2 ⟨t, ht, rfl, s2, l2⟩
    have HT := hide ht
    have HS2 := hide (s2.more (k' := k + 4) (by omega))
    have HL2 := hide ((unhide HL1).trans l2)
    clear ht s2 l2
    go_wp2
    go_ret
    exact ⟨t, unhide HT, rfl, unhide HS2, unhide HL2⟩
  · rw [show ((1 : Nat) : Int) = 1 from rfl]
    go_wp2_with fail
    refine (unhide K10 _ (unhide HS1)).mono ?_
    rintro e w2 ⟨t, ht, rfl, s2, l2⟩
    have HT := hide ht
    have HS2 := hide (s2.more (k' := k + 4) (by omega))
    have HL2 := hide ((unhide HL1).trans l2)
    clear ht s2 l2
    go_wp2
    go_ret
    exact ⟨t, unhide HT, rfl, unhide HS2, unhide HL2⟩
  · have HS2 := hide ((unhide HS1).more (k' := k + 4) (by omega))
    rcases h23 with rfl | rfl
    · rw [show ((2 : Nat) : Int) = 2 from rfl]
      go_wp2
      go_ret
      exact ⟨_, okS_of (by decide +kernel), rfl, unhide HS2, unhide HL1⟩
    · rw [show ((3 : Nat) : Int) = 3 from rfl]
      go_wp2
      go_ret
      exact ⟨_, okS_of (by decide +kernel), rfl, unhide HS2, unhide HL1⟩
  · have e0 : ((i : Int) == 0) = false := by rw [beq_eq_false_iff_ne]; omega
    have e1 : ((i : Int) == 1) = false := by rw [beq_eq_false_iff_ne]; omega
    have e2 : ((i : Int) == 2) = false := by rw [beq_eq_false_iff_ne]; omega
    have e3 : ((i : Int) == 3) = false := by rw [beq_eq_false_iff_ne]; omega
    clear h45
    go_wp2_with fail
    refine (unhide K2 _ (unhide HS1)).mono ?_
    rintro e w2 ⟨t, ht, rfl, s2, l2⟩
    have HT := hide ht
    have zt := ht.1
    have HS2 := hide s2
    have HL2 := hide ((unhide HL1).trans l2)
    clear ht s2 l2
    go_wp2_with fail
    refine (unhide KS _ (unhide HS2)).mono ?_
    rintro e w3 ⟨u, hu, rfl, s3, l3⟩
    have HU := hide hu
    have zu := hu.1
    have HS3 := hide s3
    have HL3 := hide ((unhide HL2).trans l3)
    clear hu s3 l3
    go_wp2_with fail
    refine (unhide KN _ (unhide HS3)).mono ?_
    rintro e w4 ⟨c4, rfl, d0, d1, s4, l4, -⟩
    obtain ⟨c, rfl⟩ := Int.eq_ofNat_of_zero_le d0
    have HS4 := hide s4
    have HL4 := hide ((unhide HL3).trans l4)
    clear s4 l4
    go_wp2_with fail
    refine (unhide KD c _ (by omega)).mono ?_
    rintro e w5 ⟨rfl, b5⟩
    have HS5 := hide ((unhide HS4).below b5)
    have HL5 := hide ((unhide HL4).trans (Lone.of_below b5))
    have zd : (bs (digB c)).size = 1 := by rw [bs_size]; rfl
    have HD : Hid (okS (bs (digB c)) 1) := hide ⟨by omega, fun b hb => by
      rw [bs_list] at hb
      unfold digB at hb
      obtain rfl := List.mem_singleton.1 hb
      have : c < 9 := by omega
      intro e
      have e2 := congrArg UInt8.toNat e
      simp at e2
      omega⟩
    generalize bs (digB c) = dg at *
    clear b5
    go_wp2
    go_ret
    refine ⟨_, ?_, rfl, unhide HS5, unhide HL5⟩
    exact (((((okS_of (m := 4) (by decide +kernel)).app (unhide HT)).app (okS_of (m := 1) (by decide +kernel))).app (unhide HU)).app (okS_of (m := 1) (by decide +kernel))).app (unhide HD) |>.le (by omega)
/-- lines drawn so far, in a row of their own -/
structure LS (W : World) (p : Nat) (A : Option Addr) (n cap K g c : Nat) (ls : List ByteArray) (X : World) : Prop where
  own : X.ownsRow W.heap.size 9 1 (.slice (some ⟨g, 0, none⟩) ls.length c) ls.length (ls.map Value.string)
  src : Sr p A n cap K X
  lone : Lone p W X
theorem lines12 (p : Nat) (A : Option Addr) (n cap : Nat) (W : World) (h : Sr p A n cap 0 W) (hn : n ≤ maxLen) :
    Calls Tryz.prog 12 #[.pointer (some ⟨p, 0, none⟩)] W fun e w' => ∃ (g c : Nat) (ls : List ByteArray), e = .returned (.slice (some ⟨g, 0, none⟩) ls.length c) ∧ w'.ownsRow W.heap.size 9 1 (.slice (some ⟨g, 0, none⟩) ls.length c) ls.length (ls.map Value.string) ∧ ls.length ≤ 30 ∧ (∀ t ∈ ls, okS t 60) ∧ Lone p W w' := by
  have HPP := hide h.lt
  have HAA : Hid (∀ b off, A = some ⟨b, off, none⟩ → 0 < n → b < W.heap.size) := hide (fun b off e hn => by
    obtain ⟨b', off', e', _, hc⟩ := h.code hn
    obtain ⟨c, _, _, h2⟩ := hc 0 hn
    have : b = b' := by rw [e'] at e; exact (congrArg Addr.block (Option.some.inj e)).symm
    rw [this]; exact cell_in h2)
  have HNN := hide hn
  have B1 : Below W.heap.size W (W.alloc (.cells #[.string ⟨#[115, 97, 121, 32, 97, 32, 104, 101, 108, 108, 111]⟩] 9)) := bl_al (Below.refl _ _)
  have T0 : Hid (LS W p A n cap 0 W.heap.size 1 [⟨#[115, 97, 121, 32, 97, 32, 104, 101, 108, 108, 111]⟩] (W.alloc (.cells #[.string ⟨#[115, 97, 121, 32, 97, 32, 104, 101, 108, 108, 111]⟩] 9))) :=
    hide ⟨⟨rfl, .inr ⟨W.heap.size, 1, _, rfl, Nat.le_refl _, heap_alloc_new W _, Nat.le_refl _, by unfold maxLen; omega, rfl, rfl⟩⟩, h.below B1, Lone.of_below B1⟩
  have K26 := hide (fun X (a : Sr p A n cap 0 X) => size26 p A n cap 0 X a hn)
  have K27 := hide (fun k X (a : Sr p A n cap k X) (hk : k < 900000) => line27 p A n cap k X a hn hk)
  clear h hn B1
  go_enter Tryz.func12, Tryz.ntmps12
  go_wp2_with fail
  generalize W.alloc (.cells #[.string ⟨#[115, 97, 121, 32, 97, 32, 104, 101, 108, 108, 111]⟩] 9) = wz at *
  refine (unhide K26 wz (unhide T0).src).mono ?_
  rintro e wy ⟨c0, rfl, h1, h2, hw⟩
  have hw2 := hw.symm
  subst hw2
  clear hw K26
  obtain ⟨N0, hN0⟩ : ∃ N0 : Int, c0 + 3 = N0 := ⟨_, rfl⟩
  have n1 : 4 ≤ N0 := by omega
  have n2 : N0 ≤ 27 := by omega
  go_wp2_with fail
  refine (next_o N0 p A n cap 0 _ (unhide T0).src (by omega) (by omega) (unhide HNN) (by omega)).mono ?_
  rintro e wx ⟨i0, rfl, i1, i2, s1, l1, z1⟩
  have T1 : Hid (LS W p A n cap 1 W.heap.size 1 [⟨#[115, 97, 121, 32, 97, 32, 104, 101, 108, 108, 111]⟩] wx) := hide ⟨ownsRow_lone (unhide T0).own l1 (unhide HPP), s1, (unhide T0).lone.trans l1⟩
  obtain ⟨j0, rfl⟩ := Int.eq_ofNat_of_zero_le i1
  have HJ0 := hide (show j0 ≤ 26 by omega)
  clear s1 l1 z1 T0 i1 i2 hN0 n1 n2 h1 h2
  go_wp2
  go_loopw [3, 4] (fun o i wr => ∃ (j g c : Nat) (ls : List ByteArray), i = .int .i64 j ∧ o = .slice (some ⟨g, 0, none⟩) ls.length c ∧ LS W p A n cap (10 * ls.length) g c ls wr ∧ ls.length + j ≤ 28 ∧ ∀ t ∈ ls, okS t 60) (fun _ i _ => (intOf i).toNat)
  case atStart => exact ⟨j0, W.heap.size, 1, _, rfl, rfl, ⟨(unhide T1).own, (unhide T1).src.more (by simp), (unhide T1).lone⟩, by have := unhide HJ0; simp; omega, fun t h => by obtain rfl := List.mem_singleton.1 h; exact okS_of (by decide +kernel)⟩
  case round =>
    obtain ⟨j, g, c, ls, rfl, rfl, hts, hjl, hal⟩ := hrel
    have HAL := hide hal
    have TSX := hide hts
    obtain ⟨m, hm⟩ : ∃ m, m = ls.length := ⟨_, rfl⟩
    have HM := hide hm
    have m1 : (m : Int) ≤ 28 := by omega
    rw [← hm] at hjl ⊢
    clear hts hal hm T1
    cases j with
    | zero =>
      rw [show ((0 : Nat) : Int) = 0 from rfl]
      go_wp2
      go_ret
      rw [unhide HM]
      exact ⟨g, c, ls, rfl, (unhide TSX).own, by have := unhide HM; omega, unhide HAL, (unhide TSX).lone⟩
    | succ j =>
      have q1 : (0 : Int) < ((j + 1 : Nat) : Int) := by omega
      have HJ := hide hjl
      go_wp2_with fail
      refine (unhide K27 (10 * ls.length) wr (unhide TSX).src (by have := unhide HM; omega)).mono ?_
      rintro e w2 ⟨t, ht, rfl, s2, l2⟩
      have HO2 := hide (ownsRow_lone (unhide TSX).own l2 (unhide HPP))
      have HS2 := hide s2
      have HL2 := hide ((unhide TSX).lone.trans l2)
      have HT := hide ht
      rw [← unhide HM] at HO2
      clear ht s2 l2
      go_wp2_with (at_builtin; refine wpList_append_strsL _ rfl _ _ rfl W.heap.size m _ ls rfl ((unhide HO2).alloc _) ⟨g, c, rfl⟩ _ [t] rfl (one_str _ _) (by have := unhide HJ; simp; omega) (by have := (unhide HL2).size; simp; omega) ?_; intro g3 c3 w3 hown3 hgrow3 _; have HO3 : Hid (w3.ownsRow W.heap.size 9 1 (.slice (some ⟨g3, 0, none⟩) (m + 1) c3) (m + 1) ((ls ++ [t]).map Value.string)) := hide (by simpa using hown3); have HS3 := hide (((unhide HS2).below (bl_al (o := .cells #[.string t] 9) (Below.refl _ _))).grown (B := W.heap.size) hgrow3 (fun k e => by cases e; exact row_ge (unhide HO2)) (unhide HPP) (unhide HAA)); have HL3 := hide (grown_lone (B := W.heap.size) ((unhide HL2).trans (Lone.of_below (bl_al (o := .cells #[.string t] 9) (Below.refl _ _)))) hgrow3 (fun k e => by cases e; exact row_ge (unhide HO2)) (Nat.le_refl _)); clear hown3 hgrow3)
      go_round
      case rel =>
        have hl : (ls ++ [t]).length = m + 1 := by rw [List.length_append, unhide HM]; rfl
        refine ⟨j, g3, c3, ls ++ [t], by go_num, by rw [hl], ⟨by rw [hl]; exact unhide HO3, (unhide HS3).more (by rw [hl]; have := unhide HM; omega), unhide HL3⟩, by rw [hl]; have := unhide HJ; omega, fun x hx => ?_⟩
        rcases List.mem_append.1 hx with h | h
        · exact unhide HAL x h
        · obtain rfl := List.mem_singleton.1 h; exact unhide HT
      case measure => simp [intOf]
theorem lines5 (A : Option Addr) (n cap : Nat) (w : World) (hn : n ≤ maxLen) (hA : codeAt w A n) :
    Calls Tryz.prog 5 #[.slice A n cap] w fun e w' => ∃ (g c : Nat) (ls : List ByteArray), e = .returned (.slice (some ⟨g, 0, none⟩) ls.length c) ∧ w'.ownsRow w.heap.size 9 1 (.slice (some ⟨g, 0, none⟩) ls.length c) ls.length (ls.map Value.string) ∧ ls.length ≤ 30 ∧ (∀ t ∈ ls, okS t 60) ∧ Below w.heap.size w w' := by
  have K1 := hide (source_any A n cap hn w)
  have S1 : Sr w.heap.size A n cap 0 (w.alloc (srcO A n cap 0 ((n % 1000 : Nat) : Int))) := ⟨⟨0, ((n % 1000 : Nat) : Int), Nat.le_refl _, heap_alloc_new _ _, by omega, by omega⟩, codeIn_alloc hA _⟩
  have K2 := hide (lines12 w.heap.size A n cap _ S1 hn)
  have B1 : Below w.heap.size w (w.alloc (srcO A n cap 0 ((n % 1000 : Nat) : Int))) := bl_al (Below.refl _ _)
  have HB := hide B1
  clear S1 B1 hA
  go_enter Tryz.func5, Tryz.ntmps5
  go_wp2_with fail
  refine (unhide K1).mono ?_
  rintro e w1 ⟨rfl, rfl⟩
  generalize w.alloc (srcO A n cap 0 ((n % 1000 : Nat) : Int)) = w1 at *
  go_wp2_with fail
  refine (unhide K2).mono ?_
  rintro e w2 ⟨g, c, ls, rfl, hv, h1, h2, h3⟩
  have HV := hide hv
  have H2 := hide h2
  have H3 := hide h3
  clear hv h2 h3 K1 K2
  go_wp2_with fail
  go_ret
  refine ⟨g, c, ls, rfl, ?_, h1, unhide H2, (unhide H3).below (unhide HB) (Nat.le_refl _) (unhide HB).size⟩
  rcases (unhide HV).2 with ⟨e, _⟩ | ⟨g', c', cur, e, hb, r⟩
  · cases e
  · exact ⟨(unhide HV).1, .inr ⟨g', c', cur, e, Nat.le_trans (unhide HB).size hb, r⟩⟩
end Go.Proofs.YtbkcgkffafjbgaaGreatDoor
