/- Accesses that are drawn. -/
import Derived.Test.YtggiijlgdpkkfaaApa
import Derived.Test.YtggiijlgdpkkfaaSrc
namespace Go.Proofs.Ytggiijlgdpkkfaa
open Go.RowKit
set_option maxHeartbeats 4000000
set_option maxRecDepth 20000
theorem cell_in {W : World} {b i : Nat} {v : Value} (h : W.cell? ⟨b, i, none⟩ = some v) : b < W.heap.size := by
  unfold World.cell? at h
  rw [show (⟨b, i, none⟩ : Addr).block = b from rfl] at h
  rcases Nat.lt_or_ge b W.heap.size with hl | hl
  · exact hl
  · rw [Array.getElem?_eq_none hl] at h; cases h
/-- a source of choices in block p, of which at most K were drawn -/
structure Sr (p : Nat) (A : Option Addr) (n cap K : Nat) (W : World) : Prop where
  row : ∃ (k : Nat) (s : Int), k ≤ K ∧ W.heap[p]? = some (srcO A n cap (k : Int) s) ∧ 0 ≤ s ∧ s < 2147483648
  code : codeIn W p A n
theorem Sr.lt {p : Nat} {A : Option Addr} {n cap k : Nat} {W : World} (h : Sr p A n cap k W) : p < W.heap.size := by
  obtain ⟨_, s, _, h1, _⟩ := h.row
  exact (Array.getElem?_eq_some_iff.1 h1).1
theorem Sr.more {p : Nat} {A : Option Addr} {n cap k k' : Nat} {W : World} (h : Sr p A n cap k W) (hk : k ≤ k') : Sr p A n cap k' W := by
  obtain ⟨j, s, hj, h1⟩ := h.row
  exact ⟨⟨j, s, by omega, h1⟩, h.code⟩
theorem codeIn_lone {W W' : World} {p q n : Nat} {A : Option Addr} (h : codeIn W p A n) (ho : Lone q W W') (hq : ∀ b off, A = some ⟨b, off, none⟩ → 0 < n → b ≠ q) : codeIn W' p A n := fun hn => by
  obtain ⟨b, off, hA, hb, hc⟩ := h hn
  refine ⟨b, off, hA, hb, fun i hi => ?_⟩
  obtain ⟨c, c0, c1, e⟩ := hc i hi
  refine ⟨c, c0, c1, ?_⟩
  rw [← e]
  unfold World.cell?
  rw [show (⟨b, off + i, none⟩ : Addr).block = b from rfl, ho.block b (cell_in e) (hq b off hA hn)]
theorem Sr.below {p : Nat} {A : Option Addr} {n cap k : Nat} {W W' : World} (h : Sr p A n cap k W) (hb : Below W.heap.size W W') : Sr p A n cap k W' := by
  obtain ⟨j, s, hj, h1, h2, h3⟩ := h.row
  refine ⟨⟨j, s, hj, (hb.block p h.lt).trans h1, h2, h3⟩, fun hn => ?_⟩
  obtain ⟨b, off, hA, hne, hc⟩ := h.code hn
  refine ⟨b, off, hA, hne, fun i hi => ?_⟩
  obtain ⟨c, c0, c1, e⟩ := hc i hi
  exact ⟨c, c0, c1, (cell_below hb (cell_in e)).trans e⟩
/-- while blocks are written that are newer than the source and what it reads -/
theorem Sr.grown {p : Nat} {A : Option Addr} {n cap k B : Nat} {W W' : World} {row : Option Nat} (h : Sr p A n cap k W) (hg : W.grownBy W' row) (hr : ∀ j, row = some j → B ≤ j) (hp : p < B) (hA : ∀ b off, A = some ⟨b, off, none⟩ → 0 < n → b < B) : Sr p A n cap k W' := by
  obtain ⟨j, s, hj, h1, h2, h3⟩ := h.row
  refine ⟨⟨j, s, hj, (hg.block p h.lt (fun e => by have := hr p e.symm; omega)).trans h1, h2, h3⟩, fun hn => ?_⟩
  obtain ⟨b, off, hA', hne, hc⟩ := h.code hn
  refine ⟨b, off, hA', hne, fun i hi => ?_⟩
  obtain ⟨c, c0, c1, e⟩ := hc i hi
  exact ⟨c, c0, c1, (World.cell?_of_block (hg.block b (cell_in e) (fun q => by have := hr b q.symm; have := hA b off hA' hn; omega))).trans e⟩
theorem next_o (N : Int) (p : Nat) (A : Option Addr) (n cap k : Nat) (W : World) (h : Sr p A n cap k W) (hN : 1 < N) (hN2 : N ≤ 256) (hn : n ≤ maxLen) (hk : k < 1000000) :
    Calls Try.prog 32 #[.pointer (some ⟨p, 0, none⟩), .int .i64 N] W fun e w' => ∃ c : Int, e = .returned (.int .i64 c) ∧ 0 ≤ c ∧ c < N ∧ Sr p A n cap (k + 1) w' ∧ Lone p W w' ∧ w'.heap.size = W.heap.size := by
  obtain ⟨j, s, hj, h1, s0, s1⟩ := h.row
  refine (next_at N W p A n cap j s h1 hN hN2 hn (by omega) s0 s1 h.code).mono ?_
  rintro e w' ⟨c, s', d', rfl, c0, c1, t0, t1, rfl⟩
  have lo : Lone p W (srcW W d' p A n cap ((j + 1 : Nat) : Int) s') := ⟨rfl, rfl, rfl, by simp [srcW], fun k _ hk => get_src_other W d' p A n cap _ s' k hk⟩
  refine ⟨c, rfl, c0, c1, ⟨⟨j + 1, s', by omega, get_src _ _ _ _ _ _ _ _ h.lt, t0, t1⟩, fun hn => ?_⟩, lo, by simp [srcW]⟩
  obtain ⟨b, off, hA, hne, hc⟩ := h.code hn
  refine ⟨b, off, hA, hne, fun i hi => ?_⟩
  obtain ⟨c, c0, c1, e⟩ := hc i hi
  exact ⟨c, c0, c1, (World.cell?_of_block (lo.block b (cell_in e) hne)).trans e⟩
theorem ownsRow_lone {w w' : World} {q base : Nat} {e : TypeId} {size : Nat} {v : Value} {n : Nat} {xs : List Value} (h : w.ownsRow base e size v n xs) (hl : Lone q w w') (hq : q < base) : w'.ownsRow base e size v n xs := by
  refine ⟨h.1, ?_⟩
  rcases h.2 with h | ⟨g, c, cur, hv, hb, hg, h1⟩
  · exact .inl h
  · exact .inr ⟨g, c, cur, hv, hb, (hl.block g (Array.getElem?_eq_some_iff.1 hg).1 (by omega)).trans hg, h1⟩
def dropD : Nat → ByteArray
  | 0 => ⟨#[100, 114, 111, 112, 45, 111, 110, 101]⟩
  | 1 => ⟨#[100, 114, 111, 112, 45, 116, 119, 111]⟩
  | 2 => ⟨#[100, 114, 111, 112, 45, 120, 121, 122]⟩
  | _ => ⟨#[97, 98, 99, 100, 101, 102, 103, 104]⟩
theorem dropD_size : ∀ i, (dropD i).size = 8
  | 0 => rfl
  | 1 => rfl
  | 2 => rfl
  | _ + 3 => rfl
theorem drop_cells (w : World) : ∀ i, i < 4 → (w.alloc (.cells #[.string (dropD 0), .string (dropD 1), .string (dropD 2), .string (dropD 3)] 9)).cell? ⟨w.heap.size, i, none⟩ = some (.string (dropD i)) := by
  intro i hi
  rw [Go.cell_of_row _ _ _ _ _ _ (heap_alloc_new w _)]
  obtain rfl | rfl | rfl | rfl : i = 0 ∨ i = 1 ∨ i = 2 ∨ i = 3 := by omega
  all_goals rfl
theorem pick_o (q : Nat) (p : Nat) (A : Option Addr) (n cap k : Nat) (W : World) (h : Sr p A n cap k W) (hn : n ≤ maxLen) (hk : k < 1000000) (hq : q ≠ p) (hl : q < W.heap.size) (hc : ∀ i, i < 4 → W.cell? ⟨q, i, none⟩ = some (.string (dropD i))) :
    Calls Try.prog 56 #[.pointer (some ⟨p, 0, none⟩), .slice (some ⟨q, 0, none⟩) 4 4] W fun e w' => ∃ t : ByteArray, t.size = 8 ∧ e = .returned (.string t) ∧ Sr p A n cap (k + 1) w' ∧ Lone p W w' ∧ w'.heap.size = W.heap.size := by
  have hx := hide (next_o 4 p A n cap k W h (by omega) (by omega) hn hk)
  have HC := hide hc
  have HL := hide hl
  have HQ := hide hq
  clear h hc hn hk hl hq
  go_enter Try.func56, Try.ntmps56
  go_wp2_with fail
  refine (unhide hx).mono ?_
  rintro e w1 ⟨c, rfl, c0, c1, r1, o1, z1⟩
  obtain ⟨i, rfl⟩ := Int.eq_ofNat_of_zero_le c0
  have hi : i < 4 := by omega
  have p1 : w1.cell? ⟨q, i, none⟩ = some (.string (dropD i)) := (World.cell?_of_block (o1.block q (unhide HL) (unhide HQ))).trans (unhide HC i hi)
  have R1 := hide r1
  have O1 := hide o1
  have Z1 := hide z1
  have HS := hide (dropD_size i)
  generalize dropD i = t at *
  clear r1 o1 hx hi z1
  go_wp2
  go_ret
  exact ⟨t, unhide HS, rfl, unhide R1, unhide O1, unhide Z1⟩
theorem drop33 (p : Nat) (A : Option Addr) (n cap k : Nat) (W : World) (h : Sr p A n cap k W) (hn : n ≤ maxLen) (hk : k < 1000000) :
    Calls Try.prog 33 #[.pointer (some ⟨p, 0, none⟩)] W fun e w' => ∃ t : ByteArray, t.size = 8 ∧ e = .returned (.string t) ∧ Sr p A n cap (k + 1) w' ∧ Lone p W w' := by
  have B1 := bl_al (o := .cells #[.string (dropD 0), .string (dropD 1), .string (dropD 2), .string (dropD 3)] 9) (Below.refl W.heap.size W)
  have K := hide (pick_o W.heap.size p A n cap k _ (h.below B1) hn hk (by have := h.lt; omega) (by simp) (drop_cells W))
  have HB := hide B1
  clear B1 h hn hk
  unfold dropD at K HB
  go_enter Try.func33, Try.ntmps33
  go_wp2_with fail
  refine (unhide K).mono ?_
  rintro e w1 ⟨t, ht, rfl, r1, o1, z1⟩
  have R1 := hide r1
  have O1 := hide ((Lone.of_below (unhide HB)).trans o1)
  have HT := hide ht
  clear r1 o1 z1 K ht
  go_wp2
  go_ret
  exact ⟨t, unhide HT, rfl, unhide R1, unhide O1⟩
theorem grown_lone {q : Nat} {B : Nat} {a b c : World} {row : Option Nat} (h : Lone q a b) (hg : b.grownBy c row) (hr : ∀ j, row = some j → B ≤ j) (hB : a.heap.size ≤ B) : Lone q a c :=
  ⟨hg.os.trans h.os, hg.tape.trans h.tape, hg.output.trans h.output, Nat.le_trans h.size hg.size, fun k hk hne => (hg.block k (Nat.lt_of_lt_of_le hk h.size) (fun e => by have := hr k e.symm; omega)).trans (h.block k hk hne)⟩
theorem codeIn_lt {W : World} {p n : Nat} {A : Option Addr} (h : codeIn W p A n) : ∀ b off, A = some ⟨b, off, none⟩ → 0 < n → b < W.heap.size := fun b off hA hn => by
  obtain ⟨b', off', hA', _, hc⟩ := h hn
  rw [hA] at hA'
  cases hA'
  obtain ⟨c, _, _, e⟩ := hc 0 hn
  exact cell_in e
theorem bytes34 (p : Nat) (A : Option Addr) (n cap k : Nat) (W : World) (h : Sr p A n cap k W) (hn : n ≤ maxLen) (hk : k < 900000) :
    Calls Try.prog 34 #[.pointer (some ⟨p, 0, none⟩), .int .i64 9] W fun e w' => ∃ (g c : Nat) (xs : List Int), e = .returned (.slice (some ⟨g, 0, none⟩) xs.length c) ∧ xs.length ≤ 9 ∧ w'.ownsRow W.heap.size 5 1 (.slice (some ⟨g, 0, none⟩) xs.length c) xs.length (xs.map (Value.int .u8)) ∧ Sr p A n cap (k + 10) w' ∧ Lone p W w' := by
  have HN := hide hn
  have HK := hide hk
  have HP := hide h.lt
  have HA := hide (codeIn_lt h.code)
  have B1 := hide (bl_al (o := .cells #[] 5) (Below.refl W.heap.size W))
  have K0 := hide (next_o 10 p A n cap k (W.alloc (.cells #[] 5)) (h.below (unhide B1)) (by omega) (by omega) hn (by omega))
  have O1 := hide (World.ownsRow_made W (e := 5) (size := 1) #[] 0 (Nat.le_refl _) (Nat.zero_le _) rfl)
  clear h hn hk
  go_enter Try.func34, Try.ntmps34
  go_wp2_with fail
  refine (unhide K0).mono ?_
  rintro e w1 ⟨c, rfl, c0, c1, r1, o1, z1⟩
  obtain ⟨m0, rfl⟩ := Int.eq_ofNat_of_zero_le c0
  have R1 := hide r1
  have L1 := hide ((Lone.of_below (unhide B1)).trans o1)
  have OW := hide (ownsRow_lone (unhide O1) o1 (unhide HP))
  have HM := hide (show m0 ≤ 9 by omega)
  clear r1 o1 z1 K0 O1 B1 c0 c1
  go_wp2
  go_loopw [5, 6] (fun o i wr => ∃ (m : Nat) (xs : List Int) (g c : Nat), m + xs.length ≤ 9 ∧ i = .int .i64 m ∧ o = .slice (some ⟨g, 0, none⟩) xs.length c ∧ wr.ownsRow W.heap.size 5 1 (.slice (some ⟨g, 0, none⟩) xs.length c) xs.length (xs.map (Value.int .u8)) ∧ Sr p A n cap (k + 1 + xs.length) wr ∧ Lone p W wr) (fun _ i _ => (intOf i).toNat)
  case atStart => exact ⟨m0, [], W.heap.size, 0, unhide HM, rfl, rfl, unhide OW, unhide R1, unhide L1⟩
  case round =>
    obtain ⟨m, xs, g, c, hm, rfl, rfl, hown, hsr, hlo⟩ := hrel
    by_cases h0 : 0 < m
    · have q1 : (0 : Int) < (m : Int) := by omega
      have q2 : (m : Int) ≤ 9 := by omega
      have HM1 := hide (show m - 1 + (xs.length + 1) ≤ 9 by omega)
      have H0 := hide h0
      have KN := hide (next_o 256 p A n cap (k + 1 + xs.length) wr hsr (by omega) (by omega) (unhide HN) (by have := unhide HK; omega))
      have OWN := hide hown
      have LO := hide hlo
      clear hm h0 hown hsr hlo R1 L1 OW HM
      go_wp2_with fail
      refine (unhide KN).mono ?_
      rintro e w2 ⟨x, rfl, x0, x1, r2, o2, z2⟩
      have hown := ownsRow_lone (unhide OWN) o2 (unhide HP)
      have hlo := (unhide LO).trans o2
      have R2 := hide r2
      have HZ : Hid (W.heap.size ≤ w2.heap.size) := hide hlo.size
      have hlt := hown.lt
      have hxl : xs.length ≤ 9 := by have := unhide HM1; omega
      have bn := bytes_new w2 x ⟨x0, by omega⟩
      clear KN OWN LO o2 r2 z2
      go_wp2_with (first
        | (at_builtin; refine wpList_append_bytes _ rfl _ _ rfl W.heap.size xs.length _ xs rfl (hown.alloc _) ⟨g, c, rfl⟩ _ [x] rfl bn (by simp; omega) (by have := unhide HZ; simp; omega) ?_; intro g3 c3 w3 hown3 hgrow3)
        | go_in)
      go_roundw
      case rel =>
        have hg0 : ∀ j, (Value.slice (some ⟨g, 0, none⟩) xs.length c).ownBlock = some j → W.heap.size ≤ j := fun j hj => (hlt j hj).1
        refine ⟨m - 1, xs ++ [x], g3, c3, by rw [List.length_append]; exact unhide HM1, by have := unhide H0; go_num, by rw [List.length_append]; rfl, by rw [List.length_append]; exact hown3, ?_, ?_⟩
        · refine (((unhide R2).below (bl_al (Below.refl _ _))).grown hgrow3 hg0 (unhide HP) (unhide HA)).more (by rw [List.length_append]; simp; omega)
        · exact grown_lone (hlo.trans (Lone.of_below (bl_al (Below.refl _ _)))) hgrow3 hg0 (Nat.le_refl _)
      case measure => have := unhide H0; simp [intOf]; omega
    · obtain rfl : m = 0 := by omega
      have R2 := hide (hsr.more (k' := k + 10) (by omega))
      have OWN := hide hown
      have LO := hide hlo
      have HX := hide (show xs.length ≤ 9 by omega)
      clear hm h0 hown hsr hlo R1 L1 OW HM
      go_wp2
      go_ret
      exact ⟨g, c, xs, rfl, unhide HX, unhide OWN, unhide R2, unhide LO⟩
/-- accesses as they are drawn -/
def rightA (ps : List Acs) : Prop := ∀ p ∈ ps, p.1.size = 8 ∧ p.2.size ≤ 10
theorem one_acs (w : World) (d b : ByteArray) : acsV (w.alloc (.cells #[.string d, .string b] 27)) (.slice (some ⟨w.heap.size, 0, none⟩) 1 1) [(d, b)] := by
  refine ⟨_, _, rfl, fun _ => ⟨w.heap.size, 0, rfl, by simp, fun i hi => ?_⟩⟩
  obtain rfl : i = 0 := by simpa using hi
  exact pc_new w d b 27
theorem accesses9 (A : Option Addr) (n cap : Nat) (hn : n ≤ maxLen) (w : World) (hc : codeAt w A n) :
    Calls Try.prog 9 #[.slice A n cap] w fun e w' => ∃ (r : Value) (ps : List Acs), e = .returned r ∧ ps.length ≤ 7 ∧ rightA ps ∧ ownA w.heap.size w'.heap.size w' r ps ∧ Below w.heap.size w w' := by
  have HN := hide hn
  have KS := hide (source_any A n cap hn w)
  have HS : Hid (Sr w.heap.size A n cap 0 (w.alloc (srcO A n cap 0 ((n % 1000 : Nat) : Int)))) := hide ⟨⟨0, _, Nat.le_refl _, heap_at _ _ _ rfl, by omega, by omega⟩, codeIn_alloc hc _⟩
  have HB := hide (bl_al (o := srcO A n cap 0 ((n % 1000 : Nat) : Int)) (Below.refl w.heap.size w))
  have HZ : Hid ((w.alloc (srcO A n cap 0 ((n % 1000 : Nat) : Int))).heap.size = w.heap.size + 1) := hide (by simp)
  clear hn hc
  go_enter Try.func9, Try.ntmps9
  go_wp2_with fail
  refine (unhide KS).mono ?_
  rintro e w' ⟨rfl, hw'⟩
  have hw2 := hw'.symm
  subst hw2
  clear KS hw'
  generalize w.alloc (srcO A n cap 0 ((n % 1000 : Nat) : Int)) = w1 at *
  have HA := hide (codeIn_lt (unhide HS).code)
  have B1 := hide (bl_al (o := .cells #[] 27) (Below.refl w1.heap.size w1))
  have O1 := hide (World.ownsRow_made w1 (e := 27) (size := 2) #[] 0 (Nat.le_refl _) (Nat.zero_le _) rfl)
  have K0 := hide (next_o 8 w.heap.size A n cap 0 (w1.alloc (.cells #[] 27)) ((unhide HS).below (unhide B1)) (by omega) (by omega) (unhide HN) (by omega))
  have hp1 : w.heap.size < w1.heap.size := by have := unhide HZ; omega
  have HP := hide hp1
  generalize hp : w.heap.size = p at *
  have HPP := hide hp
  clear hp hp1
  go_wp2_with fail
  refine (unhide K0).mono ?_
  rintro e w2 ⟨c, rfl, c0, c1, r2, o2, z2⟩
  obtain ⟨m0, rfl⟩ := Int.eq_ofNat_of_zero_le c0
  have R1 := hide r2
  have L1 := hide ((Lone.of_below (unhide B1)).trans o2)
  have OW := hide (ownsRow_lone (unhide O1) o2 (unhide HP))
  have HM := hide (show m0 ≤ 7 by omega)
  clear r2 o2 z2 K0 O1 B1 c0 c1
  go_wp2
  generalize hq : w1.heap.size = q at *
  have HQ := hide hq
  clear hq
  go_loopw [4, 5] (fun o i wr => ∃ (m : Nat) (ps : List Acs) (g c : Nat), m + ps.length ≤ 7 ∧ rightA ps ∧ i = .int .i64 m ∧ o = .slice (some ⟨g, 0, none⟩) ps.length c ∧ wr.ownsRow q 27 2 (.slice (some ⟨g, 0, none⟩) ps.length c) ps.length (flatA ps) ∧ Sr p A n cap (1 + 20 * ps.length) wr ∧ Lone p w1 wr) (fun _ i _ => (intOf i).toNat)
  case atStart => exact ⟨m0, [], q, 0, unhide HM, by (intro x hx; cases hx), rfl, rfl, unhide OW, unhide R1, unhide L1⟩
  case round =>
    obtain ⟨m, ps, g, c, hm, hgd, rfl, rfl, hown, hsr, hlo⟩ := hrel
    by_cases h0 : 0 < m
    · have q1 : (0 : Int) < (m : Int) := by omega
      have q2 : (m : Int) ≤ 7 := by omega
      have HM1 := hide (show m - 1 + (ps.length + 1) ≤ 7 by omega)
      have H0 := hide h0
      have KD := hide (drop33 p A n cap (1 + 20 * ps.length) wr hsr (unhide HN) (by omega))
      have OWN := hide hown
      have LO := hide hlo
      have HGD := hide hgd
      clear hm h0 hown hsr hlo R1 L1 OW HM hgd
      go_wp2_with fail
      refine (unhide KD).mono ?_
      rintro e w2 ⟨d, hd, rfl, r2, o2⟩
      have OWN2 := hide (ownsRow_lone (unhide OWN) o2 (unhide HP))
      have LO2 := hide ((unhide LO).trans o2)
      have HD := hide hd
      have KB := hide (bytes34 p A n cap (1 + 20 * ps.length + 1) w2 r2 (unhide HN) (by have := unhide HM1; omega))
      clear KD OWN LO o2 r2 hd
      go_wp2_with fail
      refine (unhide KB).mono ?_
      rintro e w3 ⟨gb, cb, xs, rfl, hxl, hob, r3, o3⟩
      have hown := ownsRow_lone (unhide OWN2) o3 (unhide HP)
      have hlo := (unhide LO2).trans o3
      have hzz : q ≤ w2.heap.size := by have := (unhide LO2).size; have := unhide HQ; omega
      have R3 := hide r3
      have hbn := bytes_new w3 (m : Int) ⟨by omega, by omega⟩
      have hbl := hob.lt
      have hol := hown.lt
      have gne : ∀ j, (Value.slice (some ⟨gb, 0, none⟩) xs.length cb).ownBlock = some j → w2.heap.size ≤ j := fun j hj => (hbl j hj).1
      have gout : ∀ j, (Value.slice (some ⟨g, 0, none⟩) ps.length c).ownBlock = some j → q ≤ j := fun j hj => (hol j hj).1
      have g2lt : g < w2.heap.size := ((unhide OWN2).lt g rfl).2
      have gbl : w2.heap.size ≤ gb := gne gb rfl
      have hz3 : w2.heap.size ≤ w3.heap.size := o3.size
      have hm2 := unhide HM1
      obtain ⟨bb, hbb⟩ : ∃ bb, bb = strOfNums (xs ++ [(m : Int)]) := ⟨_, rfl⟩
      have HBB := hide hbb
      clear KB OWN2 LO2 o3 r3 hbb
      go_wp2_with (first
        | (at_builtin; refine wpList_append_bytes _ rfl _ _ rfl w2.heap.size xs.length _ xs rfl (hob.alloc _) ⟨gb, cb, rfl⟩ _ [(m : Int)] rfl hbn (by simp; omega) (by simp; omega) ?_; intro g4 c4 w4 hob4 hgrow4; have hcv : (convert 22 9 (.slice (some ⟨g4, 0, none⟩) (xs.length + 1) c4)).run Try.prog w4 = .ok (.string bb) w4 := (by rw [unhide HBB]; exact own_str hob4 (by simp)); have hown4 := (hown.alloc (.cells #[.int .u8 (m : Int)] 5)).kept hgrow4 (.inr (by intro e; have e2 : g = gb := Option.some.inj e; omega)); have hone := one_acs w4 d bb)
        | (at_builtin; refine wpList_append_acs _ rfl _ _ rfl q ps.length _ ps rfl (hown4.alloc _) ⟨g, c, rfl⟩ _ [(d, bb)] rfl hone (by simp; omega) (by have := hgrow4.size; simp at this; simp; omega) ?_; intro g5 c5 w5 hown5 hgrow5)
        | go_in)
      go_roundw
      case rel =>
        have sr4 := (((unhide R3).below (bl_al (Below.refl _ _))).grown (B := q) hgrow4 (fun j hj => by have := gne j hj; omega) (unhide HP) (unhide HA))
        have sr5 := (sr4.below (bl_al (Below.refl _ _))).grown (B := q) hgrow5 gout (unhide HP) (unhide HA)
        have lo4 := grown_lone (B := q) (hlo.trans (Lone.of_below (bl_al (Below.refl _ _)))) hgrow4 (fun j hj => by have := gne j hj; omega) (by have := unhide HQ; omega)
        have lo5 := grown_lone (B := q) (lo4.trans (Lone.of_below (bl_al (Below.refl _ _)))) hgrow5 gout (by have := unhide HQ; omega)
        refine ⟨m - 1, ps ++ [(d, bb)], g5, c5, by rw [List.length_append]; exact unhide HM1, ?_, by have := unhide H0; go_num, by rw [List.length_append]; rfl, by rw [List.length_append]; exact hown5, sr5.more (by rw [List.length_append]; simp; omega), lo5⟩
        intro x hx
        rcases List.mem_append.1 hx with hx | hx
        · exact unhide HGD x hx
        · simp at hx
          subst hx
          exact ⟨unhide HD, by rw [unhide HBB, strOfNums_size]; simp; omega⟩
      case measure => have := unhide H0; simp [intOf]; omega
    · obtain rfl : m = 0 := by omega
      have OWN := hide (own_acs hown ⟨g, c, rfl⟩)
      have LO := hide hlo
      have HX := hide (show ps.length ≤ 7 by omega)
      have HGD := hide hgd
      clear hm h0 hown hsr hlo R1 L1 OW HM hgd
      go_wp2
      go_ret
      refine ⟨_, ps, rfl, unhide HX, unhide HGD, (unhide OWN).wide (by have := unhide HP; have := unhide HPP; omega) (Nat.le_refl _), ?_⟩
      have hb := unhide HB
      rw [← unhide HPP] at hb
      exact (unhide LO).below hb (by have := unhide HPP; omega) (by have := unhide HQ; have := unhide HP; have := unhide HPP; omega)
end Go.Proofs.Ytggiijlgdpkkfaa
