/- Drawn blobs and drawn items. -/
import Derived.Test.YtecgfkfifocbaaaApl
import Derived.Test.YtecgfkfifocbaaaSrc
namespace Go.Proofs.Ytecgfkfifocbaaa
open Go.RowKit
set_option maxHeartbeats 4000000
set_option maxRecDepth 20000
theorem blob_any (N : Nat) (w : World) (p : Nat) (A : Option Addr) (n cap k : Nat) (s : Int) (hs : w.heap[p]? = some (srcO A n cap k s)) (hN : N ≤ 4096) (hn : n ≤ maxLen) (hk : k + N < 4611686018427387904) (s0 : 0 ≤ s) (s1 : s < 2147483648) (hc : codeIn w p A n) :
    Calls Try.prog 29 #[.pointer (some ⟨p, 0, none⟩), .int .i64 N] w fun e w' => ∃ (t : ByteArray) (s' : Int), e = .returned (.string t) ∧ t.size = N ∧ 0 ≤ s' ∧ s' < 2147483648 ∧ w'.heap[p]? = some (srcO A n cap ((k + N : Nat) : Int) s') ∧ w.grownBy w' (some p) := by
  obtain ⟨i0, hi0, hz0, hz1, hz2⟩ := info_parts info5
  have hp := (Array.getElem?_eq_some_iff.1 hs).1
  go_enter Try.func29, Try.ntmps29
  go_wp2
  go_loopw [5, 6] (fun o c wr => ∃ (j : Nat) (xs : List Int) (s' : Int), j ≤ N ∧ xs.length = j ∧ c = .int .i64 j ∧ 0 ≤ s' ∧ s' < 2147483648 ∧ wr.ownsRow w.heap.size 5 1 o j (xs.map (Value.int .u8)) ∧ wr.heap[p]? = some (srcO A n cap ((k + j : Nat) : Int) s') ∧ w.grownBy wr (some p)) (fun _ c _ => N - (intOf c).toNat)
  case atStart => exact ⟨0, [], s, Nat.zero_le _, rfl, rfl, s0, s1, World.ownsRow_made w #[] 0 (Nat.le_refl _) (Nat.zero_le _) rfl, by rw [Below.heap_alloc _ _ _ hp]; exact hs, grown_trans (World.grownBy.refl w _) (World.grownBy_alloc w _ none) (by simp)⟩
  case round =>
    obtain ⟨j, xs, s', hj, hx, rfl, s0', s1', hown, hsrc, hgr⟩ := hrel
    by_cases hlt : j < N
    · have hcl : ∀ i d', (srcW wr d' p A n cap i s').heap.size = wr.heap.size := fun _ _ => size_src _ _ _ _ _ _ _ _
      go_wp2_with fail
      refine (next_at 256 wr p A n cap (k + j) s' hsrc (by omega) (by omega) hn (by omega) s0' s1' (codeIn_grown hc hgr)).mono ?_
      rintro e w1 ⟨c, s2, d2, rfl, c0, c1, s20, s21, rfl⟩
      have ho2 := own_src (d := d2) (A := A) (n := n) (cap := cap) (a := ((k + j + 1 : Nat) : Int)) (s := s2) hown hp
      have hg2 := grown_src (d := d2) (A := A) (n := n) (cap := cap) (a := ((k + j + 1 : Nat) : Int)) (s := s2) hgr
      have hs2 := get_src wr d2 p A n cap ((k + j + 1 : Nat) : Int) s2 (Nat.lt_of_lt_of_le hp hgr.size)
      have hz : w.heap.size ≤ (srcW wr d2 p A n cap ((k + j + 1 : Nat) : Int) s2).heap.size := hg2.size
      generalize srcW wr d2 p A n cap ((k + j + 1 : Nat) : Int) s2 = w2 at *
      clear hown hgr hsrc hcl
      go_wp2_with (at_builtin; refine wpList_append_lies _ rfl _ _ 39 rfl w.heap.size 5 i0 (.int .u8 0) 1 1 Try.underlying39 hi0 hz0 hz1 hz2 rfl (by omega) u5 j (xs.map (Value.int .u8)) rfl (ho2.alloc _)
                    ⟨w2.heap.size, 0, none⟩ 1 1 [.int .u8 c] rfl rfl (World.news_of_block (cs := #[.int .u8 c]) (t := 5) (fr := (0, 0)) (heap_alloc_new w2 _)) (by simp [Value.oneCell'])
                    (by omega) (by unfold maxLen; omega) (by omega) (by simp; omega) (w2.heap.size + 1) (by simp) ?_; intro gg cp w3 hown3 hgrow3 hat hltg)
      go_wp2
      go_roundw
      case rel =>
        refine ⟨j + 1, xs ++ [c], s2, by omega, by simp [hx], by go_num, s20, s21, by rw [List.map_append]; exact hown3, ?_, ?_⟩
        · rw [hgrow3.block p (by simp; omega) (fun e => by have := (ho2.lt p e.symm).1; omega), Below.heap_alloc _ _ _ (by omega)]
          exact hs2
        · exact grown_trans (grown_trans hg2 (World.grownBy_alloc w2 _ none) (by simp)) hgrow3 fun k hk => (ho2.lt k hk).1
      case measure => simp [intOf]; omega
    · obtain rfl : j = N := by omega
      have hc := own_str hown hx
      go_wp2
      go_ret
      exact ⟨_, s', rfl, by rw [strOfNums_size]; exact hx, s0', s1', hsrc, hgr⟩
theorem blobOf_any (N : Nat) (A : Option Addr) (n cap : Nat) (w : World) (hN : N ≤ 4096) (hn : n ≤ maxLen) (hc : codeAt w A n) :
    Calls Try.prog 18 #[.slice A n cap, .int .i64 N] w fun e w' => ∃ t : ByteArray, e = .returned (.string t) ∧ t.size = N ∧ Below w.heap.size w w' := by
  go_enter Try.func18, Try.ntmps18
  go_wp2_with fail
  refine (source_any A n cap hn w).mono ?_
  rintro e w1 ⟨rfl, rfl⟩
  go_wp2_with fail
  refine (blob_any N _ w.heap.size A n cap 0 _ (heap_alloc_new w _) hN hn (by omega) (by omega) (by omega) (codeIn_alloc hc _)).mono ?_
  rintro e w2 ⟨t, s', rfl, ht, s0, s1, hs, hg⟩
  go_wp2
  go_ret
  exact ⟨t, rfl, ht, Below.grown ((Below.refl _ w).alloc (Nat.le_refl _) _) hg (by simp) (by simp)⟩
theorem cell_in {W : World} {b i : Nat} {v : Value} (h : W.cell? ⟨b, i, none⟩ = some v) : b < W.heap.size := by
  unfold World.cell? at h
  rw [show (⟨b, i, none⟩ : Addr).block = b from rfl] at h
  rcases Nat.lt_or_ge b W.heap.size with hl | hl
  · exact hl
  · rw [Array.getElem?_eq_none hl] at h; cases h
/-- a source of choices in block p, of which at most K were drawn -/
structure Sr (p : Nat) (A : Option Addr) (n cap K : Nat) (W : World) : Prop where
  row : ∃ (k : Nat) (s : Int), k ≤ K ∧ W.heap[p]? = some (srcO A n cap (k : Int) s) ∧ 0 ≤ s ∧ s < 2147483648
  code : codeIn W p A n
theorem Sr.lt {p : Nat} {A : Option Addr} {n cap k : Nat} {W : World} (h : Sr p A n cap k W) : p < W.heap.size := by
  obtain ⟨_, s, _, h1, _⟩ := h.row
  exact (Array.getElem?_eq_some_iff.1 h1).1
theorem Sr.more {p : Nat} {A : Option Addr} {n cap k k' : Nat} {W : World} (h : Sr p A n cap k W) (hk : k ≤ k') : Sr p A n cap k' W := by
  obtain ⟨j, s, hj, h1⟩ := h.row
  exact ⟨⟨j, s, by omega, h1⟩, h.code⟩
theorem codeIn_lone {W W' : World} {p q n : Nat} {A : Option Addr} (h : codeIn W p A n) (ho : Lone q W W') (hq : ∀ b off, A = some ⟨b, off, none⟩ → 0 < n → b ≠ q) : codeIn W' p A n := fun hn => by
  obtain ⟨b, off, hA, hb, hc⟩ := h hn
  refine ⟨b, off, hA, hb, fun i hi => ?_⟩
  obtain ⟨c, c0, c1, e⟩ := hc i hi
  refine ⟨c, c0, c1, ?_⟩
  rw [← e]
  unfold World.cell?
  rw [show (⟨b, off + i, none⟩ : Addr).block = b from rfl, ho.block b (cell_in e) (hq b off hA hn)]
theorem Sr.below {p : Nat} {A : Option Addr} {n cap k : Nat} {W W' : World} (h : Sr p A n cap k W) (hb : Below W.heap.size W W') : Sr p A n cap k W' := by
  obtain ⟨j, s, hj, h1, h2, h3⟩ := h.row
  refine ⟨⟨j, s, hj, (hb.block p h.lt).trans h1, h2, h3⟩, fun hn => ?_⟩
  obtain ⟨b, off, hA, hne, hc⟩ := h.code hn
  refine ⟨b, off, hA, hne, fun i hi => ?_⟩
  obtain ⟨c, c0, c1, e⟩ := hc i hi
  exact ⟨c, c0, c1, (cell_below hb (cell_in e)).trans e⟩
/-- while blocks are written that are newer than the source and what it reads -/
theorem Sr.grown {p : Nat} {A : Option Addr} {n cap k B : Nat} {W W' : World} {row : Option Nat} (h : Sr p A n cap k W) (hg : W.grownBy W' row) (hr : ∀ j, row = some j → B ≤ j) (hp : p < B) (hA : ∀ b off, A = some ⟨b, off, none⟩ → 0 < n → b < B) : Sr p A n cap k W' := by
  obtain ⟨j, s, hj, h1, h2, h3⟩ := h.row
  refine ⟨⟨j, s, hj, (hg.block p h.lt (fun e => by have := hr p e.symm; omega)).trans h1, h2, h3⟩, fun hn => ?_⟩
  obtain ⟨b, off, hA', hne, hc⟩ := h.code hn
  refine ⟨b, off, hA', hne, fun i hi => ?_⟩
  obtain ⟨c, c0, c1, e⟩ := hc i hi
  exact ⟨c, c0, c1, (World.cell?_of_block (hg.block b (cell_in e) (fun q => by have := hr b q.symm; have := hA b off hA' hn; omega))).trans e⟩
theorem next_o (N : Int) (p : Nat) (A : Option Addr) (n cap k : Nat) (W : World) (h : Sr p A n cap k W) (hN : 1 < N) (hN2 : N ≤ 256) (hn : n ≤ maxLen) (hk : k < 1000000) :
    Calls Try.prog 40 #[.pointer (some ⟨p, 0, none⟩), .int .i64 N] W fun e w' => ∃ c : Int, e = .returned (.int .i64 c) ∧ 0 ≤ c ∧ c < N ∧ Sr p A n cap (k + 1) w' ∧ Lone p W w' ∧ w'.heap.size = W.heap.size := by
  obtain ⟨j, s, hj, h1, s0, s1⟩ := h.row
  refine (next_at N W p A n cap j s h1 hN hN2 hn (by omega) s0 s1 h.code).mono ?_
  rintro e w' ⟨c, s', d', rfl, c0, c1, t0, t1, rfl⟩
  have lo : Lone p W (srcW W d' p A n cap ((j + 1 : Nat) : Int) s') := ⟨rfl, rfl, rfl, by simp [srcW], fun k _ hk => get_src_other W d' p A n cap _ s' k hk⟩
  refine ⟨c, rfl, c0, c1, ⟨⟨j + 1, s', by omega, get_src _ _ _ _ _ _ _ _ h.lt, t0, t1⟩, fun hn => ?_⟩, lo, by simp [srcW]⟩
  obtain ⟨b, off, hA, hne, hc⟩ := h.code hn
  refine ⟨b, off, hA, hne, fun i hi => ?_⟩
  obtain ⟨c, c0, c1, e⟩ := hc i hi
  exact ⟨c, c0, c1, (World.cell?_of_block (lo.block b (cell_in e) hne)).trans e⟩
theorem ownsRow_lone {w w' : World} {q base : Nat} {e : TypeId} {size : Nat} {v : Value} {n : Nat} {xs : List Value} (h : w.ownsRow base e size v n xs) (hl : Lone q w w') (hq : q < base) : w'.ownsRow base e size v n xs := by
  refine ⟨h.1, ?_⟩
  rcases h.2 with h | ⟨g, c, cur, hv, hb, hg, h1⟩
  · exact .inl h
  · exact .inr ⟨g, c, cur, hv, hb, (hl.block g (Array.getElem?_eq_some_iff.1 hg).1 (by omega)).trans hg, h1⟩
theorem grown_lone {q : Nat} {B : Nat} {a b c : World} {row : Option Nat} (h : Lone q a b) (hg : b.grownBy c row) (hr : ∀ j, row = some j → B ≤ j) (hB : a.heap.size ≤ B) : Lone q a c :=
  ⟨hg.os.trans h.os, hg.tape.trans h.tape, hg.output.trans h.output, Nat.le_trans h.size hg.size, fun k hk hne => (hg.block k (Nat.lt_of_lt_of_le hk h.size) (fun e => by have := hr k e.symm; omega)).trans (h.block k hk hne)⟩
theorem codeIn_lt {W : World} {p n : Nat} {A : Option Addr} (h : codeIn W p A n) : ∀ b off, A = some ⟨b, off, none⟩ → 0 < n → b < W.heap.size := fun b off hA hn => by
  obtain ⟨b', off', hA', _, hc⟩ := h hn
  rw [hA] at hA'
  cases hA'
  obtain ⟨c, _, _, e⟩ := hc 0 hn
  exact cell_in e
theorem ownsRow_low {w : World} {base base' : Nat} {e : TypeId} {size n : Nat} {v : Value} {xs : List Value} (h : w.ownsRow base e size v n xs) (hb : base' ≤ base) : w.ownsRow base' e size v n xs := by
  refine ⟨h.1, ?_⟩
  rcases h.2 with h | ⟨g, c, cur, hv, h1, h2⟩
  · exact .inl h
  · exact .inr ⟨g, c, cur, hv, Nat.le_trans hb h1, h2⟩
theorem blob_o (N : Nat) (p : Nat) (A : Option Addr) (n cap k : Nat) (W : World) (h : Sr p A n cap k W) (hN : N ≤ 4096) (hn : n ≤ maxLen) (hk : k < 1000000) :
    Calls Try.prog 29 #[.pointer (some ⟨p, 0, none⟩), .int .i64 N] W fun e w' => ∃ t : ByteArray, e = .returned (.string t) ∧ t.size = N ∧ Sr p A n cap (k + N) w' ∧ Lone p W w' := by
  obtain ⟨k', s, hk', h1, s0, s1⟩ := h.row
  refine (blob_any N W p A n cap k' s h1 hN hn (by omega) s0 s1 h.code).mono ?_
  rintro e w' ⟨t, s', rfl, ht, t0, t1, h2, hg⟩
  have ho : Lone p W w' := ⟨hg.os, hg.tape, hg.output, hg.size, fun k hk hne => hg.block k hk (fun e => hne (Option.some.inj e))⟩
  exact ⟨t, rfl, ht, ⟨⟨k' + N, s', by omega, h2, t0, t1⟩, codeIn_grown h.code hg⟩, ho⟩
/-- items of a length that is right -/
def goodT (ts : List ByteArray) : Prop := ∀ t ∈ ts, t.size ≤ 400
theorem items30 (p : Nat) (A : Option Addr) (n cap : Nat) (W : World) (h : Sr p A n cap 0 W) (hn : n ≤ maxLen) :
    Calls Try.prog 30 #[.pointer (some ⟨p, 0, none⟩)] W fun e w' => ∃ (g c : Nat) (ts : List ByteArray), e = .returned (.slice (some ⟨g, 0, none⟩) ts.length c) ∧ ts.length ≤ 7 ∧ goodT ts ∧ w'.ownsRow W.heap.size 9 1 (.slice (some ⟨g, 0, none⟩) ts.length c) ts.length (ts.map Value.string) ∧ Lone p W w' := by
  have HN := hide hn
  have HP := hide h.lt
  have HA := hide (codeIn_lt h.code)
  have B1 := hide (bl_al (o := .cells #[] 9) (Below.refl W.heap.size W))
  have K0 := hide (next_o 20 p A n cap 0 (W.alloc (.cells #[] 9)) (h.below (unhide B1)) (by omega) (by omega) hn (by omega))
  have O1 := hide (World.ownsRow_made W (e := 9) (size := 1) #[] 0 (Nat.le_refl _) (Nat.zero_le _) rfl)
  clear h hn
  go_enter Try.func30, Try.ntmps30
  go_wp2_with fail
  refine (unhide K0).mono ?_
  rintro e w1 ⟨zi, rfl, z0, z1, r1, o1, _⟩
  obtain ⟨z, rfl⟩ := Int.eq_ofNat_of_zero_le z0
  have K1 := hide (next_o 8 p A n cap 1 w1 r1 (by omega) (by omega) (unhide HN) (by omega))
  have L1 := hide ((Lone.of_below (unhide B1)).trans o1)
  have OW1 := hide (ownsRow_lone (unhide O1) o1 (unhide HP))
  have Z19 := hide (show z ≤ 19 by omega)
  clear r1 o1 K0 O1 B1 z0 z1
  go_wp2_with fail
  refine (unhide K1).mono ?_
  rintro e w2 ⟨ci, rfl, c0, c1, r2, o2, _⟩
  obtain ⟨m0, rfl⟩ := Int.eq_ofNat_of_zero_le c0
  have R1 := hide r2
  have L2 := hide ((unhide L1).trans o2)
  have OW := hide (ownsRow_lone (unhide OW1) o2 (unhide HP))
  have HM := hide (show m0 ≤ 7 by omega)
  clear r2 o2 K1 OW1 L1 c0 c1
  go_wp2
  go_loopw [3, 5] (fun o i wr => ∃ (m : Nat) (xs : List ByteArray) (g c : Nat), m + xs.length ≤ 7 ∧ goodT xs ∧ i = .int .i64 m ∧ o = .slice (some ⟨g, 0, none⟩) xs.length c ∧ wr.ownsRow W.heap.size 9 1 (.slice (some ⟨g, 0, none⟩) xs.length c) xs.length (xs.map Value.string) ∧ Sr p A n cap (2 + 20 * xs.length) wr ∧ Lone p W wr) (fun _ i _ => (intOf i).toNat)
  case atStart => exact ⟨m0, [], W.heap.size, 0, unhide HM, fun x hx => (by cases hx), rfl, rfl, unhide OW, unhide R1, unhide L2⟩
  case round =>
    obtain ⟨m, xs, g, c, hm, hgd, rfl, rfl, hown, hsr, hlo⟩ := hrel
    by_cases h0 : 0 < m
    · have q1 : (0 : Int) < (m : Int) := by omega
      have q2 : (m : Int) ≤ 7 := by omega
      have HM1 := hide (show m - 1 + (xs.length + 1) ≤ 7 by omega)
      have H0 := hide h0
      have KN := hide (blob_o z p A n cap (2 + 20 * xs.length) wr hsr (by have := unhide Z19; omega) (unhide HN) (by omega))
      have OWN := hide hown
      have LO := hide hlo
      have HG := hide hgd
      clear hm h0 hown hsr hlo R1 L2 OW HM hgd
      go_wp2_with fail
      refine (unhide KN).mono ?_
      rintro e w2 ⟨t, rfl, ht, r2, o2⟩
      have hown := ownsRow_lone (unhide OWN) o2 (unhide HP)
      have hlo := (unhide LO).trans o2
      have R2 := hide r2
      have HT := hide ht
      have HZ : Hid (W.heap.size ≤ w2.heap.size) := hide hlo.size
      have hlt := hown.lt
      have hxl : xs.length ≤ 7 := by have := unhide HM1; omega
      have bn := one_str w2 t
      clear KN OWN LO o2 r2 ht
      go_wp2_with (first
        | (at_builtin; refine wpList_append_strsL _ rfl _ _ rfl W.heap.size xs.length _ xs rfl (hown.alloc _) ⟨g, c, rfl⟩ _ [t] rfl bn (by simp; omega) (by have := unhide HZ; simp; omega) ?_; intro g3 c3 w3 hown3 hgrow3 _)
        | go_in)
      go_roundw
      case rel =>
        have hg0 : ∀ j, (Value.slice (some ⟨g, 0, none⟩) xs.length c).ownBlock = some j → W.heap.size ≤ j := fun j hj => (hlt j hj).1
        refine ⟨m - 1, xs ++ [t], g3, c3, by rw [List.length_append]; exact unhide HM1, fun x hx => ?_, by have := unhide H0; go_num, by rw [List.length_append]; rfl, by rw [List.length_append]; exact hown3, ?_, ?_⟩
        · rcases List.mem_append.1 hx with hx | hx
          · exact unhide HG x hx
          · rw [List.mem_singleton.1 hx, unhide HT]; have := unhide Z19; omega
        · refine (((unhide R2).below (bl_al (Below.refl _ _))).grown hgrow3 hg0 (unhide HP) (unhide HA)).more (by rw [List.length_append]; have := unhide Z19; simp; omega)
        · exact grown_lone (hlo.trans (Lone.of_below (bl_al (Below.refl _ _)))) hgrow3 hg0 (Nat.le_refl _)
      case measure => have := unhide H0; simp [intOf]; omega
    · obtain rfl : m = 0 := by omega
      have OWN := hide hown
      have LO := hide hlo
      have HX := hide (show xs.length ≤ 7 by omega)
      have HG := hide hgd
      clear hm h0 hown hsr hlo R1 L2 OW HM hgd
      go_wp2
      go_ret
      exact ⟨g, c, xs, rfl, unhide HX, unhide HG, unhide OWN, unhide LO⟩
theorem itemsOf19 (A : Option Addr) (n cap : Nat) (W : World) (hn : n ≤ maxLen) (hc : codeAt W A n) :
    Calls Try.prog 19 #[.slice A n cap] W fun e w' => ∃ (g c : Nat) (ts : List ByteArray), e = .returned (.slice (some ⟨g, 0, none⟩) ts.length c) ∧ ts.length ≤ 7 ∧ goodT ts ∧ w'.ownsRow W.heap.size 9 1 (.slice (some ⟨g, 0, none⟩) ts.length c) ts.length (ts.map Value.string) ∧ Below W.heap.size W w' := by
  have HN := hide hn
  have HC := hide hc
  clear hn hc
  go_enter Try.func19, Try.ntmps19
  go_wp2_with fail
  refine (source_any A n cap (unhide HN) W).mono ?_
  rintro e w' ⟨rfl, hw'⟩
  have hw2 := hw'.symm
  subst hw2
  have S2 := hide (show Sr W.heap.size A n cap 0 (W.alloc (srcO A n cap 0 ((n % 1000 : Nat) : Int))) from ⟨⟨0, _, Nat.le_refl _, heap_alloc_new W _, by omega, by omega⟩, codeIn_alloc (unhide HC) _⟩)
  have B2 := hide (show Below W.heap.size W (W.alloc (srcO A n cap 0 ((n % 1000 : Nat) : Int))) from bl_al (Below.refl _ _))
  clear hw'
  generalize W.alloc (srcO A n cap 0 ((n % 1000 : Nat) : Int)) = w2 at *
  go_wp2_with fail
  refine (items30 _ A n cap w2 (unhide S2) (unhide HN)).mono ?_
  rintro e w3 ⟨g, c, ts, rfl, hl, hg, ho, lo⟩
  have OU := hide (show w3.ownsRow W.heap.size 9 1 (.slice (some ⟨g, 0, none⟩) ts.length c) ts.length (ts.map Value.string) from ownsRow_low ho (unhide B2).size)
  have HL := hide hl
  have HG := hide hg
  have B3 := hide (Lone.below lo (unhide B2) (Nat.le_refl _) (unhide B2).size)
  clear hl hg ho lo
  go_wp2
  go_ret
  exact ⟨g, c, ts, rfl, unhide HL, unhide HG, unhide OU, unhide B3⟩
end Go.Proofs.Ytecgfkfifocbaaa
