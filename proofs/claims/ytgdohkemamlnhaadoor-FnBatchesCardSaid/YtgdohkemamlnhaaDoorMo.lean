/- A message that is drawn. -/
import Derived.Test.YtgdohkemamlnhaaDoorArg
import Derived.Test.YtgdohkemamlnhaaDoorRx
namespace Go.Proofs.YtgdohkemamlnhaaDoor
open Go.RowKit
set_option maxHeartbeats 4000000
set_option maxRecDepth 20000
/-- a source of choices in block p -/
structure Sr (p : Nat) (A : Option Addr) (n cap k : Nat) (W : World) : Prop where
  row : ∃ s : Int, W.heap[p]? = some (srcO A n cap (k : Int) s) ∧ 0 ≤ s ∧ s < 2147483648
  code : codeIn W p A n
theorem Sr.lt {p : Nat} {A : Option Addr} {n cap k : Nat} {W : World} (h : Sr p A n cap k W) : p < W.heap.size := by
  obtain ⟨s, h1, _⟩ := h.row
  exact (Array.getElem?_eq_some_iff.1 h1).1
theorem codeIn_only {W W' : World} {p n : Nat} {A : Option Addr} (h : codeIn W p A n) (ho : Only p W W') : codeIn W' p A n := fun hn => by
  obtain ⟨b, off, hA, hb, hc⟩ := h hn
  refine ⟨b, off, hA, hb, fun i hi => ?_⟩
  obtain ⟨c, c0, c1, e⟩ := hc i hi
  refine ⟨c, c0, c1, ?_⟩
  rw [← e]
  unfold World.cell?
  rw [show (⟨b, off + i, none⟩ : Addr).block = b from rfl, ho.block b (lt_of_cell e) hb]
theorem Sr.only {p : Nat} {A : Option Addr} {n cap k : Nat} {W W' : World} (h : Sr p A n cap k W) (hb : Below W.heap.size W W') : Sr p A n cap k W' := by
  obtain ⟨s, h1, h2, h3⟩ := h.row
  exact ⟨⟨s, (hb.block p h.lt).trans h1, h2, h3⟩, codeIn_only h.code (Only.of_below hb)⟩
theorem only_src (w : World) (d p : Nat) (A : Option Addr) (n cap : Nat) (a s : Int) : Only p w (srcW w d p A n cap a s) :=
  ⟨rfl, rfl, rfl, by simp [srcW], fun k _ hk => get_src_other w d p A n cap a s k hk⟩
theorem next_o (N : Int) (p : Nat) (A : Option Addr) (n cap k : Nat) (W : World) (h : Sr p A n cap k W) (hN : 1 < N) (hN2 : N ≤ 256) (hn : n ≤ maxLen) (hk : k < 1000000) :
    Calls Tryd.prog 57 #[.pointer (some ⟨p, 0, none⟩), .int .i64 N] W fun e w' => ∃ c : Int, e = .returned (.int .i64 c) ∧ 0 ≤ c ∧ c < N ∧ Sr p A n cap (k + 1) w' ∧ Only p W w' := by
  obtain ⟨s, h1, s0, s1⟩ := h.row
  refine (next_at N W p A n cap k s h1 hN hN2 hn (by omega) s0 s1 h.code).mono ?_
  rintro e w' ⟨c, s', d', rfl, c0, c1, t0, t1, rfl⟩
  exact ⟨c, rfl, c0, c1, ⟨⟨s', get_src _ _ _ _ _ _ _ _ h.lt, t0, t1⟩, codeIn_only h.code (only_src _ _ _ _ _ _ _ _)⟩, only_src _ _ _ _ _ _ _ _⟩
theorem blob_o (N : Nat) (p : Nat) (A : Option Addr) (n cap k : Nat) (W : World) (h : Sr p A n cap k W) (hN : N ≤ 4096) (hn : n ≤ maxLen) (hk : k < 1000000) :
    Calls Tryd.prog 58 #[.pointer (some ⟨p, 0, none⟩), .int .i64 N] W fun e w' => ∃ t : ByteArray, e = .returned (.string t) ∧ t.size = N ∧ Sr p A n cap (k + N) w' ∧ Only p W w' := by
  obtain ⟨s, h1, s0, s1⟩ := h.row
  refine (blob_any N W p A n cap k s h1 hN hn (by omega) s0 s1 h.code).mono ?_
  rintro e w' ⟨t, s', rfl, ht, t0, t1, h2, hg⟩
  have ho : Only p W w' := ⟨hg.os, hg.tape, hg.output, hg.size, fun k hk hne => hg.block k hk (fun e => hne (Option.some.inj e))⟩
  exact ⟨t, rfl, ht, ⟨⟨s', h2, t0, t1⟩, codeIn_only h.code ho⟩, ho⟩
theorem pick_o (q m : Nat) (ts : Nat → ByteArray) (p : Nat) (A : Option Addr) (n cap k : Nat) (W : World) (h : Sr p A n cap k W) (hm : 1 < m) (hm2 : m ≤ 256) (hn : n ≤ maxLen) (hk : k < 1000000) (hq : q ≠ p) (hl : q < W.heap.size) (hc : ∀ i, i < m → W.cell? ⟨q, i, none⟩ = some (.string (ts i))) :
    Calls Tryd.prog 59 #[.pointer (some ⟨p, 0, none⟩), .slice (some ⟨q, 0, none⟩) m m] W fun e w' => ∃ i, i < m ∧ e = .returned (.string (ts i)) ∧ Sr p A n cap (k + 1) w' ∧ Only p W w' := by
  have hx := hide (next_o (m : Int) p A n cap k W h (by omega) (by omega) hn hk)
  have HC := hide hc
  have HL := hide hl
  have HQ := hide hq
  have q1 : ¬ ((m : Int) = 0) := by omega
  have q2 : (m : Int) ≤ 256 := by omega
  clear h hc hm hm2 hn hk hl hq
  go_enter Tryd.func59, Tryd.ntmps59
  go_wp2_with fail
  refine (unhide hx).mono ?_
  rintro e w1 ⟨c, rfl, c0, c1, r1, o1⟩
  obtain ⟨i, rfl⟩ := Int.eq_ofNat_of_zero_le c0
  have hi : i < m := by omega
  have p1 : w1.cell? ⟨q, i, none⟩ = some (.string (ts i)) := by
    rw [← unhide HC i hi]
    unfold World.cell?
    rw [show (⟨q, i, none⟩ : Addr).block = q from rfl, o1.block q (unhide HL) (unhide HQ)]
  have R1 := hide r1
  have O1 := hide o1
  have HI := hide hi
  clear r1 o1 hx hi
  go_wp2
  go_ret
  exact ⟨i, unhide HI, rfl, unhide R1, unhide O1⟩
def bodyD : Nat → ByteArray
  | 0 => ⟨#[]⟩
  | 1 => ⟨#[104, 101, 108, 108, 111]⟩
  | 2 => ⟨#[97, 32, 98, 111, 100, 121]⟩
  | _ => ⟨#[48, 49, 50, 51, 52, 53, 54, 55, 56, 57, 48, 49, 50, 51, 52, 53, 54, 55, 56, 57, 48, 49, 50, 51, 52, 53, 54, 55, 56, 57, 48, 49, 50, 51, 52, 53, 54, 55, 56, 57]⟩
theorem bodyD_size : ∀ i, (bodyD i).size ≤ 40
  | 0 => by decide
  | 1 => by decide
  | 2 => by decide
  | _ + 3 => (by decide : (bodyD 3).size ≤ 40)
theorem body_cells (w : World) : ∀ i, i < 4 → (w.alloc (.cells #[.string (bodyD 0), .string (bodyD 1), .string (bodyD 2), .string (bodyD 3)] 9)).cell? ⟨w.heap.size, i, none⟩ = some (.string (bodyD i)) := by
  intro i hi
  rw [Go.cell_of_row _ _ _ _ _ _ (heap_alloc_new w _)]
  obtain rfl | rfl | rfl | rfl : i = 0 ∨ i = 1 ∨ i = 2 ∨ i = 3 := by omega
  all_goals rfl
theorem message38 (p : Nat) (A : Option Addr) (n cap : Nat) (W : World) (h : Sr p A n cap 0 W) (hn : n ≤ maxLen) :
    Calls Tryd.prog 38 #[.pointer (some ⟨p, 0, none⟩)] W fun e w' => ∃ r s a d t, e = .returned (msgV r s a d t) ∧ okM r s a d t = true ∧ Only p W w' := by
  have HN := hide hn
  have B1 := hide (show Below W.heap.size W (W.alloc (.cells #[.int .i64 0, .int .i64 0, .int .i64 0, .string ⟨#[]⟩, .string ⟨#[]⟩] 24)) from bl_al (Below.refl _ _))
  have N1 := hide (heap_at W (.cells #[.int .i64 0, .int .i64 0, .int .i64 0, .string ⟨#[]⟩, .string ⟨#[]⟩] 24) W.heap.size rfl)
  have S1 := hide (h.only (unhide B1))
  have LP := hide h.lt
  clear h hn
  go_enter Tryd.func38, Tryd.ntmps38
  go_wp2_with fail
  generalize W.alloc (.cells #[.int .i64 0, .int .i64 0, .int .i64 0, .string ⟨#[]⟩, .string ⟨#[]⟩] 24) = w1 at *
  refine (next_o 50 p A n cap 0 w1 (unhide S1) (by omega) (by omega) (unhide HN) (by omega)).mono ?_
  rintro e w2 ⟨r, rfl, r0, r1, s2, o2⟩
  have S2 := hide s2
  have O2 := hide o2
  clear s2 o2 S1
  go_wp2_with fail
  refine (next_o 9 p A n cap _ w2 (unhide S2) (by omega) (by omega) (unhide HN) (by omega)).mono ?_
  rintro e w3 ⟨s, rfl, t0, t1, s3, o3⟩
  have S3 := hide s3
  have O3 := hide ((unhide O2).trans o3)
  clear s3 o3 S2 O2
  go_wp2_with fail
  refine (next_o 9 p A n cap _ w3 (unhide S3) (by omega) (by omega) (unhide HN) (by omega)).mono ?_
  rintro e w4 ⟨a, rfl, a0, a1, s4, o4⟩
  have S4 := hide s4
  have O4 := hide ((unhide O3).trans o4)
  clear s4 o4 S3 O3
  go_wp2_with fail
  refine (blob_o 8 p A n cap _ w4 (unhide S4) (by omega) (unhide HN) (by omega)).mono ?_
  rintro e w5 ⟨d, rfl, d8, s5, o5⟩
  have S5 := hide s5
  have O5 := hide ((unhide O4).trans o5)
  have D8 := hide d8
  clear s5 o5 S4 O4 d8
  go_wp2_with fail
  have bc := body_cells w5
  have Bw : Below w5.heap.size w5 (w5.alloc (.cells #[.string (bodyD 0), .string (bodyD 1), .string (bodyD 2), .string (bodyD 3)] 9)) := bl_al (Below.refl _ _)
  refine (pick_o w5.heap.size 4 bodyD p A n cap _ (w5.alloc (.cells #[.string (bodyD 0), .string (bodyD 1), .string (bodyD 2), .string (bodyD 3)] 9)) ((unhide S5).only Bw) (by omega) (by omega) (unhide HN) (by omega) (by have := (unhide S5).lt; omega) (by simp) bc).mono ?_
  rintro e w6 ⟨ix, _, rfl, _, o6⟩
  have O6 := hide (((unhide O5).trans (Only.of_below Bw)).trans o6)
  have SZ := hide (bodyD_size ix)
  generalize bodyD ix = t at *
  have n6 : w6.heap[W.heap.size]? = some (.cells #[.int .i64 0, .int .i64 0, .int .i64 0, .string ⟨#[]⟩, .string ⟨#[]⟩] 24 (0, 0)) := ((unhide O6).block _ (Array.getElem?_eq_some_iff.1 (unhide N1)).1 (by have := unhide LP; omega)).trans (unhide N1)
  have p0 : w6.cell? ⟨W.heap.size, 0, none⟩ = some (.int .i64 0) := row_cell n6
  have y0 : w6.frozen? ⟨W.heap.size, 0, none⟩ = false := row_free n6
  have p1 : w6.cell? ⟨W.heap.size, 1, none⟩ = some (.int .i64 0) := row_cell n6
  have y1 : w6.frozen? ⟨W.heap.size, 1, none⟩ = false := row_free n6
  have p2 : w6.cell? ⟨W.heap.size, 2, none⟩ = some (.int .i64 0) := row_cell n6
  have y2 : w6.frozen? ⟨W.heap.size, 2, none⟩ = false := row_free n6
  have p3 : w6.cell? ⟨W.heap.size, 3, none⟩ = some (.string ⟨#[]⟩) := row_cell n6
  have y3 : w6.frozen? ⟨W.heap.size, 3, none⟩ = false := row_free n6
  have p4 : w6.cell? ⟨W.heap.size, 4, none⟩ = some (.string ⟨#[]⟩) := row_cell n6
  have y4 : w6.frozen? ⟨W.heap.size, 4, none⟩ = false := row_free n6
  have N6 := hide n6
  clear n6 bc Bw o6 S5 O5
  have OK : Hid (okM r s a d t = true) := hide (by unfold okM; simp; exact ⟨⟨⟨⟨⟨r0, by omega⟩, t0, by omega⟩, a0, by omega⟩, unhide D8⟩, unhide SZ⟩)
  go_wp2
  refine bodyPost_ret (v := msgV r s a d t) ?_ rfl ⟨r, s, a, d, t, rfl, unhide OK, ?_⟩
  · exact results_cell_row rfl _ _ W.heap.size 24 _ (0, 0) _ rfl (row_set (i := 4) (v := .string t) (row_set (i := 3) (v := .string d) (row_set (i := 2) (v := .int .i64 a) (row_set (i := 1) (v := .int .i64 s) (row_set (i := 0) (v := .int .i64 r) (unhide N6)))))) Tryd.underlying24 rfl (by kernel_rfl)
  · exact ((((((Only.of_below (unhide B1)).trans (unhide O6)).setNew _ _ _ (Nat.le_refl _)).setNew _ _ _ (Nat.le_refl _)).setNew _ _ _ (Nat.le_refl _)).setNew _ _ _ (Nat.le_refl _)).setNew _ _ _ (Nat.le_refl _)
theorem msgOf18 (A : Option Addr) (n cap : Nat) (W : World) (hn : n ≤ maxLen) (hc : codeAt W A n) :
    Calls Tryd.prog 18 #[.slice A n cap] W fun e w' => ∃ r s a d t, e = .returned (msgV r s a d t) ∧ okM r s a d t = true ∧ Below W.heap.size W w' := by
  have HN := hide hn
  have B1 := hide (show Below W.heap.size W (W.alloc (.cells #[.int .i64 0, .int .i64 0, .int .i64 0, .string ⟨#[]⟩, .string ⟨#[]⟩] 24)) from bl_al (Below.refl _ _))
  have N1 := hide (heap_at W (.cells #[.int .i64 0, .int .i64 0, .int .i64 0, .string ⟨#[]⟩, .string ⟨#[]⟩] 24) W.heap.size rfl)
  have HC := hide (codeAt_below hc (unhide B1))
  have L1 := hide (show W.heap.size < (W.alloc (.cells #[.int .i64 0, .int .i64 0, .int .i64 0, .string ⟨#[]⟩, .string ⟨#[]⟩] 24)).heap.size by simp)
  clear hn hc
  go_enter Tryd.func18, Tryd.ntmps18
  go_wp2_with fail
  generalize W.alloc (.cells #[.int .i64 0, .int .i64 0, .int .i64 0, .string ⟨#[]⟩, .string ⟨#[]⟩] 24) = w1 at *
  refine (source_any A n cap (unhide HN) w1).mono ?_
  rintro e w2 ⟨rfl, rfl⟩
  have S2 := hide (show Sr w1.heap.size A n cap 0 (w1.alloc (srcO A n cap 0 ((n % 1000 : Nat) : Int))) from ⟨⟨_, heap_alloc_new w1 _, by omega, by omega⟩, codeIn_alloc (unhide HC) _⟩)
  have B2 := hide (show Below w1.heap.size w1 (w1.alloc (srcO A n cap 0 ((n % 1000 : Nat) : Int))) from bl_al (Below.refl _ _))
  generalize w1.alloc (srcO A n cap 0 ((n % 1000 : Nat) : Int)) = w2 at *
  go_wp2_with fail
  refine (message38 _ A n cap w2 (unhide S2) (unhide HN)).mono ?_
  rintro e w3 ⟨r, s, a, d, t, rfl, ok, o3⟩
  have OK := hide ok
  have B3 := hide (Only.below o3 (unhide B2) (Nat.le_refl _) (unhide B2).size)
  have n3 : w3.heap[W.heap.size]? = some (.cells #[.int .i64 0, .int .i64 0, .int .i64 0, .string ⟨#[]⟩, .string ⟨#[]⟩] 24 (0, 0)) := ((unhide B3).block _ (unhide L1)).trans (unhide N1)
  have p0 : w3.cell? ⟨W.heap.size, 0, none⟩ = some (.int .i64 0) := row_cell n3
  have y0 : w3.frozen? ⟨W.heap.size, 0, none⟩ = false := row_free n3
  have p1 : w3.cell? ⟨W.heap.size, 1, none⟩ = some (.int .i64 0) := row_cell n3
  have y1 : w3.frozen? ⟨W.heap.size, 1, none⟩ = false := row_free n3
  have p2 : w3.cell? ⟨W.heap.size, 2, none⟩ = some (.int .i64 0) := row_cell n3
  have y2 : w3.frozen? ⟨W.heap.size, 2, none⟩ = false := row_free n3
  have p3 : w3.cell? ⟨W.heap.size, 3, none⟩ = some (.string ⟨#[]⟩) := row_cell n3
  have y3 : w3.frozen? ⟨W.heap.size, 3, none⟩ = false := row_free n3
  have p4 : w3.cell? ⟨W.heap.size, 4, none⟩ = some (.string ⟨#[]⟩) := row_cell n3
  have y4 : w3.frozen? ⟨W.heap.size, 4, none⟩ = false := row_free n3
  have N3 := hide n3
  clear n3 ok o3
  go_wp2
  refine bodyPost_ret (v := msgV r s a d t) ?_ rfl ⟨r, s, a, d, t, rfl, unhide OK, ?_⟩
  · exact results_cell_row rfl _ _ W.heap.size 24 _ (0, 0) _ rfl (row_set (i := 4) (v := .string t) (row_set (i := 3) (v := .string d) (row_set (i := 2) (v := .int .i64 a) (row_set (i := 1) (v := .int .i64 s) (row_set (i := 0) (v := .int .i64 r) (unhide N3)))))) Tryd.underlying24 rfl (by kernel_rfl)
  · exact below_setCell (below_setCell (below_setCell (below_setCell (below_setCell ((unhide B1).trans ((unhide B3).mono (unhide B1).size)) (Nat.le_refl _)) (Nat.le_refl _)) (Nat.le_refl _)) (Nat.le_refl _)) (Nat.le_refl _)
end Go.Proofs.YtgdohkemamlnhaaDoor
