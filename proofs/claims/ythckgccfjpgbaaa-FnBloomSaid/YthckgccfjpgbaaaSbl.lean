/- A source under way, and a number drawn of it, of any size. -/
import Derived.Test.YthckgccfjpgbaaaMfb
namespace Go.Proofs.Ythckgccfjpgbaaa
open Go.RowKit
set_option maxHeartbeats 4000000
set_option maxRecDepth 20000
theorem next_big (N : Int) (w : World) (p : Nat) (A : Option Addr) (n cap k : Nat) (s : Int) (hs : w.heap[p]? = some (srcO A n cap k s)) (hN : 256 < N) (hN2 : N ≤ 65536) (hn : n ≤ maxLen) (hk : k + 3 < 4611686018427387904) (s0 : 0 ≤ s) (s1 : s < 2147483648) (hc : codeIn w p A n) :
    Calls Try.prog 75 #[.pointer (some ⟨p, 0, none⟩), .int .i64 N] w fun e w' => ∃ (c s' : Int) (d' : Nat), e = .returned (.int .i64 c) ∧ 0 ≤ c ∧ c < N ∧ 0 ≤ s' ∧ s' < 2147483648 ∧ w' = srcW w d' p A n cap ((k + 3 : Nat) : Int) s' := by
  have hp := (Array.getElem?_eq_some_iff.1 hs).1
  have K : Hid (∀ (d j : Nat) (t : Int), j ≤ k + 2 → 0 ≤ t → t < 2147483648 → Calls Try.prog 81 #[.pointer (some ⟨p, 0, none⟩)] (srcW w d p A n cap j t) fun e w' => ∃ (c s' : Int) (d' : Nat), e = .returned (.int .i64 c) ∧ 0 ≤ c ∧ c < 256 ∧ 0 ≤ s' ∧ s' < 2147483648 ∧ w' = srcW w d' p A n cap ((j + 1 : Nat) : Int) s') :=
    hide fun d j t hj t0 t1 => byte_any w d p A n cap j t hp hn (by omega) t0 t1 hc
  rw [← src_same _ _ _ _ _ _ _ hs]
  simp only [src_src]
  generalize w.drawn = d0
  clear hs hn hk hc
  go_enter Try.func75, Try.ntmps75
  go_wp2_with fail
  refine (unhide K _ k s (by omega) s0 s1).mono ?_
  rintro e w1 ⟨c1, s2, d1, rfl, c10, c11, s20, s21, rfl⟩
  go_wp2_with fail
  refine (unhide K d1 (k + 1) s2 (by omega) s20 s21).mono ?_
  rintro e w1 ⟨c2, s3, d2, rfl, c20, c21, s30, s31, rfl⟩
  go_wp2_with fail
  refine (unhide K d2 (k + 1 + 1) s3 (by omega) s30 s31).mono ?_
  rintro e w1 ⟨c3, s4, d3, rfl, c30, c31, s40, s41, rfl⟩
  clear K
  go_wp2
  go_ret
  have h0 : 0 ≤ c1 * 65536 + c2 * 256 + c3 := by omega
  exact ⟨(c1 * 65536 + c2 * 256 + c3) % N, s4, d3, rfl, Int.emod_nonneg _ (by omega), Int.emod_lt_of_pos _ (by omega), s40, s41, rfl⟩
/-- a source under way: block p, drawn no further than L -/
structure SrcAt (w0 : World) (p : Nat) (A : Option Addr) (n cap L : Nat) (W : World) : Prop where
  pp : p < w0.heap.size
  o : ∃ (k : Nat) (s : Int), k ≤ L ∧ 0 ≤ s ∧ s < 2147483648 ∧ W.heap[p]? = some (srcO A n cap k s)
  l : Lone p w0 W
theorem SrcAt.more {w0 W : World} {p n cap L L' : Nat} {A : Option Addr} (h : SrcAt w0 p A n cap L W) (hl : L ≤ L') : SrcAt w0 p A n cap L' W := by
  obtain ⟨k, s, h1, h2⟩ := h.o
  exact ⟨h.pp, ⟨k, s, by omega, h2⟩, h.l⟩
theorem SrcAt.lone {w0 W W' : World} {p n cap L q : Nat} {A : Option Addr} (h : SrcAt w0 p A n cap L W) (hl : Lone q W W') (hq : w0.heap.size ≤ q) : SrcAt w0 p A n cap L W' := by
  obtain ⟨k, s, h1, h2, h3, h4⟩ := h.o
  have hp := h.pp
  refine ⟨h.pp, ⟨k, s, h1, h2, h3, (hl.block p (Array.getElem?_eq_some_iff.1 h4).1 (by omega)).trans h4⟩, ?_⟩
  exact ⟨hl.os.trans h.l.os, hl.tape.trans h.l.tape, hl.output.trans h.l.output, Nat.le_trans h.l.size hl.size, fun k hk hne => (hl.block k (Nat.lt_of_lt_of_le hk h.l.size) (by omega)).trans (h.l.block k hk hne)⟩
theorem SrcAt.below {w0 W W' : World} {p n cap L : Nat} {A : Option Addr} (h : SrcAt w0 p A n cap L W) (hb : Below W.heap.size W W') : SrcAt w0 p A n cap L W' := h.lone (q := w0.heap.size) (Lone.of_below hb) (Nat.le_refl _)
theorem SrcAt.grown {w0 W W' : World} {p n cap L q : Nat} {A : Option Addr} (h : SrcAt w0 p A n cap L W) (hb : W.grownBy W' (some q)) (hq : w0.heap.size ≤ q) : SrcAt w0 p A n cap L W' := h.lone (q := q) ⟨hb.os, hb.tape, hb.output, hb.size, fun k hk hne => hb.block k hk (by simp; exact hne)⟩ hq
theorem lone_src (W : World) (d p : Nat) (A : Option Addr) (n cap : Nat) (a s : Int) : Lone p W (srcW W d p A n cap a s) := ⟨rfl, rfl, rfl, Nat.le_of_eq (size_src _ _ _ _ _ _ _ _).symm, fun _ _ hne => get_src_other _ _ _ _ _ _ _ _ _ hne⟩
theorem next_all (N : Int) (w0 : World) (p : Nat) (A : Option Addr) (n cap L : Nat) (W : World) (h : SrcAt w0 p A n cap L W) (hN : 1 < N) (hN2 : N ≤ 65536) (hn : n ≤ maxLen) (hL : L ≤ 1000) (hc : codeIn w0 p A n) :
    Calls Try.prog 75 #[.pointer (some ⟨p, 0, none⟩), .int .i64 N] W fun e w' => ∃ c : Nat, e = .returned (.int .i64 (c : Int)) ∧ (c : Int) < N ∧ SrcAt w0 p A n cap (L + 3) w' ∧ Lone p W w' ∧ w'.heap.size = W.heap.size := by
  obtain ⟨k, s, h1, h2, h3, h4⟩ := h.o
  have hc' : codeIn W p A n := codeIn_grown hc ⟨h.l.os, h.l.tape, h.l.output, h.l.size, fun k hk hne => h.l.block k hk (by simpa using hne)⟩
  have fin : ∀ (c s' : Int) (d' k' : Nat) (e : Ending) (w' : World), k' ≤ L + 3 → e = .returned (.int .i64 c) → 0 ≤ c → c < N → 0 ≤ s' → s' < 2147483648 → w' = srcW W d' p A n cap (k' : Int) s' → ∃ c : Nat, e = .returned (.int .i64 (c : Int)) ∧ (c : Int) < N ∧ SrcAt w0 p A n cap (L + 3) w' ∧ Lone p W w' ∧ w'.heap.size = W.heap.size := by
    rintro c s' d' k' e w' hk' rfl c0 c1 s0 s1 rfl
    refine ⟨c.toNat, by rw [Int.toNat_of_nonneg c0], by omega, ⟨h.pp, ⟨k', s', hk', s0, s1, get_src _ _ _ _ _ _ _ _ (Array.getElem?_eq_some_iff.1 h4).1⟩, h.l.trans (lone_src _ _ _ _ _ _ _ _)⟩, lone_src _ _ _ _ _ _ _ _, size_src _ _ _ _ _ _ _ _⟩
  rcases Int.lt_or_le 256 N with h5 | h5
  · refine (next_big N W p A n cap k s h4 h5 hN2 hn (by omega) h2 h3 hc').mono ?_
    rintro e w' ⟨c, s', d', e1, e2, e3, e4, e5, e6⟩
    exact fin c s' d' (k + 3) e w' (by omega) e1 e2 e3 e4 e5 e6
  · refine (next_at N W p A n cap k s h4 hN h5 hn (by omega) h2 h3 hc').mono ?_
    rintro e w' ⟨c, s', d', e1, e2, e3, e4, e5, e6⟩
    exact fin c s' d' (k + 1) e w' (by omega) e1 e2 e3 e4 e5 e6
theorem ownsRow_lone {w w' : World} {q base : Nat} {e : TypeId} {size : Nat} {v : Value} {n : Nat} {xs : List Value} (h : w.ownsRow base e size v n xs) (hl : Lone q w w') (hq : q < base) : w'.ownsRow base e size v n xs := by
  refine ⟨h.1, ?_⟩
  rcases h.2 with h | ⟨g, c, cur, hv, hb, hg, h1⟩
  · exact .inl h
  · exact .inr ⟨g, c, cur, hv, hb, (hl.block g (Array.getElem?_eq_some_iff.1 hg).1 (by omega)).trans hg, h1⟩
theorem own_base {w : World} {base e sz g n c k : Nat} {xs : List Value} (h : w.ownsRow base e sz (.slice (some ⟨g, 0, none⟩) n c) k xs) : base ≤ g := by
  rcases h.2 with ⟨e, _⟩ | ⟨g', c', cur, e, h1, _⟩
  · simp at e
  · simp only [Value.slice.injEq, Option.some.injEq, Addr.mk.injEq] at e
    omega
theorem one_salt (w : World) (x y : Int) : saltsV (w.alloc (.cells #[.int .i64 x, .int .i64 y] 67)) (.slice (some ⟨w.heap.size, 0, none⟩) 1 1) [(x, y)] := by
  refine ⟨_, _, rfl, fun _ => ⟨_, _, rfl, by simp, fun i hi => ?_⟩⟩
  obtain rfl : i = 0 := by simpa using hi
  have h := heap_alloc_new w (.cells #[.int .i64 x, .int .i64 y] 67)
  exact ⟨row_cell h, row_cell h⟩
/-- a prime that a drawn filter may have -/
structure Pb (P : Nat) : Prop where
  pr : primeB P = true
  lo : 11 ≤ P
  hi : P ≤ 509
  ne : P ≠ 64
theorem lit5_cell {w : World} {g v : Nat} (h : w.heap[g]? = some (.cells #[.int .i64 11, .int .i64 31, .int .i64 61, .int .i64 101, .int .i64 509] 3 (0, 0))) (hv : v < 5) : ∃ P : Nat, w.cell? ⟨g, v, none⟩ = some (.int .i64 (P : Int)) ∧ Pb P := by
  have h' : w.heap[g]? = some (rowObj 3 .i64 [11, 31, 61, 101, 509] []) := h
  have hc := cell_rowO h' v (by simpa using hv)
  have : v = 0 ∨ v = 1 ∨ v = 2 ∨ v = 3 ∨ v = 4 := by omega
  rcases this with rfl | rfl | rfl | rfl | rfl
  · exact ⟨11, hc, by decide, by omega, by omega, by omega⟩
  · exact ⟨31, hc, by decide, by omega, by omega, by omega⟩
  · exact ⟨61, hc, by decide, by omega, by omega, by omega⟩
  · exact ⟨101, hc, by decide, by omega, by omega, by omega⟩
  · exact ⟨509, hc, by decide, by omega, by omega, by omega⟩
theorem shape_ok {P M : Nat} (hp : Pb P) (h1 : 1 ≤ M) (h2 : M ≤ P) (h3 : M ≤ 64) : shapeB P M = true := by
  unfold shapeB
  rw [hp.pr]
  simp
  omega
theorem new_draw {P M : Nat} {ss : List Slt} (hp : Pb P) (h1 : 1 ≤ M) (h2 : M ≤ P) (h3 : M ≤ 64) (hl1 : 1 ≤ ss.length) (hl : ss.length ≤ 4) (ha : ss.all (saltOK P) = true) : ∃ x : Blm, newR P M ss = (x, 0) ∧ okX x = true ∧ x.p = P ∧ x.w = M := by
  have hb : saltsB P ss = true := by unfold saltsB; rw [ha, decide_eq_true hl1, decide_eq_true hl]; rfl
  have hs := shape_ok hp h1 h2 h3
  refine ⟨⟨P, M, ss, List.replicate (ss.length * (M : Int).toNat) false⟩, newR_ok (by omega) hs hb, ?_, rfl, rfl⟩
  rw [okX_is hs hb, decide_eq_true_eq]
  simp only [List.length_replicate, Int.toNat_natCast, Int.natCast_mul]
  exact Int.mul_comm _ _
theorem all_snoc {p : Int} {ss : List Slt} {x : Slt} (h : ss.all (saltOK p) = true) (hx : saltOK p x = true) : (ss ++ [x]).all (saltOK p) = true := by simp [List.all_append, h, hx]
end Go.Proofs.Ythckgccfjpgbaaa
