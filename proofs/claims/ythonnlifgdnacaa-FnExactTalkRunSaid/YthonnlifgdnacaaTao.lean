/- Acts that are drawn. -/
import Derived.Test.YthonnlifgdnacaaTru
import Derived.Test.YthonnlifgdnacaaSrc
namespace Go.Proofs.Ythonnlifgdnacaa
open Go.RowKit
set_option maxHeartbeats 4000000
set_option maxRecDepth 20000
set_option linter.unusedVariables false
theorem cell_in {W : World} {b i : Nat} {v : Value} (h : W.cell? ⟨b, i, none⟩ = some v) : b < W.heap.size := by
  unfold World.cell? at h
  rw [show (⟨b, i, none⟩ : Addr).block = b from rfl] at h
  rcases Nat.lt_or_ge b W.heap.size with hl | hl
  · exact hl
  · rw [Array.getElem?_eq_none hl] at h; cases h
/-- a source of choices in block p, of which at most K were drawn -/
structure Sr (p : Nat) (A : Option Addr) (n cap K : Nat) (W : World) : Prop where
  row : ∃ (k : Nat) (s : Int), k ≤ K ∧ W.heap[p]? = some (srcO A n cap (k : Int) s) ∧ 0 ≤ s ∧ s < 2147483648
  code : codeIn W p A n
theorem Sr.lt {p : Nat} {A : Option Addr} {n cap k : Nat} {W : World} (h : Sr p A n cap k W) : p < W.heap.size := by
  obtain ⟨_, s, _, h1, _⟩ := h.row
  exact (Array.getElem?_eq_some_iff.1 h1).1
theorem Sr.more {p : Nat} {A : Option Addr} {n cap k k' : Nat} {W : World} (h : Sr p A n cap k W) (hk : k ≤ k') : Sr p A n cap k' W := by
  obtain ⟨j, s, hj, h1⟩ := h.row
  exact ⟨⟨j, s, by omega, h1⟩, h.code⟩
theorem codeIn_lone {W W' : World} {p q n : Nat} {A : Option Addr} (h : codeIn W p A n) (ho : Lone q W W') (hq : ∀ b off, A = some ⟨b, off, none⟩ → 0 < n → b ≠ q) : codeIn W' p A n := fun hn => by
  obtain ⟨b, off, hA, hb, hc⟩ := h hn
  refine ⟨b, off, hA, hb, fun i hi => ?_⟩
  obtain ⟨c, c0, c1, e⟩ := hc i hi
  refine ⟨c, c0, c1, ?_⟩
  rw [← e]
  unfold World.cell?
  rw [show (⟨b, off + i, none⟩ : Addr).block = b from rfl, ho.block b (cell_in e) (hq b off hA hn)]
theorem Sr.below {p : Nat} {A : Option Addr} {n cap k : Nat} {W W' : World} (h : Sr p A n cap k W) (hb : Below W.heap.size W W') : Sr p A n cap k W' := by
  obtain ⟨j, s, hj, h1, h2, h3⟩ := h.row
  refine ⟨⟨j, s, hj, (hb.block p h.lt).trans h1, h2, h3⟩, fun hn => ?_⟩
  obtain ⟨b, off, hA, hne, hc⟩ := h.code hn
  refine ⟨b, off, hA, hne, fun i hi => ?_⟩
  obtain ⟨c, c0, c1, e⟩ := hc i hi
  exact ⟨c, c0, c1, (cell_below hb (cell_in e)).trans e⟩
/-- while blocks are written that are newer than the source and what it reads -/
theorem Sr.grown {p : Nat} {A : Option Addr} {n cap k B : Nat} {W W' : World} {row : Option Nat} (h : Sr p A n cap k W) (hg : W.grownBy W' row) (hr : ∀ j, row = some j → B ≤ j) (hp : p < B) (hA : ∀ b off, A = some ⟨b, off, none⟩ → 0 < n → b < B) : Sr p A n cap k W' := by
  obtain ⟨j, s, hj, h1, h2, h3⟩ := h.row
  refine ⟨⟨j, s, hj, (hg.block p h.lt (fun e => by have := hr p e.symm; omega)).trans h1, h2, h3⟩, fun hn => ?_⟩
  obtain ⟨b, off, hA', hne, hc⟩ := h.code hn
  refine ⟨b, off, hA', hne, fun i hi => ?_⟩
  obtain ⟨c, c0, c1, e⟩ := hc i hi
  exact ⟨c, c0, c1, (World.cell?_of_block (hg.block b (cell_in e) (fun q => by have := hr b q.symm; have := hA b off hA' hn; omega))).trans e⟩
theorem next_o (N : Int) (p : Nat) (A : Option Addr) (n cap k : Nat) (W : World) (h : Sr p A n cap k W) (hN : 1 < N) (hN2 : N ≤ 256) (hn : n ≤ maxLen) (hk : k < 1000000) :
    Calls Try.prog 71 #[.pointer (some ⟨p, 0, none⟩), .int .i64 N] W fun e w' => ∃ c : Int, e = .returned (.int .i64 c) ∧ 0 ≤ c ∧ c < N ∧ Sr p A n cap (k + 1) w' ∧ Lone p W w' ∧ w'.heap.size = W.heap.size := by
  obtain ⟨j, s, hj, h1, s0, s1⟩ := h.row
  refine (next_at N W p A n cap j s h1 hN hN2 hn (by omega) s0 s1 h.code).mono ?_
  rintro e w' ⟨c, s', d', rfl, c0, c1, t0, t1, rfl⟩
  have lo : Lone p W (srcW W d' p A n cap ((j + 1 : Nat) : Int) s') := ⟨rfl, rfl, rfl, by simp [srcW], fun k _ hk => get_src_other W d' p A n cap _ s' k hk⟩
  refine ⟨c, rfl, c0, c1, ⟨⟨j + 1, s', by omega, get_src _ _ _ _ _ _ _ _ h.lt, t0, t1⟩, fun hn => ?_⟩, lo, by simp [srcW]⟩
  obtain ⟨b, off, hA, hne, hc⟩ := h.code hn
  refine ⟨b, off, hA, hne, fun i hi => ?_⟩
  obtain ⟨c, c0, c1, e⟩ := hc i hi
  exact ⟨c, c0, c1, (World.cell?_of_block (lo.block b (cell_in e) hne)).trans e⟩
theorem ownsRow_lone {w w' : World} {q base : Nat} {e : TypeId} {size : Nat} {v : Value} {n : Nat} {xs : List Value} (h : w.ownsRow base e size v n xs) (hl : Lone q w w') (hq : q < base) : w'.ownsRow base e size v n xs := by
  refine ⟨h.1, ?_⟩
  rcases h.2 with h | ⟨g, c, cur, hv, hb, hg, h1⟩
  · exact .inl h
  · exact .inr ⟨g, c, cur, hv, hb, (hl.block g (Array.getElem?_eq_some_iff.1 hg).1 (by omega)).trans hg, h1⟩
theorem grown_lone {q : Nat} {B : Nat} {a b c : World} {row : Option Nat} (h : Lone q a b) (hg : b.grownBy c row) (hr : ∀ j, row = some j → B ≤ j) (hB : a.heap.size ≤ B) : Lone q a c :=
  ⟨hg.os.trans h.os, hg.tape.trans h.tape, hg.output.trans h.output, Nat.le_trans h.size hg.size, fun k hk hne => (hg.block k (Nat.lt_of_lt_of_le hk h.size) (fun e => by have := hr k e.symm; omega)).trans (h.block k hk hne)⟩
def sayD : Nat → ByteArray
  | 0 => ⟨#[111, 110, 101]⟩
  | 1 => ⟨#[116, 119, 111]⟩
  | 2 => ⟨#[116, 104, 114, 101, 101]⟩
  | 3 => ⟨#[]⟩
  | _ => ⟨#[103, 111, 111, 100, 32, 100, 97, 121]⟩
theorem sayD_size : ∀ i, (sayD i).size ≤ 8
  | 0 => by decide
  | 1 => by decide
  | 2 => by decide
  | 3 => by decide
  | _ + 4 => show (⟨#[103, 111, 111, 100, 32, 100, 97, 121]⟩ : ByteArray).size ≤ 8 by decide
theorem say_cells (w : World) : ∀ i, i < 5 → (w.alloc (.cells #[.string (sayD 0), .string (sayD 1), .string (sayD 2), .string (sayD 3), .string (sayD 4)] 9)).cell? ⟨w.heap.size, i, none⟩ = some (.string (sayD i)) := by
  intro i hi
  rw [Go.cell_of_row _ _ _ _ _ _ (heap_alloc_new w _)]
  obtain rfl | rfl | rfl | rfl | rfl : i = 0 ∨ i = 1 ∨ i = 2 ∨ i = 3 ∨ i = 4 := by omega
  all_goals rfl
theorem pick_o (q : Nat) (p : Nat) (A : Option Addr) (n cap k : Nat) (W : World) (h : Sr p A n cap k W) (hn : n ≤ maxLen) (hk : k < 1000000) (hq : q ≠ p) (hl : q < W.heap.size) (hc : ∀ i, i < 5 → W.cell? ⟨q, i, none⟩ = some (.string (sayD i))) :
    Calls Try.prog 85 #[.pointer (some ⟨p, 0, none⟩), .slice (some ⟨q, 0, none⟩) 5 5] W fun e w' => ∃ t : ByteArray, t.size ≤ 8 ∧ e = .returned (.string t) ∧ Sr p A n cap (k + 1) w' ∧ Lone p W w' ∧ w'.heap.size = W.heap.size := by
  have hx := hide (next_o 5 p A n cap k W h (by omega) (by omega) hn hk)
  have HC := hide hc
  have HL := hide hl
  have HQ := hide hq
  clear h hc hn hk hl hq
  go_enter Try.func85, Try.ntmps85
  go_wp2_with fail
  refine (unhide hx).mono ?_
  rintro e w1 ⟨c, rfl, c0, c1, r1, o1, z1⟩
  obtain ⟨i, rfl⟩ := Int.eq_ofNat_of_zero_le c0
  have hi : i < 5 := by omega
  have p1 : w1.cell? ⟨q, i, none⟩ = some (.string (sayD i)) := (World.cell?_of_block (o1.block q (unhide HL) (unhide HQ))).trans (unhide HC i hi)
  have R1 := hide r1
  have O1 := hide o1
  have Z1 := hide z1
  have HS := hide (sayD_size i)
  generalize sayD i = t at *
  clear r1 o1 hx hi z1
  go_wp2
  go_ret
  exact ⟨t, unhide HS, rfl, unhide R1, unhide O1, unhide Z1⟩
theorem say74 (p : Nat) (A : Option Addr) (n cap k : Nat) (W : World) (h : Sr p A n cap k W) (hn : n ≤ maxLen) (hk : k < 1000000) :
    Calls Try.prog 74 #[.pointer (some ⟨p, 0, none⟩)] W fun e w' => ∃ t : ByteArray, t.size ≤ 8 ∧ e = .returned (.string t) ∧ Sr p A n cap (k + 1) w' ∧ Lone p W w' := by
  have B1 := bl_al (o := .cells #[.string (sayD 0), .string (sayD 1), .string (sayD 2), .string (sayD 3), .string (sayD 4)] 9) (Below.refl W.heap.size W)
  have K := hide (pick_o W.heap.size p A n cap k _ (h.below B1) hn hk (by have := h.lt; omega) (by simp) (say_cells W))
  have HB := hide B1
  clear B1 h hn hk
  unfold sayD at K HB
  go_enter Try.func74, Try.ntmps74
  go_wp2_with fail
  refine (unhide K).mono ?_
  rintro e w1 ⟨t, ht, rfl, r1, o1, z1⟩
  have R1 := hide r1
  have O1 := hide ((Lone.of_below (unhide HB)).trans o1)
  have HT := hide ht
  clear r1 o1 z1 K ht
  go_wp2
  go_ret
  exact ⟨t, unhide HT, rfl, unhide R1, unhide O1⟩
theorem chance73 (N : Int) (p : Nat) (A : Option Addr) (n cap k : Nat) (W : World) (h : Sr p A n cap k W) (hN : 1 < N) (hN2 : N ≤ 256) (hn : n ≤ maxLen) (hk : k < 1000000) :
    Calls Try.prog 73 #[.pointer (some ⟨p, 0, none⟩), .int .i64 N] W fun e w' => ∃ b : Bool, e = .returned (.bool b) ∧ Sr p A n cap (k + 1) w' ∧ Lone p W w' ∧ w'.heap.size = W.heap.size := by
  have K := hide (next_o N p A n cap k W h hN hN2 hn hk)
  clear h hn hk
  go_enter Try.func73, Try.ntmps73
  go_wp2_with fail
  refine (unhide K).mono ?_
  rintro e w1 ⟨c, rfl, c0, c1, r1, o1, z1⟩
  have R1 := hide r1
  have O1 := hide o1
  have Z1 := hide z1
  clear r1 o1 z1 K c0 c1
  go_wp2
  go_ret
  exact ⟨_, rfl, unhide R1, unhide O1, unhide Z1⟩
theorem size72 (p : Nat) (A : Option Addr) (n cap k : Nat) (W : World) (h : Sr p A n cap k W) (hn : n ≤ maxLen) :
    Calls Try.prog 72 #[.pointer (some ⟨p, 0, none⟩), .int .i64 50] W fun e w' => ∃ c : Int, e = .returned (.int .i64 c) ∧ 1 ≤ c ∧ c ≤ 50 ∧ w' = W := by
  obtain ⟨j, s, hj, h1, s0, s1⟩ := h.row
  have c0 : W.cell? ⟨p, 0, none⟩ = some (.slice A n cap) := by
    rw [srcO] at h1
    rw [row_cell h1]; rfl
  unfold maxLen at hn
  have n0 : (0 : Int) ≤ (n : Int) := by omega
  have n1 : (n : Int) ≤ 9223372036854775807 := by omega
  obtain ⟨m, hm⟩ : ∃ m : Int, (n : Int) / 12 = m := ⟨_, rfl⟩
  have m0 : 0 ≤ m := by omega
  have m1 : m ≤ 768614336404564651 := by omega
  have hq : (n : Int).tdiv 12 = m := by rw [Int.tdiv_eq_ediv_of_nonneg n0]; exact hm
  clear h h1 hn hm
  by_cases hle : 1 + m ≤ 50
  · go_enter Try.func72, Try.ntmps72
    go_wp2
    go_ret
    exact ⟨_, rfl, by omega, by omega, rfl⟩
  · have hgt : 50 < 1 + m := by omega
    go_enter Try.func72, Try.ntmps72
    go_wp2
    go_ret
    exact ⟨_, rfl, by omega, by omega, rfl⟩
theorem byte_str (w : World) (x : Int) (hx : 0 ≤ x ∧ x < 256) : ∃ t : ByteArray, t.size = 1 ∧ (convert 22 9 (.slice (some ⟨w.heap.size, 0, none⟩) 1 1)).run Try.prog (w.alloc (.cells #[.int .u8 x] 5)) = .ok (.string t) (w.alloc (.cells #[.int .u8 x] 5)) := by
  have h := own_str (w := w.alloc (.cells #[.int .u8 x] 5)) (base := w.heap.size) (n := 1) (v := .slice (some ⟨w.heap.size, 0, none⟩) 1 1) (xs := [x]) ⟨rfl, .inr ⟨w.heap.size, 1, #[.int .u8 x], rfl, Nat.le_refl _, heap_at _ _ _ rfl, Nat.le_refl _, by unfold maxLen; omega, rfl, rfl⟩⟩ rfl
  exact ⟨_, rfl, h⟩
theorem digit75 (i : Nat) (hi : i < 10) (w : World) :
    Calls Try.prog 75 #[.int .i64 (i : Int)] w fun e w' => ∃ t : ByteArray, t.size = 1 ∧ e = .returned (.string t) ∧ Below w.heap.size w w' := by
  have i0 : (0 : Int) ≤ (i : Int) := by omega
  have i1 : (i : Int) < 10 := by omega
  have i2 : ((i : Int) == -9223372036854775808) = false := by rw [beq_eq_false_iff_ne]; omega
  obtain ⟨x, hx⟩ : ∃ x : Int, 48 + (i : Int) = x := ⟨_, rfl⟩
  have x0 : 0 ≤ x := by omega
  have x1 : x < 256 := by omega
  obtain ⟨t, ht, hc⟩ := byte_str w x ⟨x0, x1⟩
  have HT := hide ht
  clear hi ht
  go_enter Try.func75, Try.ntmps75
  go_wp2
  go_ret
  exact ⟨t, unhide HT, rfl, bl_al (Below.refl _ _)⟩
theorem byte_at (W : World) (g : Nat) (x : Int) (h : W.heap[g]? = some (.cells #[.int .u8 x] 5 (0, 0))) : (convert 22 9 (.slice (some ⟨g, 0, none⟩) 1 1)).run Try.prog W = .ok (.string (strOfNums [x])) W :=
  own_str (w := W) (base := 0) (n := 1) (v := .slice (some ⟨g, 0, none⟩) 1 1) (xs := [x]) ⟨rfl, .inr ⟨g, 1, #[.int .u8 x], rfl, Nat.zero_le _, h, Nat.le_refl _, by unfold maxLen; omega, rfl, rfl⟩⟩ rfl
theorem digits75 (i : Nat) (hi : i < 100) (w : World) :
    Calls Try.prog 75 #[.int .i64 (i : Int)] w fun e w' => ∃ t : ByteArray, t.size ≤ 2 ∧ e = .returned (.string t) ∧ Below w.heap.size w w' := by
  by_cases h10 : i < 10
  · refine (digit75 i h10 w).mono ?_
    rintro e w1 ⟨t, ht, rfl, b⟩
    exact ⟨t, by omega, rfl, b⟩
  have i0 : (10 : Int) ≤ (i : Int) := by omega
  have i1 : (i : Int) < 100 := by omega
  have i2 : ((i : Int) == -9223372036854775808) = false := by rw [beq_eq_false_iff_ne]; omega
  obtain ⟨d, hd⟩ : ∃ d : Nat, d = i / 10 := ⟨_, rfl⟩
  have hq : (i : Int).tdiv 10 = (d : Int) := by rw [Int.tdiv_eq_ediv_of_nonneg (by omega)]; omega
  obtain ⟨m, hm⟩ : ∃ m : Int, (i : Int).tmod 10 = m := ⟨_, rfl⟩
  have hm2 : m = (i : Int) % 10 := by rw [← hm, Int.tmod_eq_emod_of_nonneg (by omega)]
  have m0 : 0 ≤ m := by omega
  have m1 : m < 10 := by omega
  obtain ⟨x, hx⟩ : ∃ x : Int, 48 + m = x := ⟨_, rfl⟩
  have x0 : 0 ≤ x := by omega
  have x1 : x < 256 := by omega
  have wd : IntKind.i64.wrap (d : Int) = (d : Int) := by rw [IntKind.wrap_i64]; omega
  have wx : IntKind.i64.wrap x = x := by rw [IntKind.wrap_i64]; omega
  have wm : IntKind.i64.wrap m = m := by rw [IntKind.wrap_i64]; omega
  have wu : IntKind.u8.wrap x = x := by rw [IntKind.wrap_u8]; omega
  have sx : (strOfNums [x]).size = 1 := rfl
  have K := hide (fun W => digit75 d (by omega) W)
  clear hi h10 hd hm2
  go_enter Try.func75, Try.ntmps75
  go_wp2
  refine wp_region_held (S := fun W' => Below w.heap.size w W') (by kernel_rfl) ?_
  have s0 : Below w.heap.size w { w with drawn := w.drawn + 1 } := below_drewN (Below.refl _ _) 1
  refine wpAnyH_take (i := 0) (oi := { dst := some 18, op := Op.move (Operand.tmp 0), type := 3, pos := "l00_codes.go:135", after := #[], guard := none }) (v := ?_) rfl (by kernel_rfl) (by kernel_rfl) (by kernel_rfl) (fun _ _ _ h => h) (Or.inl ⟨by rfl, ?_⟩) s0 ?_
  rotate_left
  · intro W hSw
    go_simp
    try with_reducible rfl
  simp only [Act.put, List.setIfInBounds_toArray, List.set_cons_zero, List.set_cons_succ]
  refine wpAnyH_take (i := 1) (oi := { dst := some 19, op := Op.binOp BinOp.quo 3 (Operand.tmp 18) (Operand.const (Value.int IntKind.i64 10)) 3, type := 3, pos := "l00_codes.go:135", after := #[{ on := 0, ground := Ground.data }], guard := none }) (v := ?_) rfl (by kernel_rfl) (by kernel_rfl) (by kernel_rfl) (fun _ _ _ h => h) (Or.inl ⟨by rfl, ?_⟩) s0 ?_
  rotate_left
  · intro W hSw
    go_simp
    try with_reducible rfl
  simp only [Act.put, List.setIfInBounds_toArray, List.set_cons_zero, List.set_cons_succ]
  refine wpAnyH_take (i := 3) (oi := { dst := some 21, op := Op.move (Operand.tmp 0), type := 3, pos := "l00_codes.go:135", after := #[], guard := none }) (v := ?_) rfl (by kernel_rfl) (by kernel_rfl) (by kernel_rfl) (fun _ _ _ h => h) (Or.inl ⟨by rfl, ?_⟩) s0 ?_
  rotate_left
  · intro W hSw
    go_simp
    try with_reducible rfl
  simp only [Act.put, List.setIfInBounds_toArray, List.set_cons_zero, List.set_cons_succ]
  refine wpAnyH_take (i := 4) (oi := { dst := some 22, op := Op.binOp BinOp.rem 3 (Operand.tmp 21) (Operand.const (Value.int IntKind.i64 10)) 3, type := 3, pos := "l00_codes.go:135", after := #[{ on := 3, ground := Ground.data }], guard := none }) (v := ?_) rfl (by kernel_rfl) (by kernel_rfl) (by kernel_rfl) (fun _ _ _ h => h) (Or.inl ⟨by rfl, ?_⟩) s0 ?_
  rotate_left
  · intro W hSw
    go_simp
    try with_reducible rfl
  simp only [Act.put, List.setIfInBounds_toArray, List.set_cons_zero, List.set_cons_succ]
  refine wpAnyH_take (i := 5) (oi := { dst := some 23, op := Op.binOp BinOp.add 3 (Operand.const (Value.int IntKind.i64 48)) (Operand.tmp 22) 3, type := 3, pos := "l00_codes.go:135", after := #[{ on := 4, ground := Ground.data }], guard := none }) (v := ?_) rfl (by kernel_rfl) (by kernel_rfl) (by kernel_rfl) (fun _ _ _ h => h) (Or.inl ⟨by rfl, ?_⟩) s0 ?_
  rotate_left
  · intro W hSw
    go_simp
    try with_reducible rfl
  simp only [Act.put, List.setIfInBounds_toArray, List.set_cons_zero, List.set_cons_succ]
  refine wpAnyH_take (i := 6) (oi := { dst := some 24, op := Op.convert 3 5 (Operand.tmp 23), type := 5, pos := "l00_codes.go:135", after := #[{ on := 5, ground := Ground.data }], guard := none }) (v := ?_) rfl (by kernel_rfl) (by kernel_rfl) (by kernel_rfl) (fun _ _ _ h => h) (Or.inl ⟨by rfl, ?_⟩) s0 ?_
  rotate_left
  · intro W hSw
    go_simp
    try with_reducible rfl
  simp only [Act.put, List.setIfInBounds_toArray, List.set_cons_zero, List.set_cons_succ]
  refine wpAnyH_two (i := 2) (j := 7) (by kernel_rfl) ?_ ?_
  · refine wpOp_step (o := { dst := some 20, op := Op.call { callee := Callee.value (Operand.func 75), args := #[Operand.tmp 19], argTypes := #[3] }, type := 9, pos := "l00_codes.go:135", after := #[{ on := 1, ground := Ground.data }], guard := none }) rfl fun K' hK => step_enterW (by rfl) 75 #[.int .i64 (d : Int)] (by go_simp) ((unhide K _).mono ?_)
    rintro e w1 ⟨t, ht, rfl, b⟩
    have s1 := bl_st b s0

    refine ⟨_, rfl, hK _ _ ⟨s1, ?_⟩⟩
    simp only [Act.put, List.setIfInBounds_toArray, List.set_cons_zero, List.set_cons_succ]
    refine wpAnyH_one (i := 7) (by kernel_rfl) ?_
    refine wpOp_step (o := { dst := some 25, op := Op.buildSlice 22 1 #[(0, Operand.tmp 24)], type := 22, pos := "l00_codes.go:135", after := #[{ on := 6, ground := Ground.data }], guard := none }) rfl fun K' hK => step_valueW (by rfl) (.slice (some ⟨w1.heap.size, 0, none⟩) 1 1) (w1.alloc (.cells #[.int .u8 x] 5)) (by go_simp) ?_
    have s2 : Below w.heap.size w (w1.alloc (.cells #[.int .u8 x] 5)) := bl_al s1
    refine hK _ _ ⟨s2, ?_⟩
    simp only [Act.put, List.setIfInBounds_toArray, List.set_cons_zero, List.set_cons_succ]
    have cv := byte_at (w1.alloc (.cells #[.int .u8 x] 5)) w1.heap.size x (heap_alloc_new w1 _)
    refine wpAnyH_one (i := 8) (by kernel_rfl) ?_
    refine wpOp_step (o := { dst := some 26, op := Op.convert 22 9 (Operand.tmp 25), type := 9, pos := "l00_codes.go:135", after := #[{ on := 7, ground := Ground.data }], guard := none }) rfl fun K' hK => step_valueW (by rfl) (.string (strOfNums [x])) (w1.alloc (.cells #[.int .u8 x] 5)) (by go_simp) ?_
    refine hK _ _ ⟨s2, ?_⟩
    simp only [Act.put, List.setIfInBounds_toArray, List.set_cons_zero, List.set_cons_succ]
    refine wpAnyH_take (i := 9) (oi := { dst := some 27, op := Op.binOp BinOp.add 9 (Operand.tmp 20) (Operand.tmp 26) 9, type := 9, pos := "l00_codes.go:135", after := #[{ on := 2, ground := Ground.data }, { on := 8, ground := Ground.data }], guard := none }) (v := ?_) rfl (by kernel_rfl) (by kernel_rfl) (by kernel_rfl) (fun _ _ _ h => h) (Or.inl ⟨by rfl, ?_⟩) s2 ?_
    rotate_left
    · intro W hSw
      go_simp
      try with_reducible rfl
    simp only [Act.put, List.setIfInBounds_toArray, List.set_cons_zero, List.set_cons_succ]
    refine wpAnyH_take (i := 10) (oi := { dst := some 2, op := Op.assign (Operand.tmp 27), type := 9, pos := "l00_codes.go:135", after := #[{ on := 9, ground := Ground.data }, { on := 2, ground := Ground.chain }, { on := 0, ground := Ground.phase }, { on := 1, ground := Ground.phase }, { on := 2, ground := Ground.phase }, { on := 3, ground := Ground.phase }, { on := 4, ground := Ground.phase }, { on := 5, ground := Ground.phase }, { on := 6, ground := Ground.phase }, { on := 7, ground := Ground.phase }, { on := 8, ground := Ground.phase }, { on := 9, ground := Ground.phase }], guard := none }) (v := ?_) rfl (by kernel_rfl) (by kernel_rfl) (by kernel_rfl) (fun _ _ _ h => h) (Or.inl ⟨by rfl, ?_⟩) s2 ?_
    rotate_left
    · intro W hSw
      go_simp
      try with_reducible rfl
    simp only [Act.put, List.setIfInBounds_toArray, List.set_cons_zero, List.set_cons_succ]
    refine wpAnyH_done (by kernel_rfl) ?_ _
    have HB := hide s2
    have HT := hide (show (t ++ strOfNums [x]).size ≤ 2 by rw [ByteArray.size_append, ht]; exact Nat.le_refl _)
    clear s2
    go_wp2
    go_ret
    exact ⟨_, unhide HT, rfl, unhide HB⟩
  · refine wpOp_step (o := { dst := some 25, op := Op.buildSlice 22 1 #[(0, Operand.tmp 24)], type := 22, pos := "l00_codes.go:135", after := #[{ on := 6, ground := Ground.data }], guard := none }) rfl fun K' hK => step_valueW (by rfl) (.slice (some ⟨w.heap.size, 0, none⟩) 1 1) ({ w with drawn := w.drawn + 1 }.alloc (.cells #[.int .u8 x] 5)) (by go_simp) ?_
    have s2 : Below w.heap.size w ({ w with drawn := w.drawn + 1 }.alloc (.cells #[.int .u8 x] 5)) := bl_al s0
    have hB : ({ w with drawn := w.drawn + 1 }.alloc (.cells #[.int .u8 x] 5)).heap[w.heap.size]? = some (.cells #[.int .u8 x] 5 (0, 0)) := heap_alloc_new { w with drawn := w.drawn + 1 } _
    refine hK _ _ ⟨s2, ?_⟩
    simp only [Act.put, List.setIfInBounds_toArray, List.set_cons_zero, List.set_cons_succ]
    refine wpAnyH_two (i := 2) (j := 8) (by kernel_rfl) ?_ ?_
    · refine wpOp_step (o := { dst := some 20, op := Op.call { callee := Callee.value (Operand.func 75), args := #[Operand.tmp 19], argTypes := #[3] }, type := 9, pos := "l00_codes.go:135", after := #[{ on := 1, ground := Ground.data }], guard := none }) rfl fun K' hK => step_enterW (by rfl) 75 #[.int .i64 (d : Int)] (by go_simp) ((unhide K _).mono ?_)
      rintro e w1 ⟨t, ht, rfl, b⟩
      have s1 := bl_st b s2
      have cv := byte_at w1 w.heap.size x ((b.block _ (Array.getElem?_eq_some_iff.1 hB).1).trans hB)

      refine ⟨_, rfl, hK _ _ ⟨s1, ?_⟩⟩
      simp only [Act.put, List.setIfInBounds_toArray, List.set_cons_zero, List.set_cons_succ]
      refine wpAnyH_one (i := 8) (by kernel_rfl) ?_
      refine wpOp_step (o := { dst := some 26, op := Op.convert 22 9 (Operand.tmp 25), type := 9, pos := "l00_codes.go:135", after := #[{ on := 7, ground := Ground.data }], guard := none }) rfl fun K' hK => step_valueW (by rfl) (.string (strOfNums [x])) (w1) (by go_simp) ?_
      refine hK _ _ ⟨s1, ?_⟩
      simp only [Act.put, List.setIfInBounds_toArray, List.set_cons_zero, List.set_cons_succ]
      refine wpAnyH_take (i := 9) (oi := { dst := some 27, op := Op.binOp BinOp.add 9 (Operand.tmp 20) (Operand.tmp 26) 9, type := 9, pos := "l00_codes.go:135", after := #[{ on := 2, ground := Ground.data }, { on := 8, ground := Ground.data }], guard := none }) (v := ?_) rfl (by kernel_rfl) (by kernel_rfl) (by kernel_rfl) (fun _ _ _ h => h) (Or.inl ⟨by rfl, ?_⟩) s1 ?_
      rotate_left
      · intro W hSw
        go_simp
        try with_reducible rfl
      simp only [Act.put, List.setIfInBounds_toArray, List.set_cons_zero, List.set_cons_succ]
      refine wpAnyH_take (i := 10) (oi := { dst := some 2, op := Op.assign (Operand.tmp 27), type := 9, pos := "l00_codes.go:135", after := #[{ on := 9, ground := Ground.data }, { on := 2, ground := Ground.chain }, { on := 0, ground := Ground.phase }, { on := 1, ground := Ground.phase }, { on := 2, ground := Ground.phase }, { on := 3, ground := Ground.phase }, { on := 4, ground := Ground.phase }, { on := 5, ground := Ground.phase }, { on := 6, ground := Ground.phase }, { on := 7, ground := Ground.phase }, { on := 8, ground := Ground.phase }, { on := 9, ground := Ground.phase }], guard := none }) (v := ?_) rfl (by kernel_rfl) (by kernel_rfl) (by kernel_rfl) (fun _ _ _ h => h) (Or.inl ⟨by rfl, ?_⟩) s1 ?_
      rotate_left
      · intro W hSw
        go_simp
        try with_reducible rfl
      simp only [Act.put, List.setIfInBounds_toArray, List.set_cons_zero, List.set_cons_succ]
      refine wpAnyH_done (by kernel_rfl) ?_ _
      have HB := hide s1
      have HT := hide (show (t ++ strOfNums [x]).size ≤ 2 by rw [ByteArray.size_append, ht]; exact Nat.le_refl _)
      clear s1
      go_wp2
      go_ret
      exact ⟨_, unhide HT, rfl, unhide HB⟩
    · have cv := byte_at (w.alloc (.cells #[.int .u8 x] 5)).drew w.heap.size x (heap_alloc_new w _)
      refine wpOp_step (o := { dst := some 26, op := Op.convert 22 9 (Operand.tmp 25), type := 9, pos := "l00_codes.go:135", after := #[{ on := 7, ground := Ground.data }], guard := none }) rfl fun K' hK => step_valueW (by rfl) (.string (strOfNums [x])) ({ w with drawn := w.drawn + 1 }.alloc (.cells #[.int .u8 x] 5)) (by go_simp) ?_
      refine hK _ _ ⟨s2, ?_⟩
      simp only [Act.put, List.setIfInBounds_toArray, List.set_cons_zero, List.set_cons_succ]
      refine wpAnyH_one (i := 2) (by kernel_rfl) ?_
      refine wpOp_step (o := { dst := some 20, op := Op.call { callee := Callee.value (Operand.func 75), args := #[Operand.tmp 19], argTypes := #[3] }, type := 9, pos := "l00_codes.go:135", after := #[{ on := 1, ground := Ground.data }], guard := none }) rfl fun K' hK => step_enterW (by rfl) 75 #[.int .i64 (d : Int)] (by go_simp) ((unhide K _).mono ?_)
      rintro e w1 ⟨t, ht, rfl, b⟩
      have s1 := bl_st b s2

      refine ⟨_, rfl, hK _ _ ⟨s1, ?_⟩⟩
      simp only [Act.put, List.setIfInBounds_toArray, List.set_cons_zero, List.set_cons_succ]
      refine wpAnyH_take (i := 9) (oi := { dst := some 27, op := Op.binOp BinOp.add 9 (Operand.tmp 20) (Operand.tmp 26) 9, type := 9, pos := "l00_codes.go:135", after := #[{ on := 2, ground := Ground.data }, { on := 8, ground := Ground.data }], guard := none }) (v := ?_) rfl (by kernel_rfl) (by kernel_rfl) (by kernel_rfl) (fun _ _ _ h => h) (Or.inl ⟨by rfl, ?_⟩) s1 ?_
      rotate_left
      · intro W hSw
        go_simp
        try with_reducible rfl
      simp only [Act.put, List.setIfInBounds_toArray, List.set_cons_zero, List.set_cons_succ]
      refine wpAnyH_take (i := 10) (oi := { dst := some 2, op := Op.assign (Operand.tmp 27), type := 9, pos := "l00_codes.go:135", after := #[{ on := 9, ground := Ground.data }, { on := 2, ground := Ground.chain }, { on := 0, ground := Ground.phase }, { on := 1, ground := Ground.phase }, { on := 2, ground := Ground.phase }, { on := 3, ground := Ground.phase }, { on := 4, ground := Ground.phase }, { on := 5, ground := Ground.phase }, { on := 6, ground := Ground.phase }, { on := 7, ground := Ground.phase }, { on := 8, ground := Ground.phase }, { on := 9, ground := Ground.phase }], guard := none }) (v := ?_) rfl (by kernel_rfl) (by kernel_rfl) (by kernel_rfl) (fun _ _ _ h => h) (Or.inl ⟨by rfl, ?_⟩) s1 ?_
      rotate_left
      · intro W hSw
        go_simp
        try with_reducible rfl
      simp only [Act.put, List.setIfInBounds_toArray, List.set_cons_zero, List.set_cons_succ]
      refine wpAnyH_done (by kernel_rfl) ?_ _
      have HB := hide s1
      have HT := hide (show (t ++ strOfNums [x]).size ≤ 2 by rw [ByteArray.size_append, ht]; exact Nat.le_refl _)
      clear s1
      go_wp2
      go_ret
      exact ⟨_, unhide HT, rfl, unhide HB⟩
end Go.Proofs.Ythonnlifgdnacaa
