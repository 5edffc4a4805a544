/- Texts appended and cut, and where they lie. -/
import Derived.Test.YtbkcgkffafjbgaaGreatDoorSyb
/- A frame that is right; a text that is awaited: both sides. -/
namespace Go.Proofs.YtbkcgkffafjbgaaGreatDoor
open Go.RowKit
set_option maxHeartbeats 4000000
set_option maxRecDepth 20000
def frB (f : Fr) : Bool := sqB f.s && sqB f.a && is40 f.b && (f.h || decide (f.b.size = 0))
def awB (p : Pe) (f : Fr) : Bool := f.h && decide (f.s = p.e) && decide (p.i.length < 100) && decide (p.e < 65535)
theorem takeF_t {p : Pe} {f : Fr} (h : awB p f = true) : takeF p f = ⟨p.q, p.s, p.e + 1, p.i ++ [f.b]⟩ := by
  unfold awB at h
  simp only [Bool.and_eq_true, decide_eq_true_eq] at h
  obtain ⟨⟨⟨h1, h2⟩, h3⟩, h4⟩ := h
  exact if_pos ⟨h1, h2, h3, h4⟩
theorem takeF_f {p : Pe} {f : Fr} (h : awB p f = false) : takeF p f = p := by
  refine if_neg fun ⟨h1, h2, h3, h4⟩ => ?_
  unfold awB at h
  simp [h1, h2, h3, h4] at h
theorem txt_nil (b : ByteArray) : b.toList = [] ↔ b.size = 0 := by
  rw [ByteArray.toList_eq]
  constructor
  · intro h
    show b.data.size = 0
    rw [← Array.length_toList, h]; rfl
  · intro h
    have h2 : b.data.size = 0 := h
    rw [← Array.length_toList] at h2
    exact List.length_eq_zero_iff.1 h2
theorem right52 (f : Fr) (w : World) (hf : f.b.size ≤ maxLen) :
    Calls Tryz.prog 112 #[frV f] w fun e w' => e = .returned (.bool (frB f)) ∧ Below w.heap.size w w' := by
  obtain ⟨s, a, h, b⟩ := f
  show Calls Tryz.prog 112 #[frA s a h b] w fun e w' => e = .returned (.bool (sqB s && sqB a && is40 b && (h || decide (b.size = 0)))) ∧ Below w.heap.size w w'
  dsimp only at hf
  have K1 := hide (fun n => seq51 n (w.alloc (.cells #[.int .i64 s, .int .i64 a, .bool h, .string b] 75)))
  have K3 := hide (no59 b (w.alloc (.cells #[.int .i64 s, .int .i64 a, .bool h, .string b] 75)))
  have HB := hide (show Below w.heap.size w (w.alloc (.cells #[.int .i64 s, .int .i64 a, .bool h, .string b] 75)) from bl_al (Below.refl _ _))
  obtain ⟨_, c0, c1, c2, c3⟩ := fc_new w s a h b 75
  have K1a := hide (unhide K1 s)
  have K1b := hide (unhide K1 a)
  clear K1 hf
  generalize sqB s = b1 at *
  generalize sqB a = b2 at *
  generalize is40 b = b3 at *
  go_enter Tryz.func112, Tryz.ntmps112
  go_wp2_with fail
  generalize w.alloc (.cells #[.int .i64 s, .int .i64 a, .bool h, .string b] 75) = w1 at *
  refine (unhide K1a).mono ?_
  rintro e1 w2 ⟨rfl, hw⟩
  have hw2 := hw.symm
  subst hw2
  clear K1a hw
  cases b1
  · clear K1b K3
    go_wp2
    go_ret
    exact ⟨ret_bool (by simp), unhide HB⟩
  · go_wp2_with fail
    refine (unhide K1b).mono ?_
    rintro e1 w2 ⟨rfl, hw⟩
    have hw2 := hw.symm
    subst hw2
    clear K1b hw
    cases b2
    · clear K3
      go_wp2
      go_ret
      exact ⟨ret_bool (by simp), unhide HB⟩
    · go_wp2_with fail
      refine (unhide K3).mono ?_
      rintro e1 w2 ⟨rfl, hw⟩
      have hw2 := hw.symm
      subst hw2
      clear K3 hw
      cases b3
      · go_wp2
        go_ret
        exact ⟨ret_bool (by simp), unhide HB⟩
      · cases h
        · by_cases hz : b.size = 0
          · go_wp2
            go_ret
            exact ⟨ret_bool (by simp [hz, txt_nil]), unhide HB⟩
          · go_wp2
            go_ret
            exact ⟨ret_bool (by simp [hz, txt_nil]), unhide HB⟩
        · go_wp2
          go_ret
          exact ⟨ret_bool (by simp), unhide HB⟩
theorem awaits54 (v : Value) (p : Pe) (f : Fr) (w : World) (hv : peV w v p) (hf : peFew p) :
    Calls Tryz.prog 113 #[v, frV f] w fun e w' => e = .returned (.bool (awB p f)) ∧ Below w.heap.size w w' := by
  obtain ⟨q, i, rfl, hq, hi⟩ := hv
  obtain ⟨f1, f2⟩ := hf
  obtain ⟨xq, s, e, xi⟩ := p
  obtain ⟨fs, fa, fh, fb⟩ := f
  dsimp only at *
  obtain ⟨A, ca, rfl⟩ := hq.slice
  obtain ⟨A2, cb, rfl⟩ := hi.slice
  show Calls Tryz.prog 113 #[peA (.slice A xq.length ca) s e (.slice A2 xi.length cb), frA fs fa fh fb] w fun e1 w' => e1 = .returned (.bool (fh && decide (fs = e) && decide (xi.length < 100) && decide (e < 65535))) ∧ Below w.heap.size w w'
  clear hq hi f1
  generalize xq.length = n
  have n0 : (0 : Int) ≤ (xi.length : Int) := by omega
  have n1 : (xi.length : Int) ≤ 1048576 := by omega
  generalize xi.length = m at *
  have HB := hide (show Below w.heap.size w ((w.alloc (.cells #[.slice A n ca, .int .i64 s, .int .i64 e, .slice A2 m cb] 53)).alloc (.cells #[.int .i64 fs, .int .i64 fa, .bool fh, .string fb] 75)) from bl_al (bl_al (Below.refl _ _)))
  cases fh
  · go_enter Tryz.func113, Tryz.ntmps113
    go_wp2
    go_ret
    exact ⟨ret_bool (by simp), unhide HB⟩
  by_cases h1 : fs = e
  · subst h1
    by_cases h2 : m < 100
    · have h3 : (m : Int) < 100 := by omega
      clear f2
      by_cases h4 : fs < 65535
      · go_enter Tryz.func113, Tryz.ntmps113
        go_wp2
        go_ret
        exact ⟨ret_bool (by simp [h2, h4]), unhide HB⟩
      · have h5 : 65535 ≤ fs := by omega
        go_enter Tryz.func113, Tryz.ntmps113
        go_wp2
        go_ret
        exact ⟨ret_bool (by simp [h4]), unhide HB⟩
    · have h3 : (100 : Int) ≤ (m : Int) := by omega
      clear f2
      go_enter Tryz.func113, Tryz.ntmps113
      go_wp2
      go_ret
      exact ⟨ret_bool (by simp), unhide HB⟩
  · have h1' : (fs == e) = false := by simpa using h1
    go_enter Tryz.func113, Tryz.ntmps113
    go_wp2
    go_ret
    exact ⟨ret_bool (by simp [h1]), unhide HB⟩
end Go.Proofs.YtbkcgkffafjbgaaGreatDoor
/- Texts appended and cut, and where they lie. -/
namespace Go.Proofs.YtbkcgkffafjbgaaGreatDoor
open Go.RowKit
set_option maxHeartbeats 4000000
set_option maxRecDepth 20000
theorem run_app (W : World) (ty base n g0 c0 : Nat) (ps : List ByteArray) (hown : W.ownsRow base 9 1 (.slice (some ⟨g0, 0, none⟩) n c0) n (ps.map Value.string)) (u : Value) (qs : List ByteArray) (hu : strsV W u qs) (hm : n + qs.length ≤ 4194304) (hb : base ≤ W.heap.size) :
    ∃ (g c : Nat) (w' : World), (Builtin.append_ #[23, 23] ty #[.slice (some ⟨g0, 0, none⟩) n c0, u]).run Tryz.prog W = .ok (.slice (some ⟨g, 0, none⟩) (n + qs.length) c) w' ∧ Pushed base W w' g0 g c (n + qs.length) (ps ++ qs) := by
  obtain ⟨g, c, w', hr, h2, h4, h5⟩ := run_append_strsL W ty base n (.slice (some ⟨g0, 0, none⟩) n c0) ps hown ⟨_, _, rfl⟩ u qs hu hm hb
  have hl := h2.lt g rfl
  have hg0 := hown.lt g0 rfl
  refine ⟨g, c, w', hr, ⟨fun B X hX hB hB' => ?_, fun k hk hne => ?_, h4.size, h2, ?_, hl.2⟩⟩
  · exact Below.grown hX h4 hB' (fun k e => by cases e; show B ≤ g0; omega)
  · exact h4.block k hk (fun e => hne (by cases e; rfl))
  · rcases h5 with e | e
    · left; cases e; rfl
    · right; rw [e]; exact Nat.le_refl _
theorem Pushed.strs {base : Nat} {W w' : World} {g0 g c n : Nat} {qs : List ByteArray} (h : Pushed base W w' g0 g c n qs) {y : Value} {ys : List ByteArray} (hy : strsV W y ys) (hne : ∀ k, y.ownBlock = some k → k ≠ g0) : strsV w' y ys := by
  obtain ⟨A, cap, rfl, hc⟩ := hy
  refine ⟨A, cap, rfl, fun hn => ?_⟩
  obtain ⟨b, off, rfl, hl, hc⟩ := hc hn
  refine ⟨b, off, rfl, Nat.lt_of_lt_of_le hl h.size, fun i hi => ?_⟩
  rw [World.cell?_of_block (w := W) (h.kept b hl (hne b rfl))]
  exact hc i hi
theorem capQ.other {q i i' : Value} {s e s' e' : Int} {xq xi xi' : List ByteArray} (h : capQ (peA q s e i) ⟨xq, s, e, xi⟩) : capQ (peA q s' e' i') ⟨xq, s', e', xi'⟩ := by
  obtain ⟨A, c, i0, e0, h0⟩ := h
  have e1 : q = .slice A xq.length c := (List.cons.inj (Array.mk.inj (Value.agg.inj e0))).1
  subst e1
  exact ⟨A, c, i', rfl, h0⟩
/-- what reads as these texts does so behind a store into one of these blocks -/
def apB (lo hi : Nat) (v : Value) (xs : List ByteArray) : Prop :=
  ∀ (W : World) (b : Nat), lo ≤ b → b ≤ hi → strsV W v xs → (∀ cs, strsV (W.setRow b cs) v xs) ∧ ∀ k u, strsV (W.setCell ⟨b, k, none⟩ u) v xs
theorem apB_far {lo hi : Nat} {v : Value} {xs : List ByteArray} (h : ∀ g, v.ownBlock = some g → hi < g) : apB lo hi v xs :=
  fun W b _ hb hv => ⟨fun cs => strs_row hv fun g e => by have := h g e; omega, fun k u => strs_set hv fun g e => by have := h g e; omega⟩
theorem apB_nil {lo hi : Nat} (A : Option Addr) (c : Nat) : apB lo hi (.slice A 0 c) [] :=
  fun W b _ _ _ => ⟨fun _ => ⟨A, c, rfl, fun h => by simp at h⟩, fun _ _ => ⟨A, c, rfl, fun h => by simp at h⟩⟩
theorem apB_old {X : World} {hi : Nat} {v : Value} {xs : List ByteArray} (h0 : strsV X v xs) : apB X.heap.size hi v xs := by
  obtain ⟨A, c, rfl, hc⟩ := h0
  rcases Nat.eq_zero_or_pos xs.length with e | e
  · obtain rfl := List.length_eq_zero_iff.1 e
    exact apB_nil A c
  · obtain ⟨g, off, rfl, hl, _⟩ := hc e
    exact fun W b hb _ hv => ⟨fun cs => strs_row hv fun k hk => by have : k = g := (Option.some.inj hk).symm; omega, fun j u => strs_set hv fun k hk => by have : k = g := (Option.some.inj hk).symm; omega⟩
theorem tail_strs {W : World} {b off off' c c' : Nat} {t : ByteArray} {ts : List ByteArray} (ho : off' = off ∧ (t :: ts).length = 1 ∨ off' = off + 1) (h : strsV W (.slice (some ⟨b, off, none⟩) (t :: ts).length c) (t :: ts)) : strsV W (.slice (some ⟨b, off', none⟩) ts.length c') ts := by
  obtain ⟨A', c0, e0, hc⟩ := h
  obtain ⟨b', o', hA, hl, hc⟩ := hc (by simp)
  have e1 : (⟨b, off, none⟩ : Addr) = ⟨b', o', none⟩ := Option.some.inj ((Value.slice.inj e0).1.trans hA)
  have e2 : b = b' := congrArg Addr.block e1
  have e3 : off = o' := congrArg Addr.off e1
  subst e2 e3
  refine ⟨_, _, rfl, fun h0 => ⟨b, off', rfl, hl, fun j hj => ?_⟩⟩
  rcases ho with ⟨_, h⟩ | h
  · have : ts.length + 1 = 1 := h
    omega
  · have := hc (j + 1) (by simp; omega)
    rw [h, show off + 1 + j = off + (j + 1) by omega, this]
    simp
/-- what reads as these texts does so where all blocks that were there are as they were -/
theorem strs_old {X W : World} {v : Value} {xs : List ByteArray} (h : strsV X v xs) (hk : ∀ k, k < X.heap.size → W.heap[k]? = X.heap[k]?) (hs : X.heap.size ≤ W.heap.size) : strsV W v xs := by
  obtain ⟨A, cap, rfl, hc⟩ := h
  refine ⟨A, cap, rfl, fun hn => ?_⟩
  obtain ⟨b, off, rfl, hl, hc⟩ := hc hn
  refine ⟨b, off, rfl, Nat.lt_of_lt_of_le hl hs, fun i hi => ?_⟩
  rw [World.cell?_of_block (w := X) (hk b hl)]
  exact hc i hi
/-- x[1:] of texts -/
theorem cut_one (b off n cap : Nat) (hn : 1 ≤ n) (hcap : n ≤ cap) (hbig : n ≤ 2097152) :
    ∃ o', (o' = off ∧ n = 1 ∨ o' = off + 1) ∧ ∀ X : World, (Instr.slice 23 (.slice (some ⟨b, off, none⟩) n cap) (some (.int .i64 1)) none none).run Tryz.prog X = .ok (.slice (some ⟨b, o', none⟩) (n - 1) (cap - 1)) X := by
  obtain ⟨m, rfl⟩ : ∃ m, n = m + 1 := ⟨n - 1, by omega⟩
  obtain ⟨d, rfl⟩ : ∃ d, cap = d + 1 := ⟨cap - 1, by omega⟩
  have k1 : (1 : Int) ≤ ((m + 1 : Nat) : Int) := by omega
  by_cases hc : d = 0
  · subst hc
    obtain rfl : m = 0 := by omega
    refine ⟨off, .inl ⟨rfl, rfl⟩, fun X => ?_⟩
    go_simp
  · refine ⟨off + 1, .inr rfl, fun X => ?_⟩
    have hd : ¬ (d + 1 = 1) := by omega
    go_simp
    intro h
    omega
end Go.Proofs.YtbkcgkffafjbgaaGreatDoor
