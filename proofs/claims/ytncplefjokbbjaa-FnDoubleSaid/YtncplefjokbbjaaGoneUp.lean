/- The contract of going up in limbs. -/
import Derived.Test.YtncplefjokbbjaaCurveB
import Derived.Test.YtncplefjokbbjaaSumSpec
import Derived.Test.YtncplefjokbbjaaCurveD
import Derived.Test.YtncplefjokbbjaaRowTwo
import Derived.Test.YtncplefjokbbjaaLad
namespace Go.Proofs.Ytncplefjokbbjaa
open Go.RowKit
set_option maxHeartbeats 40000000
set_option maxRecDepth 20000
set_option linter.unusedSimpArgs false
theorem swapped_sel (t : Bool) (bv : Int) (hbv : bv = if t then 1 else 0) (a0 a1 a2 a3 a4 b0 b1 b2 b3 b4 : Int) (w : World) (ha : Car a0 a1 a2 a3 a4) (hb : Car b0 b1 b2 b3 b4) :
    Calls Try.prog 48 #[.int .u64 bv, L5 a0 a1 a2 a3 a4, L5 b0 b1 b2 b3 b4] w fun e w' => (∃ c0 c1 c2 c3 c4 d0 d1 d2 d3 d4 : Int, e = .returned (.tuple #[L5 c0 c1 c2 c3 c4, L5 d0 d1 d2 d3 d4]) ∧ Car c0 c1 c2 c3 c4 ∧ Car d0 d1 d2 d3 d4 ∧ V5 c0 c1 c2 c3 c4 = (if t then V5 b0 b1 b2 b3 b4 else V5 a0 a1 a2 a3 a4) ∧ V5 d0 d1 d2 d3 d4 = (if t then V5 a0 a1 a2 a3 a4 else V5 b0 b1 b2 b3 b4)) ∧ Below w.heap.size w w' := by
  subst hbv
  cases t with
  | true => exact (swapped_yes a0 a1 a2 a3 a4 b0 b1 b2 b3 b4 w ha hb).mono fun _ _ ⟨h1, h2⟩ => ⟨⟨_, _, _, _, _, _, _, _, _, _, h1, hb, ha, rfl, rfl⟩, h2⟩
  | false => exact (swapped_no a0 a1 a2 a3 a4 b0 b1 b2 b3 b4 w ha hb).mono fun _ _ ⟨h1, h2⟩ => ⟨⟨_, _, _, _, _, _, _, _, _, _, h1, ha, hb, rfl, rfl⟩, h2⟩
/-- what holds of the world ahead of a round -/
def UpRel (w : World) (g2 h2 g3 h3 : Nat) (u0 u1 u2 u3 u4 : Int) (K : Nat) (c : Value) (wr : World) : Prop :=
  ∃ x0 x1 x2 x3 x4 z0 z1 z2 z3 z4 p0 p1 p2 p3 p4 q0 q1 q2 q3 q4 : Int, A5 wr g2 x0 x1 x2 x3 x4 ∧ A5 wr h2 z0 z1 z2 z3 z4 ∧ A5 wr g3 p0 p1 p2 p3 p4 ∧ A5 wr h3 q0 q1 q2 q3 q4 ∧ A5 wr w.heap.size u0 u1 u2 u3 u4 ∧ A5 wr (w.heap.size + 1) 0 0 0 0 0 ∧ Below w.heap.size w wr ∧ Car x0 x1 x2 x3 x4 ∧ Car z0 z1 z2 z3 z4 ∧ Car p0 p1 p2 p3 p4 ∧ Car q0 q1 q2 q3 q4 ∧
    ((∃ i : Nat, i < 255 ∧ c = .int .i64 i ∧ V5 x0 x1 x2 x3 x4 % pInt = (ladAt (V5 u0 u1 u2 u3 u4) K i).1 % pInt ∧ V5 z0 z1 z2 z3 z4 % pInt = (ladAt (V5 u0 u1 u2 u3 u4) K i).2.1 % pInt ∧ V5 p0 p1 p2 p3 p4 % pInt = (ladAt (V5 u0 u1 u2 u3 u4) K i).2.2.1 % pInt ∧ V5 q0 q1 q2 q3 q4 % pInt = (ladAt (V5 u0 u1 u2 u3 u4) K i).2.2.2 % pInt) ∨
     (c = .int .i64 (-1) ∧ V5 x0 x1 x2 x3 x4 % pInt = (ladEnd (V5 u0 u1 u2 u3 u4) K).1 % pInt ∧ V5 z0 z1 z2 z3 z4 % pInt = (ladEnd (V5 u0 u1 u2 u3 u4) K).2.1 % pInt))
theorem bit_val (c : UInt8) (t : Nat) : bits .and .u8 ((c.toNat : Int) / 2 ^ t) 1 = if c.toNat.testBit t then 1 else 0 := by
  have hc := UInt8.toNat_lt c
  have e2 : ((c.toNat : Int) / 2 ^ t) = ((c.toNat / 2 ^ t : Nat) : Int) := by simp
  have e3 : c.toNat / 2 ^ t < 256 := Nat.lt_of_le_of_lt (Nat.div_le_self _ _) hc
  rw [e2, Nat.testBit_eq_decide_div_mod_eq]
  generalize c.toNat / 2 ^ t = q at *
  rw [show bits .and .u8 (q : Int) 1 = ((q &&& 1 : Nat) : Int) from u8_and_nat q 1 e3 (by decide), Nat.and_one_is_mod]
  by_cases h : q % 2 = 1
  · simp [h]
  · have : q % 2 = 0 := by omega
    simp [this]
theorem dX_mod' {A B A' B' m : Int} (h : A % m = A' % m) (g : B % m = B' % m) : dX A B % m = dX A' B' % m := mod_mul (mod_mul h h) (mod_mul g g)
theorem dZ_mod' {A B A' B' m : Int} (h : A % m = A' % m) (g : B % m = B' % m) : dZ A B % m = dZ A' B' % m :=
  have e := mod_sub (mod_mul h h) (mod_mul g g)
  mod_mul e (mod_add (mod_mul h h) (mod_mul rfl e))
theorem sX_mod {A B x z A' B' x' z' m : Int} (h : A % m = A' % m) (g : B % m = B' % m) (hx : x % m = x' % m) (hz : z % m = z' % m) : sX A B x z % m = sX A' B' x' z' % m :=
  have e := mod_add (mod_mul (mod_sub hx hz) h) (mod_mul (mod_add hx hz) g)
  mod_mul e e
theorem sZ_mod {u A B x z A' B' x' z' m : Int} (h : A % m = A' % m) (g : B % m = B' % m) (hx : x % m = x' % m) (hz : z % m = z' % m) : sZ u A B x z % m = sZ u A' B' x' z' % m :=
  have e := mod_sub (mod_mul (mod_sub hx hz) h) (mod_mul (mod_add hx hz) g)
  mod_mul rfl (mod_mul e e)
theorem mod_pow {a b m : Int} (h : a % m = b % m) : ∀ n : Nat, a ^ n % m = b ^ n % m
  | 0 => by rw [Int.pow_zero, Int.pow_zero]
  | n + 1 => by rw [Int.pow_succ, Int.pow_succ]; exact mod_mul (mod_pow h n) h
theorem round_math {t : Bool} {u x z p q a b c d e f X Z P Q A B D E m : Int} {s : St} (hx : x % m = s.1 % m) (hz : z % m = s.2.1 % m) (hp : p % m = s.2.2.1 % m) (hq : q % m = s.2.2.2 % m)
    (ha : a = if t then p else x) (hb : b = if t then x else p) (hc : c = if t then q else z) (hd : d = if t then z else q)
    (he : e % m = (a + c) % m) (hf : f % m = (a - c) % m) (hX : X % m = dX e f % m) (hZ : Z % m = dZ e f % m) (hP : P % m = sX e f b d % m) (hQ : Q % m = sZ u e f b d % m)
    (hA : A = if t then P else X) (hB : B = if t then X else P) (hD : D = if t then Q else Z) (hE : E = if t then Z else Q) :
    A % m = (lstep u t s).1 % m ∧ D % m = (lstep u t s).2.1 % m ∧ B % m = (lstep u t s).2.2.1 % m ∧ E % m = (lstep u t s).2.2.2 % m := by
  obtain ⟨s1, s2, s3, s4⟩ := s
  cases t with
  | true =>
    simp only [if_true, lstep] at *
    subst ha hb hc hd hA hB hD hE
    have he' := he.trans (mod_add hp hq)
    have hf' := hf.trans (mod_sub hp hq)
    refine ⟨?_, ?_, ?_, ?_⟩
    · rw [hP.trans (sX_mod he' hf' hx hz)]; congr 1; unfold sX smX; grind
    · rw [hQ.trans (sZ_mod he' hf' hx hz)]; congr 1; unfold sZ smZ; grind
    · exact hX.trans (dX_mod' he' hf')
    · exact hZ.trans (dZ_mod' he' hf')
  | false =>
    simp only [Bool.false_eq_true, if_false, lstep] at *
    subst ha hb hc hd hA hB hD hE
    have he' := he.trans (mod_add hx hz)
    have hf' := hf.trans (mod_sub hx hz)
    exact ⟨hX.trans (dX_mod' he' hf'), hZ.trans (dZ_mod' he' hf'), hP.trans (sX_mod he' hf' hp hq), hQ.trans (sZ_mod he' hf' hp hq)⟩
theorem goneUp_of (HS : SummedSpec) (k : ByteArray) (hk : k.size = 32) (u0 u1 u2 u3 u4 : Int) (w : World) (hu : Car u0 u1 u2 u3 u4) :
    Calls Try.prog 27 #[.string k, L5 u0 u1 u2 u3 u4] w fun e w' => (∃ X0 X1 X2 X3 X4 : Int, e = .returned (L5 X0 X1 X2 X3 X4) ∧ Car X0 X1 X2 X3 X4 ∧ V5 X0 X1 X2 X3 X4 % pInt = up (V5 u0 u1 u2 u3 u4) (numN (clampB k)) % pInt) ∧ Below w.heap.size w w' := by
  have Cu := hide hu
  clear hu
  go_enter Try.func27, Try.ntmps27
  go_wp2_with fail
  refine (clamped_any k hk _).mono ?_
  rintro e w1 ⟨rfl, hb⟩
  obtain ⟨os, d, rfl⟩ := to_adds hb
  clear hb
  go_wp2
  rename_i Q' K hK
  suffices main : ∀ (g2 h2 g3 h3 : Nat) (W : World), A5 W g2 1 0 0 0 0 → A5 W h2 0 0 0 0 0 → A5 W g3 u0 u1 u2 u3 u4 → A5 W h3 1 0 0 0 0 → A5 W w.heap.size u0 u1 u2 u3 u4 → A5 W (w.heap.size + 1) 0 0 0 0 0 → (g2 ≠ h2 ∧ g2 ≠ g3 ∧ g2 ≠ h3 ∧ h2 ≠ g3 ∧ h2 ≠ h3 ∧ g3 ≠ h3) → (w.heap.size + 1 + 1 ≤ g2 ∧ w.heap.size + 1 + 1 ≤ h2 ∧ w.heap.size + 1 + 1 ≤ g3 ∧ w.heap.size + 1 + 1 ≤ h3) → Below w.heap.size w W →
      Exit.then K Q' .normal { tmps := #[.string (clampB k), L5 u0 u1 u2 u3 u4, undef, .pointer (some { block := w.heap.size, off := 0 }), .pointer (some { block := w.heap.size + 1, off := 0 }), .pointer (some { block := g2, off := 0 }), .pointer (some { block := h2, off := 0 }), .pointer (some { block := g3, off := 0 }), .pointer (some { block := h3, off := 0 }), undef, undef, undef, undef, .string k, .string (clampB k), L5 1 0 0 0 0, L5 0 0 0 0 0, L5 u0 u1 u2 u3 u4, L5 1 0 0 0 0, undef, undef, undef, undef, undef, undef, undef, undef, undef, undef, undef, undef, undef, undef, undef, undef, undef, undef, undef, undef, undef, undef, undef, undef, undef, undef, undef, undef, undef, undef, undef, undef, undef, undef, undef, undef, undef, undef, undef, undef, undef, undef, undef, undef, undef, undef, undef, undef, undef, undef, undef, undef, undef, undef, undef, undef, undef, undef, undef, undef, undef, undef, undef, undef, undef], defers := [] } W by
    go_region_held3 (fun w' => w'.cell? ⟨w.heap.size, 0, none⟩ = some (.int .u64 u0) ∧ w'.cell? ⟨w.heap.size, 1, none⟩ = some (.int .u64 u1) ∧ w'.cell? ⟨w.heap.size, 2, none⟩ = some (.int .u64 u2) ∧ w'.cell? ⟨w.heap.size, 3, none⟩ = some (.int .u64 u3) ∧ w'.cell? ⟨w.heap.size, 4, none⟩ = some (.int .u64 u4)) (simp (disch := (first | (simp only [World.size_alloc, size_adds, sizeDrew]; done) | (simp only [World.size_alloc, size_adds, sizeDrew]; omega))) only [cell_old, cell_adds, cellDrew, cellE0, cellE1, cellE2, cellE3, cellE4, and_self]) (fail)
    all_goals exact main _ _ _ _ _ (by (repeat (first | (with_reducible refine A5.new ?_; (first | omega | (simp only [World.size_alloc, size_adds, allocSize]; done) | (simp only [World.size_alloc, size_adds, allocSize]; omega))) | (with_reducible refine A5.alloc ?_) | (with_reducible refine A5.behind ?_)))) (by (repeat (first | (with_reducible refine A5.new ?_; (first | omega | (simp only [World.size_alloc, size_adds, allocSize]; done) | (simp only [World.size_alloc, size_adds, allocSize]; omega))) | (with_reducible refine A5.alloc ?_) | (with_reducible refine A5.behind ?_)))) (by (repeat (first | (with_reducible refine A5.new ?_; (first | omega | (simp only [World.size_alloc, size_adds, allocSize]; done) | (simp only [World.size_alloc, size_adds, allocSize]; omega))) | (with_reducible refine A5.alloc ?_) | (with_reducible refine A5.behind ?_)))) (by (repeat (first | (with_reducible refine A5.new ?_; (first | omega | (simp only [World.size_alloc, size_adds, allocSize]; done) | (simp only [World.size_alloc, size_adds, allocSize]; omega))) | (with_reducible refine A5.alloc ?_) | (with_reducible refine A5.behind ?_)))) (by (repeat (first | (with_reducible refine A5.new ?_; (first | omega | (simp only [World.size_alloc, size_adds, allocSize]; done) | (simp only [World.size_alloc, size_adds, allocSize]; omega))) | (with_reducible refine A5.alloc ?_) | (with_reducible refine A5.behind ?_)))) (by (repeat (first | (with_reducible refine A5.new ?_; (first | omega | (simp only [World.size_alloc, size_adds, allocSize]; done) | (simp only [World.size_alloc, size_adds, allocSize]; omega))) | (with_reducible refine A5.alloc ?_) | (with_reducible refine A5.behind ?_)))) ⟨(by first | omega | (simp only [World.size_alloc, size_adds, allocSize]; done) | (simp only [World.size_alloc, size_adds, allocSize]; omega)), (by first | omega | (simp only [World.size_alloc, size_adds, allocSize]; done) | (simp only [World.size_alloc, size_adds, allocSize]; omega)), (by first | omega | (simp only [World.size_alloc, size_adds, allocSize]; done) | (simp only [World.size_alloc, size_adds, allocSize]; omega)), (by first | omega | (simp only [World.size_alloc, size_adds, allocSize]; done) | (simp only [World.size_alloc, size_adds, allocSize]; omega)), (by first | omega | (simp only [World.size_alloc, size_adds, allocSize]; done) | (simp only [World.size_alloc, size_adds, allocSize]; omega)), (by first | omega | (simp only [World.size_alloc, size_adds, allocSize]; done) | (simp only [World.size_alloc, size_adds, allocSize]; omega))⟩ ⟨(by first | omega | (simp only [World.size_alloc, size_adds, allocSize]; done) | (simp only [World.size_alloc, size_adds, allocSize]; omega)), (by first | omega | (simp only [World.size_alloc, size_adds, allocSize]; done) | (simp only [World.size_alloc, size_adds, allocSize]; omega)), (by first | omega | (simp only [World.size_alloc, size_adds, allocSize]; done) | (simp only [World.size_alloc, size_adds, allocSize]; omega)), (by first | omega | (simp only [World.size_alloc, size_adds, allocSize]; done) | (simp only [World.size_alloc, size_adds, allocSize]; omega))⟩ (by (repeat (first | (with_reducible exact Below.refl _ _) | (with_reducible refine Below.alloc' ?_ ?_; rotate_left; (first | omega | (simp only [World.size_alloc, size_adds, allocSize]; done) | (simp only [World.size_alloc, size_adds, allocSize]; omega))) | (with_reducible refine Below.adds' ?_ ?_; rotate_left; (first | omega | (simp only [World.size_alloc, size_adds, allocSize]; done) | (simp only [World.size_alloc, size_adds, allocSize]; omega))))))
  clear os d
  intro g2 h2 g3 h3 W q1 q2 q3 q4 qu qr ⟨n1, n2, n3, n4, n5, n6⟩ ⟨l1, l2, l3, l4⟩ hW
  have m1 := n1.symm
  have m2 := n2.symm
  have m3 := n3.symm
  have m4 := n4.symm
  have m5 := n5.symm
  have m6 := n6.symm
  have eg2 : w.heap.size ≠ g2 := by omega
  have rg2 : w.heap.size + 1 ≠ g2 := by omega
  have eh2 : w.heap.size ≠ h2 := by omega
  have rh2 : w.heap.size + 1 ≠ h2 := by omega
  have eg3 : w.heap.size ≠ g3 := by omega
  have rg3 : w.heap.size + 1 ≠ g3 := by omega
  have eh3 : w.heap.size ≠ h3 := by omega
  have rh3 : w.heap.size + 1 ≠ h3 := by omega
  go_wp2
  go_loopw [9] (fun c wr => UpRel w g2 h2 g3 h3 u0 u1 u2 u3 u4 (numN (clampB k)) c wr) (fun c _ => (intOf c + 1).toNat)
  case atStart => exact ⟨1, 0, 0, 0, 0, 0, 0, 0, 0, 0, u0, u1, u2, u3, u4, 1, 0, 0, 0, 0, q1, q2, q3, q4, qu, qr, hW, by unfold Car; omega, by unfold Car; omega, unhide Cu, by unfold Car; omega, .inl ⟨254, by omega, rfl, by rw [V5_small]; rfl, by rw [V5_small]; rfl, rfl, by rw [V5_small]; rfl⟩⟩
  case round =>
    clear q1 q2 q3 q4 qu qr hW
    obtain ⟨x0, x1, x2, x3, x4, z0, z1, z2, z3, z4, p0, p1, p2, p3, p4, q0, q1, q2, q3, q4, qx, qz, qp, qq, qu, qr, hW, cx, cz, cp, cq, hcase⟩ := hrel
    have Cx := hide cx
    have Cz := hide cz
    have Cp := hide cp
    have Cq := hide cq
    have HW := hide hW
    clear cx cz cp cq hW
    have hks := clampB_size k
    rw [hk] at hks
    rcases hcase with ⟨i, hi, rfl, vx, vz, vp, vq⟩ | ⟨rfl, vx, vz⟩
    · have Vx := hide vx
      have Vz := hide vz
      have Vp := hide vp
      have Vq := hide vq
      clear vx vz vp vq
      have hbit := bit_val ((clampB k)[i / 8]'(by omega)) (i % 8)
      rw [← numN_bit (clampB k) i (by omega)] at hbit
      obtain ⟨t, ht⟩ : ∃ t, (numN (clampB k)).testBit i = t := ⟨_, rfl⟩
      rw [ht] at hbit
      obtain ⟨bv, hbv⟩ : ∃ bv : Int, bv = if t then 1 else 0 := ⟨_, rfl⟩
      rw [← hbv] at hbit
      have HT := hide ht
      have HB := hide hbv
      have hb0 : 0 ≤ bv := by rw [hbv]; split <;> omega
      have hb1 : bv < 256 := by rw [hbv]; split <;> omega
      clear ht hbv
      have a_x2 := qx
      have a_z2 := qz
      have a_x3 := qp
      have a_z3 := qq
      have a_u := qu
      have a_r := qr
      clear qx qz qp qq qu qr
      obtain ⟨c_x20, c_x21, c_x22, c_x23, c_x24⟩ := a_x2.cells
      obtain ⟨c_x30, c_x31, c_x32, c_x33, c_x34⟩ := a_x3.cells
      go_wp2_with fail
      clear c_x20 c_x21 c_x22 c_x23 c_x24 c_x30 c_x31 c_x32 c_x33 c_x34
      refine (swapped_sel t bv (unhide HB) x0 x1 x2 x3 x4 p0 p1 p2 p3 p4 _ (unhide Cx) (unhide Cp)).mono ?_
      rintro e y1 ⟨⟨a0, a1, a2, a3, a4, b0, b1, b2, b3, b4, rfl, mc, md, mv, mw⟩, hb⟩
      have Ca := hide mc
      have Cb := hide md
      have Va := hide mv
      have Vb := hide mw
      clear mc md mv mw
      obtain ⟨v1, hv1, b_z2, b_z3, b_u, b_r, lA1, lB1, hW1⟩ : ∃ v1, y1 = rowL (rowL v1 g2 42 .u64 [x0, x1, x2, x3, x4] []) g3 42 .u64 [p0, p1, p2, p3, p4] [] ∧ A5 v1 h2 z0 z1 z2 z3 z4 ∧ A5 v1 h3 q0 q1 q2 q3 q4 ∧ A5 v1 w.heap.size u0 u1 u2 u3 u4 ∧ A5 v1 (w.heap.size + 1) 0 0 0 0 0 ∧ g2 < v1.heap.size ∧ g3 < v1.heap.size ∧ Below w.heap.size w v1 := ⟨y1, (a_x2.kept hb).two (a_x3.kept hb), a_z2.kept hb, a_z3.kept hb, a_u.kept hb, a_r.kept hb, (a_x2.kept hb).lt, (a_x3.kept hb).lt, (unhide HW).trans (hb.mono (unhide HW).size)⟩
      subst hv1
      clear hb HW a_x2 a_z2 a_x3 a_z3 a_u a_r
      have HW' := hide hW1
      clear hW1
      obtain ⟨c_z20, c_z21, c_z22, c_z23, c_z24⟩ := b_z2.cells
      obtain ⟨c_z30, c_z31, c_z32, c_z33, c_z34⟩ := b_z3.cells
      go_wp2_with fail
      clear c_z20 c_z21 c_z22 c_z23 c_z24 c_z30 c_z31 c_z32 c_z33 c_z34
      have a_z2 : A5 (rowL (rowL v1 g2 42 .u64 [a0, a1, a2, a3, a4] []) g3 42 .u64 [b0, b1, b2, b3, b4] []) h2 z0 z1 z2 z3 z4 := (b_z2.other n1.symm).other n4
      have a_z3 : A5 (rowL (rowL v1 g2 42 .u64 [a0, a1, a2, a3, a4] []) g3 42 .u64 [b0, b1, b2, b3, b4] []) h3 q0 q1 q2 q3 q4 := (b_z3.other n3.symm).other n6.symm
      have a_u : A5 (rowL (rowL v1 g2 42 .u64 [a0, a1, a2, a3, a4] []) g3 42 .u64 [b0, b1, b2, b3, b4] []) w.heap.size u0 u1 u2 u3 u4 := (b_u.other (by omega)).other (by omega)
      have a_r : A5 (rowL (rowL v1 g2 42 .u64 [a0, a1, a2, a3, a4] []) g3 42 .u64 [b0, b1, b2, b3, b4] []) (w.heap.size + 1) 0 0 0 0 0 := (b_r.other (by omega)).other (by omega)
      have a_x2 : A5 (rowL (rowL v1 g2 42 .u64 [a0, a1, a2, a3, a4] []) g3 42 .u64 [b0, b1, b2, b3, b4] []) g2 a0 a1 a2 a3 a4 := (A5.put lA1).other n2
      have a_x3 : A5 (rowL (rowL v1 g2 42 .u64 [a0, a1, a2, a3, a4] []) g3 42 .u64 [b0, b1, b2, b3, b4] []) g3 b0 b1 b2 b3 b4 := A5.put (by rw [size_row]; exact lB1)
      have HW : Hid (Below w.heap.size w (rowL (rowL v1 g2 42 .u64 [a0, a1, a2, a3, a4] []) g3 42 .u64 [b0, b1, b2, b3, b4] [])) := hide (below_row _ _ _ _ _ _ (below_row _ _ _ _ _ _ (unhide HW') (by omega)) (by omega))
      clear HW' lA1 lB1 b_z2 b_z3 b_u b_r
      refine (swapped_sel t bv (unhide HB) z0 z1 z2 z3 z4 q0 q1 q2 q3 q4 _ (unhide Cz) (unhide Cq)).mono ?_
      rintro e y2 ⟨⟨c0, c1, c2, c3, c4, d0, d1, d2, d3, d4, rfl, mc, md, mv, mw⟩, hb⟩
      have Cc := hide mc
      have Cd := hide md
      have Vc := hide mv
      have Vd := hide mw
      clear mc md mv mw
      obtain ⟨v2, hv2, b_x2, b_x3, b_u, b_r, lA2, lB2, hW2⟩ : ∃ v2, y2 = rowL (rowL v2 h2 42 .u64 [z0, z1, z2, z3, z4] []) h3 42 .u64 [q0, q1, q2, q3, q4] [] ∧ A5 v2 g2 a0 a1 a2 a3 a4 ∧ A5 v2 g3 b0 b1 b2 b3 b4 ∧ A5 v2 w.heap.size u0 u1 u2 u3 u4 ∧ A5 v2 (w.heap.size + 1) 0 0 0 0 0 ∧ h2 < v2.heap.size ∧ h3 < v2.heap.size ∧ Below w.heap.size w v2 := ⟨y2, (a_z2.kept hb).two (a_z3.kept hb), a_x2.kept hb, a_x3.kept hb, a_u.kept hb, a_r.kept hb, (a_z2.kept hb).lt, (a_z3.kept hb).lt, (unhide HW).trans (hb.mono (unhide HW).size)⟩
      subst hv2
      clear hb HW a_x2 a_z2 a_x3 a_z3 a_u a_r
      have HW' := hide hW2
      clear hW2
      go_wp2
      have a_x2 : A5 (rowL (rowL v2 h2 42 .u64 [c0, c1, c2, c3, c4] []) h3 42 .u64 [d0, d1, d2, d3, d4] []) g2 a0 a1 a2 a3 a4 := (b_x2.other n1).other n3
      have a_x3 : A5 (rowL (rowL v2 h2 42 .u64 [c0, c1, c2, c3, c4] []) h3 42 .u64 [d0, d1, d2, d3, d4] []) g3 b0 b1 b2 b3 b4 := (b_x3.other n4.symm).other n6
      have a_u : A5 (rowL (rowL v2 h2 42 .u64 [c0, c1, c2, c3, c4] []) h3 42 .u64 [d0, d1, d2, d3, d4] []) w.heap.size u0 u1 u2 u3 u4 := (b_u.other (by omega)).other (by omega)
      have a_r : A5 (rowL (rowL v2 h2 42 .u64 [c0, c1, c2, c3, c4] []) h3 42 .u64 [d0, d1, d2, d3, d4] []) (w.heap.size + 1) 0 0 0 0 0 := (b_r.other (by omega)).other (by omega)
      have a_z2 : A5 (rowL (rowL v2 h2 42 .u64 [c0, c1, c2, c3, c4] []) h3 42 .u64 [d0, d1, d2, d3, d4] []) h2 c0 c1 c2 c3 c4 := (A5.put lA2).other n5
      have a_z3 : A5 (rowL (rowL v2 h2 42 .u64 [c0, c1, c2, c3, c4] []) h3 42 .u64 [d0, d1, d2, d3, d4] []) h3 d0 d1 d2 d3 d4 := A5.put (by rw [size_row]; exact lB2)
      have HW : Hid (Below w.heap.size w (rowL (rowL v2 h2 42 .u64 [c0, c1, c2, c3, c4] []) h3 42 .u64 [d0, d1, d2, d3, d4] [])) := hide (below_row _ _ _ _ _ _ (below_row _ _ _ _ _ _ (unhide HW') (by omega)) (by omega))
      clear HW' lA2 lB2 b_x2 b_x3 b_u b_r
      generalize (rowL (rowL v2 h2 42 .u64 [c0, c1, c2, c3, c4] []) h3 42 .u64 [d0, d1, d2, d3, d4] []) = W9 at *
      rename_i K9 hK9
      have hB9 := (unhide HW).size
      obtain ⟨B, hB⟩ : ∃ B, B = W9.heap.size := ⟨_, rfl⟩
      have t_x2 : g2 < B := by rw [hB]; exact a_x2.lt
      have t_z2 : h2 < B := by rw [hB]; exact a_z2.lt
      have t_x3 : g3 < B := by rw [hB]; exact a_x3.lt
      have t_z3 : h3 < B := by rw [hB]; exact a_z3.lt
      have t_u : w.heap.size < B := by rw [hB]; exact a_u.lt
      have t_r : (w.heap.size + 1) < B := by rw [hB]; exact a_r.lt
      rw [← hB] at hB9
      suffices main2 : ∀ (e0 e1 e2 e3 e4 f0 f1 f2 f3 f4 : Int) (gp gm : Nat) (W : World) (s19 s20 s21 s22 s23 s24 s25 s26 s27 s28 s29 s30 s31 s32 s33 s34 s35 s36 s37 s38 s39 s40 s41 s42 s43 s44 s45 s46 s47 s48 s49 s50 s51 : Value), Hid (Car e0 e1 e2 e3 e4) → Hid (V5 e0 e1 e2 e3 e4 % pInt = (V5 a0 a1 a2 a3 a4 + V5 c0 c1 c2 c3 c4) % pInt) → Hid (Car f0 f1 f2 f3 f4) → Hid (V5 f0 f1 f2 f3 f4 % pInt = (V5 a0 a1 a2 a3 a4 - V5 c0 c1 c2 c3 c4) % pInt) →
          A5 W gp e0 e1 e2 e3 e4 → A5 W gm f0 f1 f2 f3 f4 → A5 W g2 a0 a1 a2 a3 a4 → A5 W h2 c0 c1 c2 c3 c4 → A5 W g3 b0 b1 b2 b3 b4 → A5 W h3 d0 d1 d2 d3 d4 → A5 W w.heap.size u0 u1 u2 u3 u4 → A5 W (w.heap.size + 1) 0 0 0 0 0 → B ≤ gp → B ≤ gm → Below w.heap.size w W →
          Exit.then K9 Q' .normal { tmps := #[.string (clampB k), L5 u0 u1 u2 u3 u4, undef, .pointer (some { block := w.heap.size, off := 0 }), .pointer (some { block := w.heap.size + 1, off := 0 }), .pointer (some { block := g2, off := 0 }), .pointer (some { block := h2, off := 0 }), .pointer (some { block := g3, off := 0 }), .pointer (some { block := h3, off := 0 }), .int .i64 (i : Int), .int .u64 bv, .pointer (some { block := gp, off := 0 }), .pointer (some { block := gm, off := 0 }), .string k, .string (clampB k), L5 1 0 0 0 0, L5 0 0 0 0 0, L5 u0 u1 u2 u3 u4, L5 1 0 0 0 0, s19, s20, s21, s22, s23, s24, s25, s26, s27, s28, s29, s30, s31, s32, s33, s34, s35, s36, s37, s38, s39, s40, s41, s42, s43, s44, s45, s46, s47, s48, s49, s50, s51, u52, u53, u54, u55, u56, u57, u58, u59, u60, u61, u62, u63, u64, u65, u66, u67, u68, u69, u70, u71, u72, u73, u74, u75, u76, u77, u78, u79, u80, undef, undef, undef], defers := [] } W by
        clear n1 n2 n3 n4 n5 n6 m1 m2 m3 m4 m5 m6 eg2 eh2 eg3 eh3 rg2 rh2 rg3 rh3 l1 l2 l3 l4 Vx Vz Vp Vq Va Vb Vc Vd HT HB hb0 hb1 hbit Cx Cz Cp Cq Cb Cd Cu
        obtain ⟨c_x20, c_x21, c_x22, c_x23, c_x24⟩ := a_x2.cells
        obtain ⟨c_z20, c_z21, c_z22, c_z23, c_z24⟩ := a_z2.cells
        go_region_held3 (fun w' => w'.cell? ⟨g2, 0, none⟩ = some (.int .u64 a0) ∧ w'.cell? ⟨g2, 1, none⟩ = some (.int .u64 a1) ∧ w'.cell? ⟨g2, 2, none⟩ = some (.int .u64 a2) ∧ w'.cell? ⟨g2, 3, none⟩ = some (.int .u64 a3) ∧ w'.cell? ⟨g2, 4, none⟩ = some (.int .u64 a4) ∧ w'.cell? ⟨h2, 0, none⟩ = some (.int .u64 c0) ∧ w'.cell? ⟨h2, 1, none⟩ = some (.int .u64 c1) ∧ w'.cell? ⟨h2, 2, none⟩ = some (.int .u64 c2) ∧ w'.cell? ⟨h2, 3, none⟩ = some (.int .u64 c3) ∧ w'.cell? ⟨h2, 4, none⟩ = some (.int .u64 c4)) (simp (disch := (first | (simp only [World.size_alloc, size_adds, sizeDrew]; omega) | omega)) only [cell_old, cell_adds, cellDrew, c_x20, c_x21, c_x22, c_x23, c_x24, c_z20, c_z21, c_z22, c_z23, c_z24, and_self])
          (first
            | (go_at_call_of 35 (Value.agg #[.int .u64 a0, .int .u64 a1, .int .u64 a2, .int .u64 a3, .int .u64 a4]); refine (plus_any a0 a1 a2 a3 a4 c0 c1 c2 c3 c4 _ (unhide Ca) (unhide Cc)).mono ?_; rintro e w1 ⟨⟨e0, e1, e2, e3, e4, rfl, mc, mv⟩, hb⟩; have Ce := hide mc; have Ve := hide mv; clear mc mv; obtain ⟨os1, dd1, rfl⟩ := to_adds hb; clear hb)
            | (go_at_call_of 36 (Value.agg #[.int .u64 a0, .int .u64 a1, .int .u64 a2, .int .u64 a3, .int .u64 a4]); refine (minus_any a0 a1 a2 a3 a4 c0 c1 c2 c3 c4 _ (unhide Ca) (unhide Cc)).mono ?_; rintro e w1 ⟨⟨f0, f1, f2, f3, f4, rfl, mc, mv⟩, hb⟩; have Cf := hide mc; have Vf := hide mv; clear mc mv; obtain ⟨os2, dd2, rfl⟩ := to_adds hb; clear hb))
        all_goals exact main2 _ _ _ _ _ _ _ _ _ _ _ _ _ _ _ _ _ _ _ _ _ _ _ _ _ _ _ _ _ _ _ _ _ _ _ _ _ _ _ _ _ _ _ _ _ _ Ce Ve Cf Vf (by (repeat (first | (with_reducible refine A5.new ?_; (first | omega | (simp only [World.size_alloc, size_adds, allocSize]; done) | (simp only [World.size_alloc, size_adds, allocSize]; omega))) | (with_reducible refine A5.alloc ?_) | (with_reducible refine A5.behind ?_) | assumption))) (by (repeat (first | (with_reducible refine A5.new ?_; (first | omega | (simp only [World.size_alloc, size_adds, allocSize]; done) | (simp only [World.size_alloc, size_adds, allocSize]; omega))) | (with_reducible refine A5.alloc ?_) | (with_reducible refine A5.behind ?_) | assumption))) (by (repeat (first | (with_reducible refine A5.new ?_; (first | omega | (simp only [World.size_alloc, size_adds, allocSize]; done) | (simp only [World.size_alloc, size_adds, allocSize]; omega))) | (with_reducible refine A5.alloc ?_) | (with_reducible refine A5.behind ?_) | assumption))) (by (repeat (first | (with_reducible refine A5.new ?_; (first | omega | (simp only [World.size_alloc, size_adds, allocSize]; done) | (simp only [World.size_alloc, size_adds, allocSize]; omega))) | (with_reducible refine A5.alloc ?_) | (with_reducible refine A5.behind ?_) | assumption))) (by (repeat (first | (with_reducible refine A5.new ?_; (first | omega | (simp only [World.size_alloc, size_adds, allocSize]; done) | (simp only [World.size_alloc, size_adds, allocSize]; omega))) | (with_reducible refine A5.alloc ?_) | (with_reducible refine A5.behind ?_) | assumption))) (by (repeat (first | (with_reducible refine A5.new ?_; (first | omega | (simp only [World.size_alloc, size_adds, allocSize]; done) | (simp only [World.size_alloc, size_adds, allocSize]; omega))) | (with_reducible refine A5.alloc ?_) | (with_reducible refine A5.behind ?_) | assumption))) (by (repeat (first | (with_reducible refine A5.new ?_; (first | omega | (simp only [World.size_alloc, size_adds, allocSize]; done) | (simp only [World.size_alloc, size_adds, allocSize]; omega))) | (with_reducible refine A5.alloc ?_) | (with_reducible refine A5.behind ?_) | assumption))) (by (repeat (first | (with_reducible refine A5.new ?_; (first | omega | (simp only [World.size_alloc, size_adds, allocSize]; done) | (simp only [World.size_alloc, size_adds, allocSize]; omega))) | (with_reducible refine A5.alloc ?_) | (with_reducible refine A5.behind ?_) | assumption))) (by first | omega | (simp only [World.size_alloc, size_adds, allocSize]; done) | (simp only [World.size_alloc, size_adds, allocSize]; omega)) (by first | omega | (simp only [World.size_alloc, size_adds, allocSize]; done) | (simp only [World.size_alloc, size_adds, allocSize]; omega)) (by (repeat (first | exact unhide HW | (with_reducible refine Below.alloc' ?_ ?_; rotate_left; (first | omega | (simp only [World.size_alloc, size_adds, allocSize]; done) | (simp only [World.size_alloc, size_adds, allocSize]; omega))) | (with_reducible refine Below.adds' ?_ ?_; rotate_left; (first | omega | (simp only [World.size_alloc, size_adds, allocSize]; done) | (simp only [World.size_alloc, size_adds, allocSize]; omega))))))
      clear a_x2 a_z2 a_x3 a_z3 a_u a_r HW
      intro e0 e1 e2 e3 e4 f0 f1 f2 f3 f4 gp gm W s19 s20 s21 s22 s23 s24 s25 s26 s27 s28 s29 s30 s31 s32 s33 s34 s35 s36 s37 s38 s39 s40 s41 s42 s43 s44 s45 s46 s47 s48 s49 s50 s51 Ce Ve Cf Vf a_pl a_mi a_x2 a_z2 a_x3 a_z3 a_u a_r lp lm hW9
      have HW := hide hW9
      clear hW9
      have pg2 : gp ≠ g2 := by omega
      have qg2 : gm ≠ g2 := by omega
      have ph2 : gp ≠ h2 := by omega
      have qh2 : gm ≠ h2 := by omega
      have pg3 : gp ≠ g3 := by omega
      have qg3 : gm ≠ g3 := by omega
      have ph3 : gp ≠ h3 := by omega
      have qh3 : gm ≠ h3 := by omega
      obtain ⟨c_pl0, c_pl1, c_pl2, c_pl3, c_pl4⟩ := a_pl.cells
      obtain ⟨c_mi0, c_mi1, c_mi2, c_mi3, c_mi4⟩ := a_mi.cells
      go_wp2_with fail
      clear c_pl0 c_pl1 c_pl2 c_pl3 c_pl4 c_mi0 c_mi1 c_mi2 c_mi3 c_mi4
      refine (doubled_any e0 e1 e2 e3 e4 f0 f1 f2 f3 f4 _ (unhide Ce) (unhide Cf)).mono ?_
      rintro e y3 ⟨⟨X0, X1, X2, X3, X4, Z0, Z1, Z2, Z3, Z4, rfl, mc, md, mv, mw⟩, hb⟩
      have CX := hide mc
      have CZ := hide md
      have VX := hide mv
      have VZ := hide mw
      clear mc md mv mw
      obtain ⟨v3, hv3, b_x3, b_z3, b_u, b_r, b_pl, b_mi, lA3, lB3, hW3⟩ : ∃ v3, y3 = rowL (rowL v3 g2 42 .u64 [a0, a1, a2, a3, a4] []) h2 42 .u64 [c0, c1, c2, c3, c4] [] ∧ A5 v3 g3 b0 b1 b2 b3 b4 ∧ A5 v3 h3 d0 d1 d2 d3 d4 ∧ A5 v3 w.heap.size u0 u1 u2 u3 u4 ∧ A5 v3 (w.heap.size + 1) 0 0 0 0 0 ∧ A5 v3 gp e0 e1 e2 e3 e4 ∧ A5 v3 gm f0 f1 f2 f3 f4 ∧ g2 < v3.heap.size ∧ h2 < v3.heap.size ∧ Below w.heap.size w v3 := ⟨y3, (a_x2.kept hb).two (a_z2.kept hb), a_x3.kept hb, a_z3.kept hb, a_u.kept hb, a_r.kept hb, a_pl.kept hb, a_mi.kept hb, (a_x2.kept hb).lt, (a_z2.kept hb).lt, (unhide HW).trans (hb.mono (unhide HW).size)⟩
      subst hv3
      clear hb HW a_x2 a_z2 a_x3 a_z3 a_u a_r a_pl a_mi
      have HW' := hide hW3
      clear hW3
      obtain ⟨c_u0, c_u1, c_u2, c_u3, c_u4⟩ := b_u.cells
      obtain ⟨c_pl0, c_pl1, c_pl2, c_pl3, c_pl4⟩ := b_pl.cells
      obtain ⟨c_mi0, c_mi1, c_mi2, c_mi3, c_mi4⟩ := b_mi.cells
      obtain ⟨c_x30, c_x31, c_x32, c_x33, c_x34⟩ := b_x3.cells
      obtain ⟨c_z30, c_z31, c_z32, c_z33, c_z34⟩ := b_z3.cells
      go_wp2_with fail
      clear c_u0 c_u1 c_u2 c_u3 c_u4 c_pl0 c_pl1 c_pl2 c_pl3 c_pl4 c_mi0 c_mi1 c_mi2 c_mi3 c_mi4 c_x30 c_x31 c_x32 c_x33 c_x34 c_z30 c_z31 c_z32 c_z33 c_z34
      have a_x3 : A5 (rowL (rowL v3 g2 42 .u64 [X0, X1, X2, X3, X4] []) h2 42 .u64 [Z0, Z1, Z2, Z3, Z4] []) g3 b0 b1 b2 b3 b4 := (b_x3.other n2.symm).other n4.symm
      have a_z3 : A5 (rowL (rowL v3 g2 42 .u64 [X0, X1, X2, X3, X4] []) h2 42 .u64 [Z0, Z1, Z2, Z3, Z4] []) h3 d0 d1 d2 d3 d4 := (b_z3.other n3.symm).other n5.symm
      have a_u : A5 (rowL (rowL v3 g2 42 .u64 [X0, X1, X2, X3, X4] []) h2 42 .u64 [Z0, Z1, Z2, Z3, Z4] []) w.heap.size u0 u1 u2 u3 u4 := (b_u.other (by omega)).other (by omega)
      have a_r : A5 (rowL (rowL v3 g2 42 .u64 [X0, X1, X2, X3, X4] []) h2 42 .u64 [Z0, Z1, Z2, Z3, Z4] []) (w.heap.size + 1) 0 0 0 0 0 := (b_r.other (by omega)).other (by omega)
      have a_pl : A5 (rowL (rowL v3 g2 42 .u64 [X0, X1, X2, X3, X4] []) h2 42 .u64 [Z0, Z1, Z2, Z3, Z4] []) gp e0 e1 e2 e3 e4 := (b_pl.other (by omega)).other (by omega)
      have a_mi : A5 (rowL (rowL v3 g2 42 .u64 [X0, X1, X2, X3, X4] []) h2 42 .u64 [Z0, Z1, Z2, Z3, Z4] []) gm f0 f1 f2 f3 f4 := (b_mi.other (by omega)).other (by omega)
      have a_x2 : A5 (rowL (rowL v3 g2 42 .u64 [X0, X1, X2, X3, X4] []) h2 42 .u64 [Z0, Z1, Z2, Z3, Z4] []) g2 X0 X1 X2 X3 X4 := (A5.put lA3).other n1
      have a_z2 : A5 (rowL (rowL v3 g2 42 .u64 [X0, X1, X2, X3, X4] []) h2 42 .u64 [Z0, Z1, Z2, Z3, Z4] []) h2 Z0 Z1 Z2 Z3 Z4 := A5.put (by rw [size_row]; exact lB3)
      have HW : Hid (Below w.heap.size w (rowL (rowL v3 g2 42 .u64 [X0, X1, X2, X3, X4] []) h2 42 .u64 [Z0, Z1, Z2, Z3, Z4] [])) := hide (below_row _ _ _ _ _ _ (below_row _ _ _ _ _ _ (unhide HW') (by omega)) (by omega))
      clear HW' lA3 lB3 b_x3 b_z3 b_u b_r b_pl b_mi
      refine (HS u0 u1 u2 u3 u4 e0 e1 e2 e3 e4 f0 f1 f2 f3 f4 b0 b1 b2 b3 b4 d0 d1 d2 d3 d4 _ (unhide Cu) (unhide Ce) (unhide Cf) (unhide Cb) (unhide Cd)).mono ?_
      rintro e y4 ⟨⟨P0, P1, P2, P3, P4, Q0, Q1, Q2, Q3, Q4, rfl, mc, md, mv, mw⟩, hb⟩
      have CP := hide mc
      have CQ := hide md
      have VP := hide mv
      have VQ := hide mw
      clear mc md mv mw
      obtain ⟨v4, hv4, b_x2, b_z2, b_u, b_r, b_pl, b_mi, lA4, lB4, hW4⟩ : ∃ v4, y4 = rowL (rowL v4 g3 42 .u64 [b0, b1, b2, b3, b4] []) h3 42 .u64 [d0, d1, d2, d3, d4] [] ∧ A5 v4 g2 X0 X1 X2 X3 X4 ∧ A5 v4 h2 Z0 Z1 Z2 Z3 Z4 ∧ A5 v4 w.heap.size u0 u1 u2 u3 u4 ∧ A5 v4 (w.heap.size + 1) 0 0 0 0 0 ∧ A5 v4 gp e0 e1 e2 e3 e4 ∧ A5 v4 gm f0 f1 f2 f3 f4 ∧ g3 < v4.heap.size ∧ h3 < v4.heap.size ∧ Below w.heap.size w v4 := ⟨y4, (a_x3.kept hb).two (a_z3.kept hb), a_x2.kept hb, a_z2.kept hb, a_u.kept hb, a_r.kept hb, a_pl.kept hb, a_mi.kept hb, (a_x3.kept hb).lt, (a_z3.kept hb).lt, (unhide HW).trans (hb.mono (unhide HW).size)⟩
      subst hv4
      clear hb HW a_x2 a_z2 a_x3 a_z3 a_u a_r a_pl a_mi
      have HW' := hide hW4
      clear hW4
      obtain ⟨c_x20, c_x21, c_x22, c_x23, c_x24⟩ := b_x2.cells
      go_wp2_with fail
      clear c_x20 c_x21 c_x22 c_x23 c_x24
      have a_x2 : A5 (rowL (rowL v4 g3 42 .u64 [P0, P1, P2, P3, P4] []) h3 42 .u64 [Q0, Q1, Q2, Q3, Q4] []) g2 X0 X1 X2 X3 X4 := (b_x2.other n2).other n3
      have a_z2 : A5 (rowL (rowL v4 g3 42 .u64 [P0, P1, P2, P3, P4] []) h3 42 .u64 [Q0, Q1, Q2, Q3, Q4] []) h2 Z0 Z1 Z2 Z3 Z4 := (b_z2.other n4).other n5
      have a_u : A5 (rowL (rowL v4 g3 42 .u64 [P0, P1, P2, P3, P4] []) h3 42 .u64 [Q0, Q1, Q2, Q3, Q4] []) w.heap.size u0 u1 u2 u3 u4 := (b_u.other (by omega)).other (by omega)
      have a_r : A5 (rowL (rowL v4 g3 42 .u64 [P0, P1, P2, P3, P4] []) h3 42 .u64 [Q0, Q1, Q2, Q3, Q4] []) (w.heap.size + 1) 0 0 0 0 0 := (b_r.other (by omega)).other (by omega)
      have a_pl : A5 (rowL (rowL v4 g3 42 .u64 [P0, P1, P2, P3, P4] []) h3 42 .u64 [Q0, Q1, Q2, Q3, Q4] []) gp e0 e1 e2 e3 e4 := (b_pl.other (by omega)).other (by omega)
      have a_mi : A5 (rowL (rowL v4 g3 42 .u64 [P0, P1, P2, P3, P4] []) h3 42 .u64 [Q0, Q1, Q2, Q3, Q4] []) gm f0 f1 f2 f3 f4 := (b_mi.other (by omega)).other (by omega)
      have a_x3 : A5 (rowL (rowL v4 g3 42 .u64 [P0, P1, P2, P3, P4] []) h3 42 .u64 [Q0, Q1, Q2, Q3, Q4] []) g3 P0 P1 P2 P3 P4 := (A5.put lA4).other n6
      have a_z3 : A5 (rowL (rowL v4 g3 42 .u64 [P0, P1, P2, P3, P4] []) h3 42 .u64 [Q0, Q1, Q2, Q3, Q4] []) h3 Q0 Q1 Q2 Q3 Q4 := A5.put (by rw [size_row]; exact lB4)
      have HW : Hid (Below w.heap.size w (rowL (rowL v4 g3 42 .u64 [P0, P1, P2, P3, P4] []) h3 42 .u64 [Q0, Q1, Q2, Q3, Q4] [])) := hide (below_row _ _ _ _ _ _ (below_row _ _ _ _ _ _ (unhide HW') (by omega)) (by omega))
      clear HW' lA4 lB4 b_x2 b_z2 b_u b_r b_pl b_mi
      refine (swapped_sel t bv (unhide HB) X0 X1 X2 X3 X4 P0 P1 P2 P3 P4 _ (unhide CX) (unhide CP)).mono ?_
      rintro e y5 ⟨⟨A0, A1, A2, A3, A4, B0, B1, B2, B3, B4, rfl, mc, md, mv, mw⟩, hb⟩
      have CA := hide mc
      have CB := hide md
      have VA := hide mv
      have VB := hide mw
      clear mc md mv mw
      obtain ⟨v5, hv5, b_z2, b_z3, b_u, b_r, b_pl, b_mi, lA5, lB5, hW5⟩ : ∃ v5, y5 = rowL (rowL v5 g2 42 .u64 [X0, X1, X2, X3, X4] []) g3 42 .u64 [P0, P1, P2, P3, P4] [] ∧ A5 v5 h2 Z0 Z1 Z2 Z3 Z4 ∧ A5 v5 h3 Q0 Q1 Q2 Q3 Q4 ∧ A5 v5 w.heap.size u0 u1 u2 u3 u4 ∧ A5 v5 (w.heap.size + 1) 0 0 0 0 0 ∧ A5 v5 gp e0 e1 e2 e3 e4 ∧ A5 v5 gm f0 f1 f2 f3 f4 ∧ g2 < v5.heap.size ∧ g3 < v5.heap.size ∧ Below w.heap.size w v5 := ⟨y5, (a_x2.kept hb).two (a_x3.kept hb), a_z2.kept hb, a_z3.kept hb, a_u.kept hb, a_r.kept hb, a_pl.kept hb, a_mi.kept hb, (a_x2.kept hb).lt, (a_x3.kept hb).lt, (unhide HW).trans (hb.mono (unhide HW).size)⟩
      subst hv5
      clear hb HW a_x2 a_z2 a_x3 a_z3 a_u a_r a_pl a_mi
      have HW' := hide hW5
      clear hW5
      obtain ⟨c_z20, c_z21, c_z22, c_z23, c_z24⟩ := b_z2.cells
      obtain ⟨c_z30, c_z31, c_z32, c_z33, c_z34⟩ := b_z3.cells
      go_wp2_with fail
      clear c_z20 c_z21 c_z22 c_z23 c_z24 c_z30 c_z31 c_z32 c_z33 c_z34
      have a_z2 : A5 (rowL (rowL v5 g2 42 .u64 [A0, A1, A2, A3, A4] []) g3 42 .u64 [B0, B1, B2, B3, B4] []) h2 Z0 Z1 Z2 Z3 Z4 := (b_z2.other n1.symm).other n4
      have a_z3 : A5 (rowL (rowL v5 g2 42 .u64 [A0, A1, A2, A3, A4] []) g3 42 .u64 [B0, B1, B2, B3, B4] []) h3 Q0 Q1 Q2 Q3 Q4 := (b_z3.other n3.symm).other n6.symm
      have a_u : A5 (rowL (rowL v5 g2 42 .u64 [A0, A1, A2, A3, A4] []) g3 42 .u64 [B0, B1, B2, B3, B4] []) w.heap.size u0 u1 u2 u3 u4 := (b_u.other (by omega)).other (by omega)
      have a_r : A5 (rowL (rowL v5 g2 42 .u64 [A0, A1, A2, A3, A4] []) g3 42 .u64 [B0, B1, B2, B3, B4] []) (w.heap.size + 1) 0 0 0 0 0 := (b_r.other (by omega)).other (by omega)
      have a_pl : A5 (rowL (rowL v5 g2 42 .u64 [A0, A1, A2, A3, A4] []) g3 42 .u64 [B0, B1, B2, B3, B4] []) gp e0 e1 e2 e3 e4 := (b_pl.other (by omega)).other (by omega)
      have a_mi : A5 (rowL (rowL v5 g2 42 .u64 [A0, A1, A2, A3, A4] []) g3 42 .u64 [B0, B1, B2, B3, B4] []) gm f0 f1 f2 f3 f4 := (b_mi.other (by omega)).other (by omega)
      have a_x2 : A5 (rowL (rowL v5 g2 42 .u64 [A0, A1, A2, A3, A4] []) g3 42 .u64 [B0, B1, B2, B3, B4] []) g2 A0 A1 A2 A3 A4 := (A5.put lA5).other n2
      have a_x3 : A5 (rowL (rowL v5 g2 42 .u64 [A0, A1, A2, A3, A4] []) g3 42 .u64 [B0, B1, B2, B3, B4] []) g3 B0 B1 B2 B3 B4 := A5.put (by rw [size_row]; exact lB5)
      have HW : Hid (Below w.heap.size w (rowL (rowL v5 g2 42 .u64 [A0, A1, A2, A3, A4] []) g3 42 .u64 [B0, B1, B2, B3, B4] [])) := hide (below_row _ _ _ _ _ _ (below_row _ _ _ _ _ _ (unhide HW') (by omega)) (by omega))
      clear HW' lA5 lB5 b_z2 b_z3 b_u b_r b_pl b_mi
      refine (swapped_sel t bv (unhide HB) Z0 Z1 Z2 Z3 Z4 Q0 Q1 Q2 Q3 Q4 _ (unhide CZ) (unhide CQ)).mono ?_
      rintro e y6 ⟨⟨D0, D1, D2, D3, D4, E0, E1, E2, E3, E4, rfl, mc, md, mv, mw⟩, hb⟩
      have CD := hide mc
      have CE := hide md
      have VD := hide mv
      have VE := hide mw
      clear mc md mv mw
      obtain ⟨v6, hv6, b_x2, b_x3, b_u, b_r, b_pl, b_mi, lA6, lB6, hW6⟩ : ∃ v6, y6 = rowL (rowL v6 h2 42 .u64 [Z0, Z1, Z2, Z3, Z4] []) h3 42 .u64 [Q0, Q1, Q2, Q3, Q4] [] ∧ A5 v6 g2 A0 A1 A2 A3 A4 ∧ A5 v6 g3 B0 B1 B2 B3 B4 ∧ A5 v6 w.heap.size u0 u1 u2 u3 u4 ∧ A5 v6 (w.heap.size + 1) 0 0 0 0 0 ∧ A5 v6 gp e0 e1 e2 e3 e4 ∧ A5 v6 gm f0 f1 f2 f3 f4 ∧ h2 < v6.heap.size ∧ h3 < v6.heap.size ∧ Below w.heap.size w v6 := ⟨y6, (a_z2.kept hb).two (a_z3.kept hb), a_x2.kept hb, a_x3.kept hb, a_u.kept hb, a_r.kept hb, a_pl.kept hb, a_mi.kept hb, (a_z2.kept hb).lt, (a_z3.kept hb).lt, (unhide HW).trans (hb.mono (unhide HW).size)⟩
      subst hv6
      clear hb HW a_x2 a_z2 a_x3 a_z3 a_u a_r a_pl a_mi
      have HW' := hide hW6
      clear hW6
      go_wp2
      have a_x2 : A5 (rowL (rowL v6 h2 42 .u64 [D0, D1, D2, D3, D4] []) h3 42 .u64 [E0, E1, E2, E3, E4] []) g2 A0 A1 A2 A3 A4 := (b_x2.other n1).other n3
      have a_x3 : A5 (rowL (rowL v6 h2 42 .u64 [D0, D1, D2, D3, D4] []) h3 42 .u64 [E0, E1, E2, E3, E4] []) g3 B0 B1 B2 B3 B4 := (b_x3.other n4.symm).other n6
      have a_u : A5 (rowL (rowL v6 h2 42 .u64 [D0, D1, D2, D3, D4] []) h3 42 .u64 [E0, E1, E2, E3, E4] []) w.heap.size u0 u1 u2 u3 u4 := (b_u.other (by omega)).other (by omega)
      have a_r : A5 (rowL (rowL v6 h2 42 .u64 [D0, D1, D2, D3, D4] []) h3 42 .u64 [E0, E1, E2, E3, E4] []) (w.heap.size + 1) 0 0 0 0 0 := (b_r.other (by omega)).other (by omega)
      have a_pl : A5 (rowL (rowL v6 h2 42 .u64 [D0, D1, D2, D3, D4] []) h3 42 .u64 [E0, E1, E2, E3, E4] []) gp e0 e1 e2 e3 e4 := (b_pl.other (by omega)).other (by omega)
      have a_mi : A5 (rowL (rowL v6 h2 42 .u64 [D0, D1, D2, D3, D4] []) h3 42 .u64 [E0, E1, E2, E3, E4] []) gm f0 f1 f2 f3 f4 := (b_mi.other (by omega)).other (by omega)
      have a_z2 : A5 (rowL (rowL v6 h2 42 .u64 [D0, D1, D2, D3, D4] []) h3 42 .u64 [E0, E1, E2, E3, E4] []) h2 D0 D1 D2 D3 D4 := (A5.put lA6).other n5
      have a_z3 : A5 (rowL (rowL v6 h2 42 .u64 [D0, D1, D2, D3, D4] []) h3 42 .u64 [E0, E1, E2, E3, E4] []) h3 E0 E1 E2 E3 E4 := A5.put (by rw [size_row]; exact lB6)
      have HW : Hid (Below w.heap.size w (rowL (rowL v6 h2 42 .u64 [D0, D1, D2, D3, D4] []) h3 42 .u64 [E0, E1, E2, E3, E4] [])) := hide (below_row _ _ _ _ _ _ (below_row _ _ _ _ _ _ (unhide HW') (by omega)) (by omega))
      clear HW' lA6 lB6 b_x2 b_x3 b_u b_r b_pl b_mi
      obtain ⟨RA, RD, RB, RE⟩ := round_math (unhide Vx) (unhide Vz) (unhide Vp) (unhide Vq) (unhide Va) (unhide Vb) (unhide Vc) (unhide Vd) (unhide Ve) (unhide Vf) (unhide VX) (unhide VZ) (unhide VP) (unhide VQ) (unhide VA) (unhide VB) (unhide VD) (unhide VE)
      have RA' := hide RA
      have RB' := hide RB
      have RD' := hide RD
      have RE' := hide RE
      clear RA RB RD RE Va Vb Vc Vd Ve Vf VX VZ VP VQ VA VB VD VE Vx Vz Vp Vq
      go_roundw
      case rel =>
        rcases i with _ | i
        · have E := (ladEnd_step (V5 u0 u1 u2 u3 u4) (numN (clampB k))).trans (by rw [unhide HT])
          have F : UpRel w g2 h2 g3 h3 u0 u1 u2 u3 u4 (numN (clampB k)) (.int .i64 (-1)) _ := ⟨A0, A1, A2, A3, A4, D0, D1, D2, D3, D4, B0, B1, B2, B3, B4, E0, E1, E2, E3, E4, a_x2, a_z2, a_x3, a_z3, a_u, a_r, unhide HW, unhide CA, unhide CD, unhide CB, unhide CE, .inr ⟨rfl, by rw [E]; exact unhide RA', by rw [E]; exact unhide RD'⟩⟩
          first | exact F | (have G := F; simp at *; exact G) | trace_state
        · have E := (ladAt_step (V5 u0 u1 u2 u3 u4) (numN (clampB k)) i (by omega)).trans (by rw [unhide HT])
          have F : UpRel w g2 h2 g3 h3 u0 u1 u2 u3 u4 (numN (clampB k)) (.int .i64 (i : Int)) _ := ⟨A0, A1, A2, A3, A4, D0, D1, D2, D3, D4, B0, B1, B2, B3, B4, E0, E1, E2, E3, E4, a_x2, a_z2, a_x3, a_z3, a_u, a_r, unhide HW, unhide CA, unhide CD, unhide CB, unhide CE, .inl ⟨i, by omega, rfl, by rw [E]; exact unhide RA', by rw [E]; exact unhide RD', by rw [E]; exact unhide RB', by rw [E]; exact unhide RE'⟩⟩
          first | exact F | (have G := F; simp at *; exact G) | trace_state
      case measure => simp [intOf]
    · have Vx := hide vx
      have Vz := hide vz
      clear vx vz
      obtain ⟨c_X0, c_X1, c_X2, c_X3, c_X4⟩ := qx.cells
      obtain ⟨c_Z0, c_Z1, c_Z2, c_Z3, c_Z4⟩ := qz.cells
      go_wp2_with fail
      refine (divided_any x0 x1 x2 x3 x4 z0 z1 z2 z3 z4 _ (unhide Cx) (unhide Cz)).mono ?_
      rintro e y ⟨⟨r0, r1, r2, r3, r4, rfl, mc, mv⟩, hb⟩
      have Cr := hide mc
      have Vr := hide mv
      have qr' := qr.kept hb
      have HY := hide ((unhide HW).trans (hb.mono (unhide HW).size))
      clear mc mv hb
      obtain ⟨v, hv, lv, hWv⟩ : ∃ v, y = rowL v (w.heap.size + 1) 42 .u64 [0, 0, 0, 0, 0] [] ∧ w.heap.size + 1 < v.heap.size ∧ Below w.heap.size w v := ⟨y, qr'.row, qr'.lt, unhide HY⟩
      clear qr' HY
      subst hv
      go_wp2
      refine bodyPost_ret (v := L5 r0 r1 r2 r3 r4) (by simp [results, Try.results27, go_sem, lv]) rfl ⟨⟨r0, r1, r2, r3, r4, rfl, unhide Cr, ?_⟩, ?_⟩
      · have e1 := unhide Vr
        rw [less_num] at e1
        exact e1.trans (mod_mul (unhide Vx) (mod_pow (unhide Vz) _))
      · exact below_row _ _ _ _ _ _ hWv (by omega)
end Go.Proofs.Ytncplefjokbbjaa
