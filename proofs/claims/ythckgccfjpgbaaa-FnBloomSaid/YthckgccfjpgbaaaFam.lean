/- How many salts let another tag stand where one of some does: no more than twice as many as tags, of the width (by counting). -/
import Derived.Test.YthckgccfjpgbaaaFat
namespace Go.Proofs.Ythckgccfjpgbaaa
open Go.RowKit
set_option maxHeartbeats 4000000
set_option maxRecDepth 20000
theorem cnt_succ (f : Nat → Bool) (n : Nat) : cnt f (n + 1) = cnt f n + (if f n then 1 else 0) := rfl
theorem tot_succ (f : Nat → Nat → Bool) (P a : Nat) : tot f P (a + 1) = tot f P a + cnt (f a) P := rfl
theorem cnt_congr {f g : Nat → Bool} : ∀ {n : Nat}, (∀ i, i < n → f i = g i) → cnt f n = cnt g n
  | 0, _ => rfl
  | n + 1, h => by
    rw [cnt_succ, cnt_succ, cnt_congr fun i hi => h i (by omega), h n (by omega)]
theorem cnt_or (f g : Nat → Bool) : ∀ n, cnt (fun i => f i || g i) n ≤ cnt f n + cnt g n
  | 0 => Nat.le_refl _
  | n + 1 => by
    have := cnt_or f g n
    rw [cnt_succ, cnt_succ, cnt_succ]
    cases f n <;> cases g n <;> simp <;> omega
theorem tot_or (f g : Nat → Nat → Bool) (P : Nat) : ∀ a, tot (fun a b => f a b || g a b) P a ≤ tot f P a + tot g P a
  | 0 => Nat.le_refl _
  | a + 1 => by
    have h1 := tot_or f g P a
    have h2 := cnt_or (f a) (g a) P
    rw [tot_succ, tot_succ, tot_succ]
    omega
theorem tot_congr {f g : Nat → Nat → Bool} {P : Nat} : ∀ {a : Nat}, (∀ i j, i < a → j < P → f i j = g i j) → tot f P a = tot g P a
  | 0, _ => rfl
  | a + 1, h => by
    rw [tot_succ, tot_succ, tot_congr fun i j hi hj => h i j (by omega) hj, cnt_congr fun j hj => h a j (by omega) hj]
/-- to leave one out -/
theorem cnt_but (f : Nat → Bool) (m : Nat) : ∀ n, m < n → cnt f n = cnt (fun i => f i && decide (i ≠ m)) n + (if f m then 1 else 0)
  | 0, h => by omega
  | n + 1, h => by
    by_cases e : m = n
    · subst e
      have : cnt f m = cnt (fun i => f i && decide (i ≠ m)) m := cnt_congr fun i hi => by rw [decide_eq_true (show i ≠ m by omega), Bool.and_true]
      rw [cnt_succ, cnt_succ, this, decide_eq_false (show ¬ m ≠ m by simp), Bool.and_false]
      simp
    · have := cnt_but f m n (by omega)
      rw [cnt_succ, cnt_succ, this, decide_eq_true (show n ≠ m by omega), Bool.and_true]
      omega
/-- a way from numbers to numbers without two alike leads to no more -/
theorem cnt_inj {g : Nat → Nat} : ∀ {n m : Nat} {f : Nat → Bool}, (∀ i, i < n → g i < m) → (∀ i j, i < n → j < n → g i = g j → i = j) → cnt (fun i => f (g i)) n ≤ cnt f m
  | 0, m, f, _, _ => Nat.zero_le _
  | n + 1, m, f, hm, hi => by
    have ih := cnt_inj (n := n) (m := m) (f := fun i => f i && decide (i ≠ g n)) (fun i h => hm i (by omega)) (fun i j h1 h2 e => hi i j (by omega) (by omega) e)
    have e1 : cnt (fun i => f (g i)) n = cnt (fun i => f (g i) && decide (g i ≠ g n)) n := cnt_congr fun i h => by
      rw [decide_eq_true (show g i ≠ g n from fun e => by have := hi i n (by omega) (by omega) e; omega), Bool.and_true]
    rw [cnt_but f (g n) m (hm n (by omega)), cnt_succ, e1]
    omega
/-- numbers that leave c by W -/
theorem cnt_mod {W c : Nat} (hc : c < W) : ∀ n, cnt (fun u => decide (u % W = c)) n = n / W + (if c < n % W then 1 else 0)
  | 0 => by simp [cnt]
  | n + 1 => by
    have hw : 0 < W := by omega
    have hm : n % W < W := Nat.mod_lt _ hw
    have hd := Nat.div_add_mod n W
    rw [cnt_succ, cnt_mod hc n]
    generalize n / W = q at *
    generalize hr : n % W = r at *
    by_cases e : r + 1 = W
    · have e1 : n + 1 = W * (q + 1) := by rw [Nat.mul_add]; omega
      rw [e1, Nat.mul_div_cancel_left _ hw, Nat.mul_mod_right]
      clear e1 hd hr
      simp only [decide_eq_true_eq]
      (repeat' split) <;> omega
    · have e1 : n + 1 = W * q + (r + 1) := by omega
      rw [e1, Nat.mul_add_div hw, Nat.mul_add_mod, Nat.div_eq_of_lt (by omega), Nat.mod_eq_of_lt (by omega)]
      clear e1 hd hr
      simp only [decide_eq_true_eq]
      (repeat' split) <;> omega
theorem cnt_mod_le {W c P : Nat} (hc : c < W) (hW : W ≤ P) : cnt (fun u => decide (u % W = c)) P * W ≤ 2 * P := by
  rw [cnt_mod hc P]
  have h1 : P / W * W ≤ P := Nat.div_mul_le_self P W
  split
  · rw [Nat.add_mul]; omega
  · rw [Nat.add_zero]; omega
/-- pairs as numbers -/
theorem tot_cnt (f : Nat → Nat → Bool) {P : Nat} (hP : 0 < P) : ∀ a, tot f P a = cnt (fun k => f (k / P) (k % P)) (a * P)
  | 0 => by simp [tot, cnt]
  | a + 1 => by
    have key : ∀ b, b ≤ P → cnt (fun k => f (k / P) (k % P)) (a * P + b) = cnt (fun k => f (k / P) (k % P)) (a * P) + cnt (f a) b := by
      intro b
      induction b with
      | zero => intro _; rfl
      | succ b ih =>
        intro hb
        rw [← Nat.add_assoc, cnt_succ, cnt_succ, ih (by omega)]
        have e1 : (a * P + b) / P = a := by rw [Nat.mul_comm, Nat.mul_add_div hP, Nat.div_eq_of_lt (by omega)]; omega
        have e2 : (a * P + b) % P = b := by rw [Nat.mul_comm, Nat.mul_add_mod, Nat.mod_eq_of_lt (by omega)]
        rw [e1, e2]
        omega
    rw [tot_succ, tot_cnt f hP a, show (a + 1) * P = a * P + P by rw [Nat.add_mul]; omega, key P (Nat.le_refl _)]
theorem tot_mod {P W : Nat} (h1 : 1 ≤ W) (h2 : W ≤ P) : ∀ a, tot (fun v u => decide (u % W = v % W)) P a * W ≤ a * (2 * P)
  | 0 => by simp [tot]
  | a + 1 => by
    have ih := tot_mod h1 h2 a
    have hc := cnt_mod_le (W := W) (c := a % W) (Nat.mod_lt _ (by omega)) h2
    rw [tot_succ, Nat.add_mul, Nat.add_mul]
    omega
def cop (P : Nat) : Prop := ∀ d, 0 < d → d < P → Nat.gcd P d = 1
theorem cop_line {P : Nat} (hc : cop P) {a a' t o : Nat} {b b' : Nat} (ha : a < P) (ha' : a' < P) (hb : b < P) (hb' : b' < P) (ht : t < P) (ho : o < P) (hne : t ≠ o)
    (h1 : ((a : Int) * t + b) % (P : Int) = ((a' : Int) * t + b') % (P : Int)) (h2 : ((a : Int) * o + b) % (P : Int) = ((a' : Int) * o + b') % (P : Int)) : a = a' ∧ b = b' := by
  have d1 : (P : Int) ∣ ((a : Int) * t + b) - ((a' : Int) * t + b') := Int.dvd_of_emod_eq_zero (Int.emod_eq_emod_iff_emod_sub_eq_zero.1 h1)
  have d2 : (P : Int) ∣ ((a : Int) * o + b) - ((a' : Int) * o + b') := Int.dvd_of_emod_eq_zero (Int.emod_eq_emod_iff_emod_sub_eq_zero.1 h2)
  have d3 : (P : Int) ∣ ((a : Int) - a') * ((t : Int) - o) := by
    have := Int.dvd_sub d1 d2
    rw [show ((a : Int) * t + b) - ((a' : Int) * t + b') - (((a : Int) * o + b) - ((a' : Int) * o + b')) = ((a : Int) - a') * ((t : Int) - o) by grind] at this
    exact this
  have d4 : P ∣ ((a : Int) - a').natAbs * ((t : Int) - o).natAbs := by
    rw [← Int.natAbs_mul]
    exact Int.ofNat_dvd_left.1 d3
  have hg : Nat.Coprime P ((t : Int) - o).natAbs := hc _ (by omega) (by omega)
  have d5 : P ∣ ((a : Int) - a').natAbs := Nat.Coprime.dvd_of_dvd_mul_right hg d4
  have haa : a = a' := by
    rcases Nat.eq_zero_or_pos ((a : Int) - a').natAbs with h | h
    · omega
    · have := Nat.le_of_dvd h d5
      omega
  subst haa
  refine ⟨rfl, ?_⟩
  have d6 : (P : Int) ∣ (b : Int) - b' := by
    rw [show ((a : Int) * t + b) - ((a : Int) * t + b') = (b : Int) - b' by grind] at d1
    exact d1
  have d7 : P ∣ ((b : Int) - b').natAbs := Int.ofNat_dvd_left.1 d6
  rcases Nat.eq_zero_or_pos ((b : Int) - b').natAbs with h | h
  · omega
  · have := Nat.le_of_dvd h d7
    omega
/-- one other tag: no more than two of the width of all salts -/
theorem one_tag {P W : Nat} (hc : cop P) (hP : 0 < P) (h1 : 1 ≤ W) (h2 : W ≤ P) {t o : Nat} (ht : t < P) (ho : o < P) (hne : t ≠ o) :
    tot (fun a b => decide (plc (P : Int) (W : Int) ((a : Int), (b : Int)) (t : Int) = plc (P : Int) (W : Int) ((a : Int), (b : Int)) (o : Int))) P P * W ≤ P * (2 * P) := by
  refine Nat.le_trans (Nat.mul_le_mul_right _ ?_) (tot_mod h1 h2 P)
  rw [tot_cnt _ hP, tot_cnt _ hP]
  let U : Nat → Nat := fun k => (k / P * t + k % P) % P
  let V : Nat → Nat := fun k => (k / P * o + k % P) % P
  have hU : ∀ k, U k < P := fun k => Nat.mod_lt _ hP
  have hV : ∀ k, V k < P := fun k => Nat.mod_lt _ hP
  have hI := cnt_inj (g := fun k => V k * P + U k) (n := P * P) (m := P * P) (f := fun k => decide (k % P % W = k / P % W)) (fun k _ => by
      have e1 : (V k + 1) * P = V k * P + P := by rw [Nat.add_mul]; omega
      have e2 : (V k + 1) * P ≤ P * P := Nat.mul_le_mul_right _ (hV k)
      have := hU k
      show V k * P + U k < P * P
      omega) (fun i j hi hj e => by
      have e' : V i * P + U i = V j * P + U j := e
      have q1 := (place_at (W := P) (i := V i) (j := U i) (k := V j * P + U j) (hU i)).1 e'
      have q2 := (place_at (W := P) (i := V j) (j := U j) (k := V j * P + U j) (hU j)).1 rfl
      have eV : V i = V j := by rw [q1.1, ← q2.1]
      have eU : U i = U j := by rw [q1.2, ← q2.2]
      have hl := cop_line hc (a := i / P) (a' := j / P) (b := i % P) (b' := j % P) (t := t) (o := o) (Nat.div_lt_of_lt_mul hi) (Nat.div_lt_of_lt_mul hj) (Nat.mod_lt _ hP) (Nat.mod_lt _ hP) ht ho hne (by exact_mod_cast eU) (by exact_mod_cast eV)
      rw [← Nat.div_add_mod i P, ← Nat.div_add_mod j P, hl.1, hl.2])
  refine Nat.le_trans (Nat.le_of_eq (cnt_congr fun k hk => ?_)) hI
  have e1 : (V k * P + U k) / P = V k := by rw [Nat.mul_comm, Nat.mul_add_div hP, Nat.div_eq_of_lt (hU k)]; omega
  have e2 : (V k * P + U k) % P = U k := by rw [Nat.mul_comm, Nat.mul_add_mod, Nat.mod_eq_of_lt (hU k)]
  show _ = decide ((V k * P + U k) % P % W = (V k * P + U k) / P % W)
  rw [e1, e2, decide_eq_decide]
  unfold plc
  dsimp only
  constructor
  · intro h; exact_mod_cast h
  · intro h; exact_mod_cast h
theorem some_tags {P W : Nat} (hc : cop P) (hP : 0 < P) (h1 : 1 ≤ W) (h2 : W ≤ P) {o : Nat} (ho : o < P) (ts : List Int) (ht : ∀ i, i < ts.length → ∃ t : Nat, ts.getD i 0 = (t : Int) ∧ t < P ∧ t ≠ o) :
    ∀ k, k ≤ ts.length → tot (fun a b => (List.range k).any fun i => decide (plc (P : Int) (W : Int) ((a : Int), (b : Int)) (ts.getD i 0) = plc (P : Int) (W : Int) ((a : Int), (b : Int)) (o : Int))) P P * W ≤ k * (P * (2 * P))
  | 0, _ => by
    have : ∀ a, tot (fun _ _ => false) P a = 0 := by
      intro a
      induction a with
      | zero => rfl
      | succ a ih =>
        rw [tot_succ, ih]
        have : ∀ n, cnt (fun _ => false) n = 0 := by
          intro n
          induction n with
          | zero => rfl
          | succ n ih => rw [cnt_succ, ih]; rfl
        rw [this]
    simp [this]
  | k + 1, hk => by
    have ih := some_tags hc hP h1 h2 ho ts ht k (by omega)
    obtain ⟨t, e, htP, hto⟩ := ht k (by omega)
    have h3 := one_tag hc hP h1 h2 htP ho hto
    have h4 := tot_or (fun a b => (List.range k).any fun i => decide (plc (P : Int) (W : Int) ((a : Int), (b : Int)) (ts.getD i 0) = plc (P : Int) (W : Int) ((a : Int), (b : Int)) (o : Int))) (fun a b => decide (plc (P : Int) (W : Int) ((a : Int), (b : Int)) (t : Int) = plc (P : Int) (W : Int) ((a : Int), (b : Int)) (o : Int))) P P
    have h5 := tot_congr (P := P) (a := P) (f := fun a b => (List.range (k + 1)).any fun i => decide (plc (P : Int) (W : Int) ((a : Int), (b : Int)) (ts.getD i 0) = plc (P : Int) (W : Int) ((a : Int), (b : Int)) (o : Int))) (g := fun a b => ((List.range k).any fun i => decide (plc (P : Int) (W : Int) ((a : Int), (b : Int)) (ts.getD i 0) = plc (P : Int) (W : Int) ((a : Int), (b : Int)) (o : Int))) || decide (plc (P : Int) (W : Int) ((a : Int), (b : Int)) (t : Int) = plc (P : Int) (W : Int) ((a : Int), (b : Int)) (o : Int))) (fun a b _ _ => by
      rw [List.range_succ, List.any_append, ← e]
      simp only [List.any_cons, List.any_nil, Bool.or_false])
    rw [h5]
    have h6 := Nat.mul_le_mul_right W h4
    rw [Nat.add_mul] at h6
    rw [Nat.add_mul]
    omega
theorem fsN_le {P W : Nat} (hc : cop P) (hP : 0 < P) (h1 : 1 ≤ W) (h2 : W ≤ P) {o : Nat} (ho : o < P) (ts : List Int) (ht : ∀ i, i < ts.length → ∃ t : Nat, ts.getD i 0 = (t : Int) ∧ t < P ∧ t ≠ o) :
    fsN (P : Int) (W : Int) ts (o : Int) * W ≤ ts.length * (P * (2 * P)) := by
  unfold fsN
  rw [Int.toNat_natCast]
  exact some_tags hc hP h1 h2 ho ts ht ts.length (Nat.le_refl _)
theorem cop11 : cop 11 := by intro d h1 h2; revert h1; revert d; decide
theorem cop13 : cop 13 := by intro d h1 h2; revert h1; revert d; decide
theorem cop31 : cop 31 := by intro d h1 h2; revert h1; revert d; decide
theorem cop61 : cop 61 := by intro d h1 h2; revert h1; revert d; decide
end Go.Proofs.Ythckgccfjpgbaaa
