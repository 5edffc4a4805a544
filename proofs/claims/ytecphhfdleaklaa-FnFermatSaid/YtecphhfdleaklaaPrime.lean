/- Fermat's little theorem, and that 2 to the 255 less 19 is a prime (certificates after Pocklington), from nothing. -/
namespace Go.Proofs.Ytecphhfdleaklaa
def Prm (n : Nat) : Prop := 2 ≤ n ∧ ∀ d, d ∣ n → d = 1 ∨ d = n
theorem cop_of_prm {p a : Nat} (hp : Prm p) (h : ¬ p ∣ a) : Nat.Coprime p a := by
  rcases hp.2 (Nat.gcd p a) (Nat.gcd_dvd_left p a) with e | e
  · exact e
  · exact absurd (e ▸ Nat.gcd_dvd_right p a) h
theorem prm_mul {p a b : Nat} (hp : Prm p) (h : p ∣ a * b) : p ∣ a ∨ p ∣ b := by
  by_cases ha : p ∣ a
  · exact .inl ha
  · exact .inr ((cop_of_prm hp ha).dvd_of_dvd_mul_left h)
/-- the least number above nought with a property -/
theorem least (P : Nat → Prop) : ∀ n, 0 < n → P n → ∃ d, 0 < d ∧ P d ∧ ∀ m, 0 < m → P m → d ≤ m := by
  intro n
  induction n using Nat.strongRecOn with
  | ind n ih =>
    intro h0 hn
    by_cases h : ∃ m, m < n ∧ 0 < m ∧ P m
    · obtain ⟨m, hm, h1, h2⟩ := h
      exact ih m hm h1 h2
    · exact ⟨n, h0, hn, fun m h1 h2 => Nat.le_of_not_lt fun h3 => h ⟨m, h3, h1, h2⟩⟩
theorem has_prm (n : Nat) (hn : 2 ≤ n) : ∃ r, Prm r ∧ r ∣ n := by
  obtain ⟨d, _, ⟨h2, hd⟩, hmin⟩ := least (fun d => 2 ≤ d ∧ d ∣ n) n (by omega) ⟨hn, Nat.dvd_refl n⟩
  refine ⟨d, ⟨h2, fun e he => ?_⟩, hd⟩
  have hpos : 0 < e := Nat.pos_of_dvd_of_pos he (by omega)
  have hle : e ≤ d := Nat.le_of_dvd (by omega) he
  by_cases h1 : e = 1
  · exact .inl h1
  · have := hmin e hpos ⟨by omega, Nat.dvd_trans he hd⟩
    exact .inr (by omega)
def prodL : List Nat → Nat
  | [] => 1
  | a :: l => a * prodL l
theorem prodL_perm {l m : List Nat} (h : l.Perm m) : prodL l = prodL m := by
  induction h with
  | nil => rfl
  | cons x _ ih => simp only [prodL, ih]
  | swap x y l => simp only [prodL]; rw [← Nat.mul_assoc, Nat.mul_comm y x, Nat.mul_assoc]
  | trans _ _ h1 h2 => exact h1.trans h2
theorem perm_of {l : List Nat} : ∀ {m : List Nat}, l.Nodup → (∀ x ∈ l, x ∈ m) → m.length ≤ l.length → l.Perm m := by
  induction l with
  | nil =>
    intro m _ _ h
    have : m = [] := List.eq_nil_of_length_eq_zero (by simpa using h)
    rw [this]
  | cons x l ih =>
    intro m hn hs hl
    have hx : x ∈ m := hs x (List.mem_cons_self ..)
    have hp := List.perm_cons_erase hx
    obtain ⟨hxl, hnl⟩ := List.nodup_cons.1 hn
    refine (List.Perm.cons x (ih hnl (fun y hy => ?_) ?_)).trans hp.symm
    · exact (List.mem_erase_of_ne (a := y) (b := x) (fun e : y = x => hxl (e ▸ hy))).2 (hs y (List.mem_cons_of_mem _ hy))
    · rw [List.length_erase_of_mem hx]; simp only [List.length_cons] at hl; omega
theorem prodL_map (a p : Nat) : ∀ l : List Nat, prodL (l.map fun x => a * x % p) % p = a ^ l.length * prodL l % p
  | [] => by simp [prodL]
  | x :: l => by
    simp only [List.map_cons, prodL, List.length_cons]
    rw [Nat.mul_mod, Nat.mod_mod, prodL_map a p l, ← Nat.mul_mod, Nat.pow_succ]
    congr 1
    rw [Nat.mul_comm (a ^ l.length) a, Nat.mul_assoc, Nat.mul_assoc, Nat.mul_left_comm x]
theorem prodL_cop {p : Nat} (hp : Prm p) : ∀ l : List Nat, (∀ x ∈ l, ¬ p ∣ x) → Nat.Coprime p (prodL l)
  | [], _ => Nat.coprime_one_right p
  | x :: l, h => Nat.Coprime.mul_right (cop_of_prm hp (h x (List.mem_cons_self ..))) (prodL_cop hp l fun y hy => h y (List.mem_cons_of_mem _ hy))
theorem cancel {p x P : Nat} (hp : 2 ≤ p) (hx : 0 < x) (hc : Nat.Coprime p P) (h : x * P % p = P % p) : x % p = 1 := by
  have h1 : p ∣ x * P - P := Nat.dvd_of_mod_eq_zero (Nat.sub_mod_eq_zero_of_mod_eq h)
  have h2 : x * P - P = (x - 1) * P := by rw [Nat.sub_mul, Nat.one_mul]
  rw [h2] at h1
  obtain ⟨k, hk⟩ := hc.dvd_of_dvd_mul_right h1
  have : x = p * k + 1 := by omega
  rw [this, Nat.mul_add_mod, Nat.mod_eq_of_lt (by omega)]
theorem nodup_map {l : List Nat} {f : Nat → Nat} (hn : l.Nodup) (hf : ∀ x ∈ l, ∀ y ∈ l, f x = f y → x = y) : (l.map f).Nodup := by
  induction l with
  | nil => simp
  | cons x l ih =>
    obtain ⟨hx, hl⟩ := List.nodup_cons.1 hn
    rw [List.map_cons, List.nodup_cons]
    refine ⟨fun hm => ?_, ih hl fun a ha b hb => hf a (List.mem_cons_of_mem _ ha) b (List.mem_cons_of_mem _ hb)⟩
    obtain ⟨y, hy, e⟩ := List.mem_map.1 hm
    exact hx (hf y (List.mem_cons_of_mem _ hy) x (List.mem_cons_self ..) e ▸ hy)
/-- Fermat's little theorem -/
theorem fermat {p a : Nat} (hp : Prm p) (ha : ¬ p ∣ a) : a ^ (p - 1) % p = 1 := by
  have h2 := hp.1
  have hmem : ∀ x ∈ List.range' 1 (p - 1), 1 ≤ x ∧ x < p := fun x hx => by
    rw [List.mem_range'_1] at hx; omega
  have hnd : ∀ x ∈ List.range' 1 (p - 1), ¬ p ∣ x := fun x hx hd => by
    have := hmem x hx
    have := Nat.le_of_dvd (by omega) hd
    omega
  have hperm : ((List.range' 1 (p - 1)).map fun x => a * x % p).Perm (List.range' 1 (p - 1)) := by
    refine perm_of (nodup_map List.nodup_range' ?_) ?_ (by simp)
    · have key : ∀ x y, x ≤ y → y < p → a * x % p = a * y % p → x = y := fun x y hxy hy e => by
        have h1 : p ∣ a * y - a * x := Nat.dvd_of_mod_eq_zero (Nat.sub_mod_eq_zero_of_mod_eq e.symm)
        rw [← Nat.mul_sub] at h1
        rcases prm_mul hp h1 with h | h
        · exact absurd h ha
        · rcases Nat.eq_zero_or_pos (y - x) with h0 | h0
          · omega
          · have := Nat.le_of_dvd h0 h; omega
      intro x hx y hy e
      have hx' := hmem x hx
      have hy' := hmem y hy
      rcases Nat.le_total x y with h | h
      · exact key x y h hy'.2 e
      · exact (key y x h hx'.2 e.symm).symm
    · intro z hz
      obtain ⟨x, hx, rfl⟩ := List.mem_map.1 hz
      rw [List.mem_range'_1]
      have hlt : a * x % p < p := Nat.mod_lt _ (by omega)
      have hne : a * x % p ≠ 0 := fun e => by
        rcases prm_mul hp (Nat.dvd_of_mod_eq_zero e) with h | h
        · exact ha h
        · exact hnd x hx h
      omega
  have h3 := prodL_map a p (List.range' 1 (p - 1))
  rw [prodL_perm hperm, List.length_range'] at h3
  have hpos : 0 < a := Nat.pos_of_ne_zero fun e => ha (e ▸ Nat.dvd_zero p)
  exact cancel h2 (Nat.pow_pos hpos) (prodL_cop hp _ hnd) h3.symm
theorem pow_cycle {r b d : Nat} (hd : b ^ d % r = 1) (hr : 2 ≤ r) (n : Nat) : b ^ n % r = b ^ (n % d) % r := by
  have h1 : ∀ k, b ^ (d * k) % r = 1 := fun k => by
    induction k with
    | zero => rw [Nat.mul_zero, Nat.pow_zero, Nat.mod_eq_of_lt (by omega)]
    | succ k ih => rw [Nat.mul_succ, Nat.pow_add, Nat.mul_mod, ih, hd, Nat.mul_one, Nat.mod_eq_of_lt (by omega)]
  rw [← Nat.div_add_mod n d, Nat.pow_add, Nat.mul_mod, h1, Nat.one_mul, Nat.mod_mod, Nat.mul_add_mod, Nat.mod_mod]
/-- one prime of the certificate -/
theorem cert_one {N B q r : Nat} (hq : Prm q) (hB : B ^ q % N = 1) (hg : Nat.gcd (B - 1) N = 1) (hr : Prm r) (hrN : r ∣ N) : q ∣ r - 1 := by
  have h2 := hr.1
  have hBr : B ^ q % r = 1 := by
    have : B ^ q % N % r = B ^ q % r := Nat.mod_mod_of_dvd _ hrN
    rw [← this, hB, Nat.mod_eq_of_lt (by omega)]
  have hne : B % r ≠ 1 := fun e => by
    have h3 : r ∣ B - 1 := by
      have h4 : B % r = 1 % r := by rw [e, Nat.mod_eq_of_lt (by omega)]
      exact Nat.dvd_of_mod_eq_zero (Nat.sub_mod_eq_zero_of_mod_eq h4)
    have h5 : r ∣ 1 := hg ▸ Nat.dvd_gcd h3 hrN
    have := Nat.le_of_dvd (by omega) h5
    omega
  have hnd : ¬ r ∣ B := fun h => by
    have : r ∣ B ^ q := by
      have hq0 : q ≠ 0 := by have := hq.1; omega
      obtain ⟨k, rfl⟩ : ∃ k, q = k + 1 := ⟨q - 1, by omega⟩
      rw [Nat.pow_succ]; exact Nat.dvd_trans h (Nat.dvd_mul_left _ _)
    rw [Nat.mod_eq_zero_of_dvd this] at hBr
    omega
  have hf := fermat hr hnd
  obtain ⟨d, hd0, hd1, hmin⟩ := least (fun d => B ^ d % r = 1) q (by have := hq.1; omega) hBr
  have hdiv : ∀ n, B ^ n % r = 1 → d ∣ n := fun n hn => by
    rw [pow_cycle hd1 h2 n] at hn
    rcases Nat.eq_zero_or_pos (n % d) with h0 | h0
    · exact Nat.dvd_of_mod_eq_zero h0
    · have := hmin _ h0 hn
      have := Nat.mod_lt n hd0
      omega
  rcases hq.2 d (hdiv q hBr) with e | e
  · rw [e, Nat.pow_one] at hd1; exact absurd hd1 hne
  · rw [← e]; exact hdiv _ hf
theorem prm_of {N F : Nat} (hN : 2 ≤ N) (hF : ∀ r, Prm r → r ∣ N → F ∣ r - 1) (hb : N < (F + 1) * (F + 1)) : Prm N := by
  refine ⟨hN, fun d hd => ?_⟩
  by_cases h1 : d = 1
  · exact .inl h1
  · obtain ⟨e, he⟩ := hd
    by_cases he1 : e = 1
    · exact .inr (by rw [he, he1, Nat.mul_one])
    · exfalso
      have hd0 : d ≠ 0 := fun h => by rw [h, Nat.zero_mul] at he; omega
      have he0 : e ≠ 0 := fun h => by rw [h, Nat.mul_zero] at he; omega
      obtain ⟨r, hr, hrd⟩ := has_prm d (by omega)
      obtain ⟨s, hs, hse⟩ := has_prm e (by omega)
      have hr1 := Nat.le_of_dvd (by have := hr.1; omega) (hF r hr (Nat.dvd_trans hrd ⟨e, he⟩))
      have hs1 := Nat.le_of_dvd (by have := hs.1; omega) (hF s hs (Nat.dvd_trans hse ⟨d, by rw [he, Nat.mul_comm]⟩))
      have hrd' := Nat.le_of_dvd (by omega) hrd
      have hse' := Nat.le_of_dvd (by omega) hse
      have := Nat.mul_le_mul (show F + 1 ≤ d by omega) (show F + 1 ≤ e by omega)
      omega
def pmGo : Nat → Nat → Nat → Nat → Nat
  | 0, _, _, n => 1 % n
  | f + 1, b, e, n => if e = 0 then 1 % n else if e % 2 = 1 then b * pmGo f (b * b % n) (e / 2) n % n else pmGo f (b * b % n) (e / 2) n
theorem pmGo_eq : ∀ f b e n, e < 2 ^ f → pmGo f b e n = b ^ e % n
  | 0, b, e, n, h => by
    have : e = 0 := by simpa using h
    rw [this, pmGo, Nat.pow_zero]
  | f + 1, b, e, n, h => by
    have hpow : (b * b % n) ^ (e / 2) % n = b ^ (2 * (e / 2)) % n := by rw [← Nat.pow_mod, ← Nat.pow_two, ← Nat.pow_mul]
    rw [pmGo]
    split
    · rename_i h0; rw [h0, Nat.pow_zero]
    · split
      · rename_i h1
        rw [pmGo_eq f _ _ n (by rw [Nat.pow_succ] at h; omega), hpow, Nat.mul_mod_mod]
        congr 1
        have : e = 2 * (e / 2) + 1 := by omega
        conv => rhs; rw [this, Nat.pow_succ, Nat.mul_comm]
      · rename_i h1
        rw [pmGo_eq f _ _ n (by rw [Nat.pow_succ] at h; omega), hpow]
        congr 2
        omega
theorem small_prm (n m : Nat) (hn : 2 ≤ n) (hm : n < m * m) (h : ((List.range m).all fun d => decide (d < 2) || decide (n % d ≠ 0)) = true) : Prm n := by
  have hall : ∀ d, 2 ≤ d → d < m → ¬ d ∣ n := fun d h2 hd hdn => by
    have := List.all_eq_true.1 h d (List.mem_range.2 hd)
    simp only [Bool.or_eq_true, decide_eq_true_eq] at this
    rcases this with h | h
    · omega
    · exact h (Nat.mod_eq_zero_of_dvd hdn)
  refine ⟨hn, fun d hd => ?_⟩
  by_cases h1 : d = 1
  · exact .inl h1
  · obtain ⟨e, he⟩ := hd
    by_cases he1 : e = 1
    · exact .inr (by rw [he, he1, Nat.mul_one])
    · exfalso
      have hd0 : d ≠ 0 := fun h => by rw [h, Nat.zero_mul] at he; omega
      have he0 : e ≠ 0 := fun h => by rw [h, Nat.mul_zero] at he; omega
      have hdm : m ≤ d := Nat.le_of_not_lt fun h => hall d (by omega) h ⟨e, he⟩
      have hem : m ≤ e := Nat.le_of_not_lt fun h => hall e (by omega) h ⟨d, by rw [he, Nat.mul_comm]⟩
      have := Nat.mul_le_mul hdm hem
      omega
theorem mul_dvd {a b n : Nat} (hc : Nat.Coprime a b) (ha : a ∣ n) (hb : b ∣ n) : a * b ∣ n := Nat.Coprime.mul_dvd_of_dvd_of_dvd hc ha hb
theorem by_two {N F q1 q2 B1 B2 : Nat} (hN : 2 ≤ N) (h1 : Prm q1) (h2 : Prm q2) (hc : Nat.gcd q1 q2 = 1) (hF : F = q1 * q2)
    (e1 : pmGo 256 B1 q1 N = 1) (l1 : q1 < 2 ^ 256) (g1 : Nat.gcd (B1 - 1) N = 1) (e2 : pmGo 256 B2 q2 N = 1) (l2 : q2 < 2 ^ 256) (g2 : Nat.gcd (B2 - 1) N = 1) (hb : N < (F + 1) * (F + 1)) : Prm N := by
  refine prm_of hN (fun r hr hrN => ?_) hb
  rw [hF]
  exact mul_dvd hc (cert_one h1 (by rw [← pmGo_eq 256 _ _ _ l1]; exact e1) g1 hr hrN) (cert_one h2 (by rw [← pmGo_eq 256 _ _ _ l2]; exact e2) g2 hr hrN)
theorem prm_a : Prm 8574133 := small_prm 8574133 2930 (by decide) (by decide) (by decide +kernel)
theorem prm_b : Prm 127 := small_prm 127 12 (by decide) (by decide) (by decide +kernel)
theorem prm_c : Prm 75707 := small_prm 75707 276 (by decide) (by decide) (by decide +kernel)
theorem prm_d : Prm 132049 := small_prm 132049 364 (by decide) (by decide) (by decide +kernel)
theorem prm_e : Prm 1919519569386763 := by_two (F := 8574133 * 127) (B1 := 1059928654987441) (B2 := 576774792492622) (by decide) prm_a prm_b (by decide +kernel) rfl (by decide +kernel) (by decide +kernel) (by decide +kernel) (by decide +kernel) (by decide +kernel) (by decide +kernel) (by decide +kernel)
theorem prm_f : Prm 75445702479781427272750846543864801 := by_two (F := 1919519569386763 * 75707) (B1 := 56747016255153332959347766392083459) (B2 := 58781699294900834553279248901967638) (by decide +kernel) prm_e prm_c (by decide +kernel) rfl (by decide +kernel) (by decide +kernel) (by decide +kernel) (by decide +kernel) (by decide +kernel) (by decide +kernel) (by decide +kernel)
theorem prm_g : Prm 74058212732561358302231226437062788676166966415465897661863160754340907 := by_two (F := 75445702479781427272750846543864801 * 132049) (B1 := 69490809710348678725736597923071784769591275419387514694139338586948360) (B2 := 54871647690314810166557542068595163151590274869528630571075996285882505) (by decide +kernel) prm_f prm_d (by decide +kernel) rfl (by decide +kernel) (by decide +kernel) (by decide +kernel) (by decide +kernel) (by decide +kernel) (by decide +kernel) (by decide +kernel)
theorem by_one {N q B : Nat} (hN : 2 ≤ N) (h1 : Prm q) (e1 : pmGo 256 B q N = 1) (l1 : q < 2 ^ 256) (g1 : Nat.gcd (B - 1) N = 1) (hb : N < (q + 1) * (q + 1)) : Prm N :=
  prm_of hN (fun _ hr hrN => cert_one h1 (by rw [← pmGo_eq 256 _ _ _ l1]; exact e1) g1 hr hrN) hb
/-- 2 to the 255 less 19 is a prime -/
theorem prm_p : Prm 57896044618658097711785492504343953926634992332820282019728792003956564819949 :=
  by_one (B := 427094198651976259540344842774561673889945192655078505504941250475370961481) (by decide +kernel) prm_g (by decide +kernel) (by decide +kernel) (by decide +kernel) (by decide +kernel)
#print axioms prm_p
end Go.Proofs.Ytecphhfdleaklaa
