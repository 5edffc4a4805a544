/- One frame that comes twice: on lists. -/
import Derived.Test.YthonnlifgdnacaaSam
namespace Go.Proofs.Ythonnlifgdnacaa
set_option linter.unusedVariables false
def bodyT : ByteArray := ⟨#[98, 111, 100, 121]⟩
def moreT : ByteArray := ⟨#[109, 111, 114, 101]⟩
/-- one of two whose run is right -/
structure Pr (p : Pe) : Prop where
  ok : peOK p = true
  s : 0 ≤ p.s ∧ p.s ≤ 101
  e : 0 ≤ p.e ∧ p.e ≤ 100
theorem pr_run (al : List Ta) : Pr (runF al tw0).x ∧ Pr (runF al tw0).y := by
  have h := both_all al
  have r := run_ok al
  have k : ∀ {S T : List ByteArray} {p r : Pe}, Way S p r → Way T r p → peOK p = true → Pr p := fun {S T p r} a b o => by
    have := a.s0
    have := a.len
    have := a.room
    have := b.len
    have := b.room
    refine ⟨o, ⟨a.s0, ?_⟩, by omega, by omega⟩
    rcases a.sub with ⟨e, _⟩ | ⟨_, _, _, _, _, e, _⟩ <;> omega
  exact ⟨k h.a h.b r.1, k h.b h.a r.2⟩
def frK (p : Pe) (d : Nat) : Fr := ⟨p.e + d, p.s + 5, true, bodyT⟩
def nxK (p : Pe) (d : Nat) : Pe := if d = 0 ∧ p.i.length < 100 then ⟨p.q, p.s, p.e + 1, p.i ++ [bodyT]⟩ else p
theorem frK_ok {p : Pe} {d : Nat} (h : Pr p) (hd : d < 2) : frB (frK p d) = true := by
  have := h.s
  have := h.e
  have a : is40 bodyT = true := by decide
  unfold frB frK sqB
  simp only [a, Bool.true_or, Bool.and_true]
  rw [decide_eq_true (by omega : 0 ≤ p.e + (d : Int)), decide_eq_true (by omega : p.e + (d : Int) ≤ 65535), decide_eq_true (by omega : 0 ≤ p.s + 5), decide_eq_true (by omega : p.s + 5 ≤ 65535)]
  rfl
theorem inK {p : Pe} {d : Nat} (h : Pr p) (hd : d < 2) : inF p (frK p d) = nxK p d := by
  have := h.e
  have t : takeF p (frK p d) = nxK p d := by
    unfold takeF nxK frK
    dsimp only
    by_cases c : d = 0 ∧ p.i.length < 100
    · rw [if_pos c, if_pos ⟨rfl, by omega, c.2, by omega⟩]
    · rw [if_neg c, if_neg (fun ⟨_, a, b, _⟩ => c ⟨by omega, b⟩)]
  unfold inF
  rw [t]
  unfold ackF
  rw [if_neg (fun ⟨a, _⟩ => by
    have : (nxK p d).s = p.s := by unfold nxK; split <;> rfl
    rw [this] at a
    have : (frK p d).a = p.s + 5 := rfl
    omega)]
theorem inK2 {p : Pe} {d : Nat} (h : Pr p) (hd : d < 2) : inF (nxK p d) (frK p d) = nxK p d := by
  have := h.e
  have t : takeF (nxK p d) (frK p d) = nxK p d := by
    unfold takeF
    rw [if_neg]
    rintro ⟨_, a, b, _⟩
    unfold nxK frK at a
    unfold nxK at b
    dsimp only at a
    split at a
    · dsimp only at a; omega
    · next c => rw [if_neg c] at b; exact c ⟨by omega, b⟩
  unfold inF
  rw [t]
  unfold ackF
  rw [if_neg (fun ⟨a, _⟩ => by
    have : (nxK p d).s = p.s := by unfold nxK; split <;> rfl
    rw [this] at a
    have : (frK p d).a = p.s + 5 := rfl
    omega)]
theorem nxK_ok {p : Pe} {d : Nat} (h : Pr p) : peOK (nxK p d) = true := by
  have e := h.e
  have o := h.ok
  unfold nxK
  split
  · next c =>
    rw [ok_parts] at o ⊢
    have a : is40 bodyT = true := by decide
    simp only [Bool.and_eq_true, sqB, decide_eq_true_eq, List.all_append, List.all_cons, List.all_nil, a, List.length_append, List.length_cons, List.length_nil] at o ⊢
    obtain ⟨⟨⟨⟨h1, h2⟩, h3, h4⟩, h5, h6⟩, h7, h8⟩ := o
    exact ⟨⟨⟨⟨h1, h2⟩, by omega, h4, trivial, trivial⟩, h5, h6⟩, by omega, by omega⟩
  · exact o
theorem ok_few' {p : Pe} (h : peOK p = true) : peFew p := by
  have := ok_few h
  unfold peFew
  omega
theorem inR1 {p : Pe} {d : Nat} (h : Pr p) (hd : d < 2) : inR p (frK p d) = (nxK p d, 0) := by
  unfold inR
  rw [if_pos ⟨h.ok, frK_ok h hd⟩, inK h hd]
theorem inR2 {p : Pe} {d : Nat} (h : Pr p) (hd : d < 2) : inR (nxK p d) (frK p d) = (nxK p d, 0) := by
  unfold inR
  rw [if_pos ⟨nxK_ok h, frK_ok h hd⟩, inK2 h hd]
theorem sayK {p : Pe} (h : Pr p) : sayR p moreT = sayF p moreT := by
  unfold sayR
  rw [if_neg (by decide), if_pos h.ok]
theorem sayK_ok {p : Pe} (h : Pr p) : peOK (sayF p moreT).1 = true := by
  have o := h.ok
  unfold sayF
  rw [if_neg (by decide)]
  split
  · exact o
  · next c =>
    rw [ok_parts] at o ⊢
    have a : is40 moreT = true := by decide
    simp only [Bool.and_eq_true, sqB, decide_eq_true_eq, List.all_append, List.all_cons, List.all_nil, a, List.length_append, List.length_cons, List.length_nil] at o ⊢
    obtain ⟨⟨⟨⟨h1, h2⟩, h3, h4⟩, h5, h6⟩, h7, h8⟩ := o
    exact ⟨⟨⟨⟨by omega, h2, trivial, trivial⟩, h3, h4⟩, h5, h6⟩, h7, h8⟩
theorem outK {p : Pe} (h : Pr p) : outR (sayF p moreT).1 = (⟨p.s, p.e, true, (sayF p moreT).1.q.getD 0 ⟨#[]⟩⟩, 0) := by
  unfold outR
  rw [if_pos (sayK_ok h)]
  unfold outF sayF
  rw [if_neg (by decide)]
  split
  · next c => rw [show decide (0 < p.q.length) = true from decide_eq_true (by omega)]
  · next c => simp
end Go.Proofs.Ythonnlifgdnacaa
