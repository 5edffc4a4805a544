/- Bytes cut out of bytes; the specification reads a batch: what it wants. -/
import Derived.Test.YtgdohkemamlnhaaDoorSap
import Derived.Test.YtgdohkemamlnhaaDoorBatB
import Derived.Test.YtgdohkemamlnhaaDoorRw
namespace Go.Proofs.YtgdohkemamlnhaaDoor
open Go.RowKit
set_option maxHeartbeats 4000000
set_option maxRecDepth 20000
theorem slice_cut (A : Option Addr) (cap : Nat) (xs : List Int) (W0 : World) (hv : bytesC W0 (.slice A xs.length cap) xs) (lo hi : Nat) (h1 : lo ≤ hi) (h2 : hi ≤ xs.length) :
    ∃ A', (∀ W, (Instr.slice 22 (.slice A xs.length cap) (some (.int .i64 (lo : Int))) (some (.int .i64 (hi : Int))) none).run Tryd.prog W = .ok (.slice A' (hi - lo) (cap - lo)) W) ∧ bytesC W0 (.slice A' (hi - lo) (cap - lo)) (cut xs lo (hi - lo)) := by
  obtain ⟨A0, cap0, e, hc, hi0, hr⟩ := hv
  simp only [Value.slice.injEq, true_and] at e
  obtain ⟨rfl, rfl⟩ := e
  have cl : (cut xs lo (hi - lo)).length = hi - lo := cut_len xs lo (hi - lo) (by omega)
  have ci := cut_isB hi0 lo (hi - lo)
  have a0 : (0 : Int) ≤ (lo : Int) := by omega
  have a1 : (lo : Int) ≤ (hi : Int) := by omega
  have a2 : (hi : Int) ≤ (cap : Int) := by omega
  rcases hr with ⟨rfl, rfl⟩ | ⟨b, off, rfl, hrow⟩
  · refine ⟨none, fun W => ?_, ⟨none, cap - lo, by rw [cl], by rw [cl]; omega, ci, .inl ⟨rfl, ?_⟩⟩⟩
    · have l0 : lo = 0 := by simp at h2; omega
      have l1 : hi = 0 := by simp at h2; omega
      subst l0 l1
      exact slice_hi none 0 cap 0 (by omega) (by omega) W
    · apply List.length_eq_zero_iff.1; rw [cl]; simp at h2; omega
  · by_cases hcl : cap = lo
    · refine ⟨some ⟨b, off, none⟩, fun W => ?_, ⟨some ⟨b, off, none⟩, cap - lo, by rw [cl], by rw [cl]; omega, ci, .inr ⟨b, off, rfl, ⟨hrow.lt, fun i hi' => ?_⟩⟩⟩⟩
      · have e2 : hi = lo := by omega
        subst hcl e2
        clear h1 h2 hc cl
        go_simp
      · rw [cl] at hi'; omega
    · refine ⟨some ⟨b, off + lo, none⟩, fun W => slice_mid b off xs.length cap lo hi h1 h2 hc (by omega) W, ⟨some ⟨b, off + lo, none⟩, cap - lo, by rw [cl], by rw [cl]; omega, ci, .inr ⟨b, off + lo, rfl, hrow.cut lo (hi - lo)⟩⟩⟩
theorem step_append_oneX (w : World) {ops : Array Oper} {o : Oper} {a : Act} {K : Act → World → Prop} {Q : Exit → Act → World → Prop} {E : Prop} (hgd : o.guard = none) (s x : Operand)
    (ho : o.op = .call { callee := .builtin .append, args := #[s, x], argTypes := #[31, 31] })
    (base k : Nat) (v : Value) (ts : List ByteArray) (hs : a.eval s = v) (hown : w.ownsRow base 9 1 v k (ts.map Value.string)) (b : Nat) (t : ByteArray) (hxv : a.eval x = .slice (some ⟨b, 0, none⟩) 1 1) (hc : w.cell? ⟨b, 0, none⟩ = some (.string t)) (hm : k + 1 ≤ 65536) (hbase : base ≤ w.heap.size)
    (h : ∀ (g c : Nat) (w' : World), w'.ownsRow base 9 1 (.slice (some ⟨g, 0, none⟩) (k + 1) c) (k + 1) ((ts ++ [t]).map Value.string) → w.grownBy w' v.ownBlock → (v.ownBlock = some g ∨ g = w.heap.size) → K (a.put o.dst (.slice (some ⟨g, 0, none⟩) (k + 1) c)) w') :
    if Region.wanted o (yielded ops a.tmps) = true then Oper.wp Tryd.prog o a w K Q else E := by
  have hw : Region.wanted o (yielded ops a.tmps) = true := by simp [Region.wanted, hgd]
  rw [if_pos hw]
  obtain ⟨i0, hi0, hz0, hz1, hz2⟩ := info_parts info9
  obtain ⟨g, c, w', hr, h2, h4, h5, _⟩ := run_append_lies (P := Tryd.prog) w 31 o.type base 9 i0 (.string ⟨#[]⟩) 1 16 Tryd.underlying31 hi0 hz0 hz1 hz2 rfl (by omega) v k (ts.map Value.string) hown ⟨b, 0, none⟩ 1 1 [.string t] rfl (fun j u hj => by
      cases j with
      | zero => simp at hj; subst hj; exact hc
      | succ j => simp at hj) (fun u hu => by simp at hu; subst hu; rfl) (by omega) (by unfold maxLen; omega) (by omega) hbase _ rfl
  unfold Oper.wp execOp
  simp only [ho, resolve, invoke, builtin, Sem.run_bind, Sem.run_pure, Result.andThen_ok, List.map_toArray, List.map_cons, List.map_nil, hs, hxv, hr]
  exact h g c w' (by rw [List.map_append]; exact h2) h4 h5
theorem own_onlyX {w w' : World} {base e size n q : Nat} {v : Value} {xs : List Value} (h : w.ownsRow base e size v n xs) (ho : Only q w w') (hq : v.ownBlock ≠ some q) : w'.ownsRow base e size v n xs := by
  refine ⟨h.1, ?_⟩
  rcases h.2 with h | ⟨g, cap, cur, rfl, hb, hg, h3⟩
  · exact .inl h
  · exact .inr ⟨g, cap, cur, rfl, hb, (ho.block g (Array.getElem?_eq_some_iff.1 hg).1 (fun e => hq (by rw [← e]; rfl))).trans hg, h3⟩
theorem wpAnyH_three {P : Program} {md : Region.Mode} {ops : Array Oper} {Q : Exit → Act → World → Prop} {S : World → Prop} {fuel : Nat} {listed : Array Bool} {a : Act} {w : World} {i j k : Nat} (hr : Region.ready md ops listed = [i, j, k])
    (h1 : wpOp P ops Q i (fun a' w' => S w' ∧ wpAnyH P md ops Q S fuel (listed.setIfInBounds i true) a' w') a w)
    (h2 : wpOp P ops Q j (fun a' w' => S w' ∧ wpAnyH P md ops Q S fuel (listed.setIfInBounds j true) a' w') a w)
    (h3 : wpOp P ops Q k (fun a' w' => S w' ∧ wpAnyH P md ops Q S fuel (listed.setIfInBounds k true) a' w') a w) : wpAnyH P md ops Q S (fuel + 1) listed a w :=
  wpAnyH_all hr (by simp) fun n hn => by
    rcases List.mem_cons.1 hn with rfl | hn
    · exact h1
    · rcases List.mem_cons.1 hn with rfl | hn
      · exact h2
      · obtain rfl : n = k := by simpa using hn
        exact h3
/-- what the specification reads of bytes as a batch -/
def sN (xs : List Int) : Nat := (xs.getD 5 0).toNat
def sZ (xs : List Int) : Nat := (ofL (cut xs 6 2)).toNat
abbrev sR (xs : List Int) : Int := ofL (cut xs 0 4)
abbrev sL (xs : List Int) : Int := xs.getD 4 0
def sI (xs : List Int) (n j : Nat) : List ByteArray := (List.range j).map fun i => strOfNums (cut xs (8 + i * n) n)
theorem sI_succ (xs : List Int) (n j : Nat) : sI xs n (j + 1) = sI xs n j ++ [strOfNums (cut xs (8 + j * n) n)] := by
  unfold sI
  rw [List.range_succ, List.map_append]
  rfl
theorem sI_len (xs : List Int) (n j : Nat) : (sI xs n j).length = j := by simp [sI]
/-- whether there is the form of a batch -/
def sF (xs : List Int) : Prop := sN xs ≤ 64 ∧ sZ xs ≤ 400 ∧ xs.length = 8 + sN xs * sZ xs ∧ ¬ (sN xs = 0 ∧ 0 < sZ xs)
def sFdec (xs : List Int) : Decidable (sF xs) := by unfold sF; infer_instance
def spB (xs : List Int) : (Int × Int × List ByteArray) × Int :=
  if 65536 < xs.length then ((0, 0, []), 2) else
  @ite _ (8 ≤ xs.length ∧ sF xs ∧ okB (sR xs) (sL xs) (sI xs (sZ xs) (sN xs)) = true) (@instDecidableAnd _ _ _ (@instDecidableAnd _ _ (sFdec xs) _)) ((sR xs, sL xs, sI xs (sZ xs) (sN xs)), 0) ((0, 0, []), 3)
end Go.Proofs.YtgdohkemamlnhaaDoor
