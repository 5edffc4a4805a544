/- Slices of ints: what they read as, which of them a call made; the laws' helpers over them. -/
import Derived.Test.YtkefbmcipdiieaaGen
import Derived.ProofKit
import Derived.OpenShut
namespace Go.Proofs.Ytkefbmcipdiieaa
open Go.RowKit
open Go.ChangeShapes Go.WideShapes Go.ChangeAt
set_option maxHeartbeats 4000000
set_option maxRecDepth 20000
/-- a slice that reads as these ints -/
def intsV (w : World) (v : Value) (xs : List Int) : Prop :=
  ∃ A cap, v = .slice A xs.length cap ∧ (0 < xs.length → ∃ b off, A = some ⟨b, off, none⟩ ∧ b < w.heap.size ∧ ∀ i, i < xs.length → w.cell? ⟨b, off + i, none⟩ = some (.int .i64 (xs.getD i 0)))
/-- ints in a block of their own, between lo and hi -/
def ownI (lo hi : Nat) (w : World) (v : Value) (xs : List Int) : Prop :=
  (v = .slice none 0 0 ∧ xs = []) ∨ ∃ g cap rest, v = .slice (some ⟨g, 0, none⟩) xs.length cap ∧ lo ≤ g ∧ g < hi ∧ w.heap[g]? = some (rowObj 3 .i64 xs rest) ∧ xs.length ≤ cap
theorem cell_rowO {w : World} {g : Nat} {e : TypeId} {k : IntKind} {xs : List Int} {rest : List Value} (h : w.heap[g]? = some (rowObj e k xs rest)) (i : Nat) (hi : i < xs.length) : w.cell? ⟨g, i, none⟩ = some (.int k (xs.getD i 0)) := by
  rw [← row_same w g e k xs rest h]
  exact cell_row _ _ _ _ _ _ _ hi (Array.getElem?_eq_some_iff.1 h).1
theorem free_rowO {w : World} {g : Nat} {e : TypeId} {k : IntKind} {xs : List Int} {rest : List Value} (h : w.heap[g]? = some (rowObj e k xs rest)) (i : Nat) : w.frozen? ⟨g, i, none⟩ = false := by
  rw [← row_same w g e k xs rest h]
  exact frozen_row _ _ _ _ _ _ _ (Array.getElem?_eq_some_iff.1 h).1
theorem set_rowO {w : World} {g : Nat} {e : TypeId} {k : IntKind} {xs : List Int} {rest : List Value} (h : w.heap[g]? = some (rowObj e k xs rest)) (i : Nat) (x : Int) (hi : i < xs.length) : (w.setCell ⟨g, i, none⟩ (.int k x)).heap[g]? = some (rowObj e k (xs.set i x) rest) := by
  have hb := (Array.getElem?_eq_some_iff.1 h).1
  have := set_row w g e k xs rest i x hi hb
  rw [row_same w g e k xs rest h] at this
  rw [this]
  exact get_row _ _ _ _ _ _ hb
theorem ownI.ints {lo hi : Nat} {w : World} {v : Value} {xs : List Int} (h : ownI lo hi w v xs) : intsV w v xs := by
  obtain ⟨rfl, rfl⟩ | ⟨g, cap, rest, rfl, hg, hh, hc, hcp⟩ := h
  · exact ⟨none, 0, rfl, fun h => by simp at h⟩
  · exact ⟨_, _, rfl, fun _ => ⟨g, 0, rfl, (Array.getElem?_eq_some_iff.1 hc).1, fun i hi => by rw [Nat.zero_add]; exact cell_rowO hc i hi⟩⟩
theorem intsV.below {w w' : World} {v : Value} {xs : List Int} (h : intsV w v xs) (hb : Below w.heap.size w w') : intsV w' v xs := by
  obtain ⟨A, cap, rfl, hc⟩ := h
  refine ⟨A, cap, rfl, fun hn => ?_⟩
  obtain ⟨b, off, rfl, hl, hc⟩ := hc hn
  exact ⟨b, off, rfl, Nat.lt_of_lt_of_le hl hb.size, fun i hi => (cell_below hb hl).trans (hc i hi)⟩
theorem ownI.below {lo hi : Nat} {w w' : World} {v : Value} {xs : List Int} (h : ownI lo hi w v xs) (hb : Below w.heap.size w w') : ownI lo hi w' v xs := by
  obtain h | ⟨g, cap, rest, rfl, hg, hh, hc, hcp⟩ := h
  · exact .inl h
  · exact .inr ⟨g, cap, rest, rfl, hg, hh, (hb.block g (Array.getElem?_eq_some_iff.1 hc).1).trans hc, hcp⟩
theorem ownI.wide {lo hi lo' hi' : Nat} {w : World} {v : Value} {xs : List Int} (h : ownI lo hi w v xs) (h1 : lo' ≤ lo) (h2 : hi ≤ hi') : ownI lo' hi' w v xs := by
  obtain h | ⟨g, cap, rest, rfl, hg, hh, hc, hcp⟩ := h
  · exact .inl h
  · exact .inr ⟨g, cap, rest, rfl, by omega, by omega, hc, hcp⟩
theorem ownI.lies {lo hi : Nat} {w : World} {v : Value} {xs : List Int} (h : ownI lo hi w v xs) : liesIn lo hi v := by
  intro g hg
  obtain ⟨rfl, _⟩ | ⟨g', cap, rest, rfl, h1, h2, _⟩ := h
  · cases hg
  · cases hg; exact ⟨h1, h2⟩
theorem info3 : (Try.prog.info? 3).map (fun i => (i.zero, i.size, i.bytes)) = some (some (.int .i64 0), 1, 8) := by kernel_rfl
theorem make_ints (n : Nat) (hn : n ≤ 2097152) (w : World) : (Instr.makeSlice 22 (.int .i64 (n : Int)) (.int .i64 (n : Int))).run Try.prog w = .ok (.slice (some ⟨w.heap.size, 0, none⟩) n n) (w.alloc (rowObj 3 .i64 (List.replicate n 0) [])) := by
  obtain ⟨k0, hk0, kz0, kz1, kz2⟩ := info_parts info3
  have h := run_makeSlice w (P := Try.prog) 22 3 k0 (.int .i64 0) Try.underlying22 hk0 kz0 .i64 .i64 (n : Int) (n : Int) (by omega) (Int.le_refl _) (by rw [kz1]; omega) (by rw [kz2]; omega) (by omega)
  rw [kz1, Int.toNat_natCast, Nat.mul_one] at h
  rw [h, rowObj]
  congr 3
  apply Array.ext_getElem?
  intro i
  by_cases hi : i < n
  · simp [madeCells, Value.cells, hi, Nat.mod_one]
  · simp [madeCells, Value.cells, hi]
theorem to6 (v : Value) (xs : List Int) (w : World) (hv : intsV w v xs) (hn : xs.length ≤ 2097152) :
    Calls Try.prog 14 #[v] w fun e w' => ∃ r, e = .returned r ∧ ownI w.heap.size w'.heap.size w' r xs ∧ Below w.heap.size w w' := by
  obtain ⟨A, cap, rfl, hc⟩ := hv
  have HC := hide hc
  obtain ⟨n, hnx⟩ : ∃ n, n = xs.length := ⟨_, rfl⟩
  rw [← hnx] at hn HC ⊢
  have HN := hide hnx
  have mk := make_ints n (by omega)
  clear hc hnx
  go_enter Try.func14, Try.ntmps14
  go_wp2
  clear mk
  go_loopw [4] (fun i wr => ∃ j : Nat, j ≤ n ∧ i = .int .i64 j ∧ wr.heap[w.heap.size]? = some (rowObj 3 .i64 (mixL xs (List.replicate n 0) j) []) ∧ Below w.heap.size w wr) (fun i _ => n - (intOf i).toNat)
  case atStart => exact ⟨0, by omega, rfl, by rw [mixL_zero, heap_at _ _ _ rfl], (Below.refl _ _).alloc (Nat.le_refl _) _⟩
  case round =>
    obtain ⟨j, hj, rfl, ho, hbl⟩ := hrel
    by_cases hlt : j < n
    · obtain ⟨b, off, hA, hbb, hcell⟩ := unhide HC (by omega)
      subst hA
      have q1 : (j : Int) < (n : Int) := by omega
      have q0 : (0 : Int) ≤ (j : Int) := by omega
      have hl : (mixL xs (List.replicate n 0) j).length = n := by rw [mixL_len _ _ _ (by simp [unhide HN])]; simp
      have p0 : wr.cell? ⟨b, off + j, none⟩ = some (.int .i64 (xs.getD j 0)) := (cell_below hbl hbb).trans (hcell j hlt)
      have p1 := cell_rowO ho j (by omega)
      have p2 := free_rowO ho j
      have p3 := set_rowO ho j (xs.getD j 0) (by omega)
      rw [mixL_succ _ _ _ (by simp [unhide HN]) (by simpa using hlt)] at p3
      have fin : Hid ((wr.setCell ⟨w.heap.size, j, none⟩ (.int .i64 (xs.getD j 0))).heap[w.heap.size]? = some (rowObj 3 .i64 (mixL xs (List.replicate n 0) (j + 1)) []) ∧ Below w.heap.size w (wr.setCell ⟨w.heap.size, j, none⟩ (.int .i64 (xs.getD j 0)))) := ⟨p3, bl_set hbl (Nat.le_refl _)⟩
      have HJ := hide hlt
      clear ho hbl hcell hbb hl hlt hj p3
      generalize (mixL xs (List.replicate n 0) j).getD j 0 = m0 at *
      generalize xs.getD j 0 = xj at *
      go_wp2
      go_roundw
      case rel => exact ⟨j + 1, unhide HJ, by go_num, (unhide fin).1, (unhide fin).2⟩
      case measure => have := unhide HJ; simp [intOf]; omega
    · obtain rfl : j = n := by omega
      have hm := mixL_all xs (List.replicate j 0) (by simp [unhide HN])
      rw [List.length_replicate] at hm
      rw [hm] at ho
      have HO := hide ho
      have hbel := hide hbl
      clear ho hbl hm
      go_wp2
      go_ret
      refine ⟨_, rfl, .inr ⟨w.heap.size, j, [], ?_, Nat.le_refl _, (Array.getElem?_eq_some_iff.1 (unhide HO)).1, unhide HO, by rw [← unhide HN]; exact Nat.le_refl _⟩, unhide hbel⟩
      rw [← unhide HN]
      rfl
theorem eq8 (a b : Value) (xs : List Int) (w : World) (ha : intsV w a xs) (hb : intsV w b xs) (hn : xs.length ≤ 2097152) :
    Calls Try.prog 21 #[a, b] w fun e w' => e = .returned (.bool true) ∧ ∃ k, w' = w.drewN k := by
  obtain ⟨A, ca, rfl, hc⟩ := ha
  obtain ⟨A2, cb, rfl, hd⟩ := hb
  have HC := hide hc
  have HD := hide hd
  obtain ⟨n, hnx⟩ : ∃ n, n = xs.length := ⟨_, rfl⟩
  rw [← hnx] at hn HC HD ⊢
  clear hc hd hnx
  go_enter Try.func21, Try.ntmps21
  go_wp2
  go_loopw [5] (fun i wr => ∃ j k : Nat, j ≤ n ∧ i = .int .i64 j ∧ wr = w.drewN k) (fun i _ => n - (intOf i).toNat)
  case atStart => exact ⟨0, 0, by omega, rfl, rfl⟩
  case round =>
    obtain ⟨j, k, hj, rfl, rfl⟩ := hrel
    by_cases hlt : j < n
    · obtain ⟨b1, o1, hA, _, hc1⟩ := unhide HC (by omega)
      obtain ⟨b2, o2, hA2, _, hc2⟩ := unhide HD (by omega)
      subst hA hA2
      have q1 : (j : Int) < (n : Int) := by omega
      have q0 : (0 : Int) ≤ (j : Int) := by omega
      have p1 : ∀ k, (w.drewN k).cell? ⟨b1, o1 + j, none⟩ = some (.int .i64 (xs.getD j 0)) := fun k => hc1 j hlt
      have p2 : ∀ k, (w.drewN k).cell? ⟨b2, o2 + j, none⟩ = some (.int .i64 (xs.getD j 0)) := fun k => hc2 j hlt
      have HJ := hide hlt
      clear hc1 hc2 hlt hj
      generalize xs.getD j 0 = xj at *
      go_wp2
      go_quiet (fail)
      rw [show (w.drewN k).drewN nq = w.drewN (k + nq) by simp [World.drewN, Nat.add_assoc]]
      go_wp2
      go_roundw
      case rel => exact ⟨j + 1, _, unhide HJ, by go_num, rfl⟩
      case measure => have := unhide HJ; simp [intOf]; omega
    · obtain rfl : j = n := by omega
      clear hlt
      go_wp2
      go_ret
      exact ⟨rfl, k, rfl⟩
theorem cells3 : Try.prog.cellsOf 3 = 1 := by kernel_rfl
/-- an argument that is a list of ints, opened -/
theorem open_list {H : Type} {enc : TypeId × Value → H} {W : World} {base : Nat} {rc : Reach} {b0 : Nat} {sp : Nat → Bool} {held : Bool} {v : Value} {d : DataW H} {ps : List MemPlace}
    (hval : Value.okWide Try.prog W rc b0 22 v) (h : DataW.Trod enc Try.prog W base sp held 22 v d ps) : ∃ xs : List Int, intsV W v xs ∧ xs.length ≤ maxLen ∧ ∀ x ∈ xs, -9223372036854775808 ≤ x ∧ x ≤ 9223372036854775807 := by
  obtain ⟨A, n, c, rfl⟩ := okWide_slice Try.underlying22 hval
  obtain ⟨fuel, hf⟩ := h
  rcases open_ints Try.underlying22 Try.underlying3 cells3 hf with ⟨hcs, hx⟩ | ⟨a, len', cap', zs, hcs, _, hl, hm, hz, hx, hcell, hwz⟩
  · simp [Value.cells] at hcs
    obtain ⟨rfl, rfl, rfl⟩ := hcs
    exact ⟨[], ⟨none, 0, rfl, fun h => by simp at h⟩, Nat.zero_le _, fun x hx => by cases hx⟩
  · simp [Value.cells] at hcs
    obtain ⟨rfl, rfl, rfl⟩ := hcs
    have hle : n ≤ zs.length := by rw [hz]; split <;> omega
    have hlen : (zs.take n).length = n := by simp; omega
    refine ⟨zs.take n, ⟨some a, c, by rw [hlen], fun h0 => ?_⟩, by rw [hlen]; omega, fun x hx => ?_⟩
    · rw [hlen] at h0
      obtain ⟨b, off, rfl, hc⟩ := ints_at hcell (by omega)
      refine ⟨b, off, rfl, ?_, fun i hi => ?_⟩
      · have h1 := hc 0 (by omega)
        unfold World.cell? at h1
        rw [show (⟨b, off + 0, none⟩ : Addr).block = b from rfl] at h1
        rcases Nat.lt_or_ge b W.heap.size with hl | hl
        · exact hl
        · rw [Array.getElem?_eq_none hl] at h1; cases h1
      · rw [hlen] at hi
        rw [hc i (by omega), List.getD_eq_getElem?_getD, List.getD_eq_getElem?_getD, List.getElem?_take_of_lt hi]
    · have := hwz x (List.mem_of_mem_take hx)
      simp [Lit.wf, IntKind.min, IntKind.max, IntKind.bits, IntKind.signed] at this
      omega
end Go.Proofs.Ytkefbmcipdiieaa
