/- BloomOf: a right filter drawn of bytes. -/
import Derived.Test.YthckgccfjpgbaaaSbm
namespace Go.Proofs.Ythckgccfjpgbaaa
open Go.RowKit
set_option maxHeartbeats 4000000
set_option maxRecDepth 20000
def outE (w : World) (e : Ending) (w' : World) : Prop := ∃ (v : Value) (x : Blm), e = .returned v ∧ okX x = true ∧ blmV w' v x ∧ Below w.heap.size w w'
theorem drawn13 (w : World) (A : Option Addr) (n cap : Nat) (hn : n ≤ maxLen) (hA : codeAt w A n) :
    Calls Try.prog 13 #[.slice A n cap] w fun e w' => outE w e w' := by
  have KB := hide (fun W p h hc => bloom44 W p A n cap h hn hc)
  have KS := hide (fun W => source_any A n cap hn W)
  have B0 : Below w.heap.size w (w.alloc (.cells #[.int .i64 0, .int .i64 0, .slice none 0 0, .slice none 0 0] 26)) := bl_al (Below.refl _ _)
  have N0 := heap_alloc_new w (.cells #[.int .i64 0, .int .i64 0, .slice none 0 0, .slice none 0 0] 26)
  have e0 : (w.alloc (.cells #[.int .i64 0, .int .i64 0, .slice none 0 0, .slice none 0 0] 26)).heap.size = w.heap.size + 1 := by simp
  have hA1 := codeAt_below hA B0
  have HN0 := hide N0
  have HB0 := hide B0
  have HE0 := hide e0
  have HA1 := hide hA1
  have HM := hide hn
  clear B0 N0 e0 hA1 hA hn
  go_enter Try.func13, Try.ntmps13
  go_wp2_with fail
  generalize w.alloc (.cells #[.int .i64 0, .int .i64 0, .slice none 0 0, .slice none 0 0] 26) = w1 at *
  refine (unhide KS w1).mono ?_
  rintro e w2 ⟨rfl, rfl⟩
  have hs : SrcAt (w1.alloc (srcO A n cap 0 ((n % 1000 : Nat) : Int))) w1.heap.size A n cap 0 (w1.alloc (srcO A n cap 0 ((n % 1000 : Nat) : Int))) := ⟨by simp, ⟨0, ((n % 1000 : Nat) : Int), Nat.le_refl _, by omega, by omega, heap_alloc_new w1 _⟩, Lone.refl _ _⟩
  have K1 := hide (unhide KB _ w1.heap.size hs (codeIn_alloc (unhide HA1) _))
  have B2 : Hid (Below w1.heap.size w1 (w1.alloc (srcO A n cap 0 ((n % 1000 : Nat) : Int)))) := hide (bl_al (Below.refl _ _))
  clear hs KB KS
  generalize w1.alloc (srcO A n cap 0 ((n % 1000 : Nat) : Int)) = w2 at *
  go_wp2_with fail
  refine (unhide K1).mono ?_
  rintro e w3 ⟨v, x, lo, hi, rfl, hok, hv, hlo, hl⟩
  have b3 : Below w1.heap.size w1 w3 := hl.below (unhide B2) (Nat.le_refl _) (unhide B2).size
  have n3 := (b3.block w.heap.size (by rw [unhide HE0]; omega)).trans (unhide HN0)
  have B3 := hide (bl_st b3 (unhide HB0))
  obtain ⟨D3, m3, k3, D4, m4, k4, hre⟩ := hv.slices
  subst hre
  have hsz := (unhide B2).size
  have hs0 := unhide HE0
  have OX := hide ((hv.lone (lone_put4 w3 w.heap.size x.p x.w (.slice D3 m3 k3) (.slice D4 m4 k4)) (by omega)).blm)
  have HR := hide (row_put4 n3 x.p x.w (.slice D3 m3 k3) (.slice D4 m4 k4))
  have HOK := hide hok
  have f0 : w3.cell? ⟨w.heap.size, 0, none⟩ = some (.int .i64 0) := row_cell n3
  have f1 : w3.cell? ⟨w.heap.size, 1, none⟩ = some (.int .i64 0) := row_cell n3
  have f2 : w3.cell? ⟨w.heap.size, 2, none⟩ = some (.slice none 0 0) := row_cell n3
  have f3 : w3.cell? ⟨w.heap.size, 3, none⟩ = some (.slice none 0 0) := row_cell n3
  have g0 : w3.frozen? ⟨w.heap.size, 0, none⟩ = false := row_free n3
  have g1 : w3.frozen? ⟨w.heap.size, 1, none⟩ = false := row_free n3
  have g2 : w3.frozen? ⟨w.heap.size, 2, none⟩ = false := row_free n3
  have g3 : w3.frozen? ⟨w.heap.size, 3, none⟩ = false := row_free n3
  clear n3 hv hok hl b3 K1 B2 HN0 HB0 HE0 hsz hs0 hlo
  go_wp2
  refine bodyPost_ret (v := bloV x.p x.w (.slice D3 m3 k3) (.slice D4 m4 k4)) ?_ rfl ⟨_, x, rfl, unhide HOK, unhide OX, bl_put4 (unhide B3) (Nat.le_refl _)⟩
  exact results_cell_row rfl _ _ w.heap.size 26 _ (0, 0) _ rfl (unhide HR) Try.underlying26 rfl (by kernel_rfl)
end Go.Proofs.Ythckgccfjpgbaaa
