/- The program's block of ChaCha20: its table of quarters, and rounds. -/
import Derived.Test.YtggiijlgdpkkfaaDoorChaBlock
import Derived.Test.YtggiijlgdpkkfaaDoorTurn
import Derived.Deep.WholeRow
namespace Go.Proofs.YtggiijlgdpkkfaaDoor
open Go.RowKit
set_option maxHeartbeats 4000000
set_option maxRecDepth 20000
def qTab : List Int := [0, 4, 8, 12, 1, 5, 9, 13, 2, 6, 10, 14, 3, 7, 11, 15, 0, 5, 10, 15, 1, 6, 11, 12, 2, 7, 8, 13, 3, 4, 9, 14]
def qArr : Array Value := (qTab.map (Value.int .i64)).toArray
def qA (k : Nat) : Nat := [0, 1, 2, 3, 0, 1, 2, 3].getD k 0
def qB (k : Nat) : Nat := [4, 5, 6, 7, 5, 6, 7, 4].getD k 0
def qC (k : Nat) : Nat := [8, 9, 10, 11, 10, 11, 8, 9].getD k 0
def qD (k : Nat) : Nat := [12, 13, 14, 15, 15, 12, 13, 14].getD k 0
theorem q_facts : ∀ k, k < 8 → qA k < 16 ∧ qB k < 16 ∧ qC k < 16 ∧ qD k < 16 ∧ qA k ≠ qB k ∧ qA k ≠ qC k ∧ qA k ≠ qD k ∧ qB k ≠ qC k ∧ qB k ≠ qD k ∧ qC k ≠ qD k := by decide
def rnd8 (s : List W32) : Nat → List W32
  | 0 => s
  | k + 1 => qL (rnd8 s k) (qA k) (qB k) (qC k) (qD k)
theorem rnd8_len (s : List W32) : ∀ k, (rnd8 s k).length = s.length
  | 0 => rfl
  | k + 1 => by rw [rnd8, qL_len, rnd8_len]
theorem rnd8_all (s : List W32) : rnd8 s 8 = diaQ (colQ s 4) 4 := rfl
theorem index_q (k : Nat) (hk : k < 8) (w : World) : (Instr.index 69 (.agg qArr) (.int .i64 (k : Int))).run Tryd.prog w = .ok (.agg #[.int .i64 (qA k), .int .i64 (qB k), .int .i64 (qC k), .int .i64 (qD k)]) w := by
  obtain rfl | rfl | rfl | rfl | rfl | rfl | rfl | rfl : k = 0 ∨ k = 1 ∨ k = 2 ∨ k = 3 ∨ k = 4 ∨ k = 5 ∨ k = 6 ∨ k = 7 := by omega
  all_goals kernel_rfl
theorem load_q (w : World) (t : TypeId) (fr : Nat × Nat) (hq : w.heap[0]? = some (.cells qArr t fr)) : (loadCellsFrom ⟨0, 0, none⟩ 0 32 #[]).run Tryd.prog w = .ok qArr w := by
  have := run_loadCells_list (P := Tryd.prog) (w := w) ⟨0, 0, none⟩ qArr.toList (fun j v hv => by
    rw [Addr.add_lit, Nat.zero_add, Go.cell_of_row _ _ _ _ _ _ hq]; simpa using hv)
  rw [show qArr.toList.length = 32 from rfl] at this
  simpa [loadCells] using this
end Go.Proofs.YtggiijlgdpkkfaaDoor
