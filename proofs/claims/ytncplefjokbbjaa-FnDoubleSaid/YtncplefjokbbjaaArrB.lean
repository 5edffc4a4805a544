/- Cells of a block that was laid last. -/
import Derived.Test.YtncplefjokbbjaaArr
namespace Go.Proofs.Ytncplefjokbbjaa
open Go.RowKit
theorem cellE0 (W : World) (n : Nat) (a0 a1 a2 a3 a4 : Int) (h : n = W.heap.size) : (W.alloc (O5 a0 a1 a2 a3 a4)).cell? ⟨n, 0, none⟩ = some (.int .u64 a0) := (A5.new (W := W) (a0 := a0) (a1 := a1) (a2 := a2) (a3 := a3) (a4 := a4) h).cells.1
theorem cellE1 (W : World) (n : Nat) (a0 a1 a2 a3 a4 : Int) (h : n = W.heap.size) : (W.alloc (O5 a0 a1 a2 a3 a4)).cell? ⟨n, 1, none⟩ = some (.int .u64 a1) := (A5.new (W := W) (a0 := a0) (a1 := a1) (a2 := a2) (a3 := a3) (a4 := a4) h).cells.2.1
theorem cellE2 (W : World) (n : Nat) (a0 a1 a2 a3 a4 : Int) (h : n = W.heap.size) : (W.alloc (O5 a0 a1 a2 a3 a4)).cell? ⟨n, 2, none⟩ = some (.int .u64 a2) := (A5.new (W := W) (a0 := a0) (a1 := a1) (a2 := a2) (a3 := a3) (a4 := a4) h).cells.2.2.1
theorem cellE3 (W : World) (n : Nat) (a0 a1 a2 a3 a4 : Int) (h : n = W.heap.size) : (W.alloc (O5 a0 a1 a2 a3 a4)).cell? ⟨n, 3, none⟩ = some (.int .u64 a3) := (A5.new (W := W) (a0 := a0) (a1 := a1) (a2 := a2) (a3 := a3) (a4 := a4) h).cells.2.2.2.1
theorem cellE4 (W : World) (n : Nat) (a0 a1 a2 a3 a4 : Int) (h : n = W.heap.size) : (W.alloc (O5 a0 a1 a2 a3 a4)).cell? ⟨n, 4, none⟩ = some (.int .u64 a4) := (A5.new (W := W) (a0 := a0) (a1 := a1) (a2 := a2) (a3 := a3) (a4 := a4) h).cells.2.2.2.2
end Go.Proofs.Ytncplefjokbbjaa
