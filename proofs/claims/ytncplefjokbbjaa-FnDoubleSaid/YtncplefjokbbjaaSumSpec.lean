/- What the sum of two points in limbs is to answer. -/
import Derived.Test.YtncplefjokbbjaaImplB
namespace Go.Proofs.Ytncplefjokbbjaa
open Go.RowKit
def sX (A B x z : Int) : Int := ((x - z) * A + (x + z) * B) * ((x - z) * A + (x + z) * B)
def sZ (u A B x z : Int) : Int := u * (((x - z) * A - (x + z) * B) * ((x - z) * A - (x + z) * B))
def SummedSpec : Prop := ∀ (u0 u1 u2 u3 u4 p0 p1 p2 p3 p4 m0 m1 m2 m3 m4 x0 x1 x2 x3 x4 z0 z1 z2 z3 z4 : Int) (w : World) (_ : Car u0 u1 u2 u3 u4) (_ : Car p0 p1 p2 p3 p4) (_ : Car m0 m1 m2 m3 m4) (_ : Car x0 x1 x2 x3 x4) (_ : Car z0 z1 z2 z3 z4),
    Calls Try.prog 49 #[L5 u0 u1 u2 u3 u4, L5 p0 p1 p2 p3 p4, L5 m0 m1 m2 m3 m4, L5 x0 x1 x2 x3 x4, L5 z0 z1 z2 z3 z4] w fun e w' => (∃ X0 X1 X2 X3 X4 Z0 Z1 Z2 Z3 Z4 : Int, e = .returned (.tuple #[L5 X0 X1 X2 X3 X4, L5 Z0 Z1 Z2 Z3 Z4]) ∧ Car X0 X1 X2 X3 X4 ∧ Car Z0 Z1 Z2 Z3 Z4 ∧ V5 X0 X1 X2 X3 X4 % pInt = (sX (V5 p0 p1 p2 p3 p4) (V5 m0 m1 m2 m3 m4) (V5 x0 x1 x2 x3 x4) (V5 z0 z1 z2 z3 z4)) % pInt ∧ V5 Z0 Z1 Z2 Z3 Z4 % pInt = (sZ (V5 u0 u1 u2 u3 u4) (V5 p0 p1 p2 p3 p4) (V5 m0 m1 m2 m3 m4) (V5 x0 x1 x2 x3 x4) (V5 z0 z1 z2 z3 z4)) % pInt) ∧ Below w.heap.size w w'
end Go.Proofs.Ytncplefjokbbjaa
