/- Going up in limbs, whole. -/
import Derived.Test.YtncplefjokbbjaaGoneUp
import Derived.Test.YtncplefjokbbjaaCurveE
namespace Go.Proofs.Ytncplefjokbbjaa
open Go.RowKit
theorem goneUp_any (k : ByteArray) (hk : k.size = 32) (u0 u1 u2 u3 u4 : Int) (w : World) (hu : Car u0 u1 u2 u3 u4) :
    Calls Try.prog 27 #[.string k, L5 u0 u1 u2 u3 u4] w fun e w' => (∃ X0 X1 X2 X3 X4 : Int, e = .returned (L5 X0 X1 X2 X3 X4) ∧ Car X0 X1 X2 X3 X4 ∧ V5 X0 X1 X2 X3 X4 % pInt = up (V5 u0 u1 u2 u3 u4) (numN (clampB k)) % pInt) ∧ Below w.heap.size w w' :=
  goneUp_of (fun u0 u1 u2 u3 u4 p0 p1 p2 p3 p4 m0 m1 m2 m3 m4 x0 x1 x2 x3 x4 z0 z1 z2 z3 z4 w hu hp hm hx hz => summed_any u0 u1 u2 u3 u4 p0 p1 p2 p3 p4 m0 m1 m2 m3 m4 x0 x1 x2 x3 x4 z0 z1 z2 z3 z4 w hu hp hm hx hz) k hk u0 u1 u2 u3 u4 w hu
end Go.Proofs.Ytncplefjokbbjaa
