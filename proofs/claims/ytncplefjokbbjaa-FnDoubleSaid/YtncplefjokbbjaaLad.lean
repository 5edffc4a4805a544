/- Going up by a scalar's bits, in numbers: the steps of the ladder. No program in it. -/
import Derived.Test.YtncplefjokbbjaaAddSub
namespace Go.Proofs.Ytncplefjokbbjaa
abbrev St := Int × Int × Int × Int
def dbX (x z : Int) : Int := (x + z) * (x + z) * ((x - z) * (x - z))
def dbZ (x z : Int) : Int := ((x + z) * (x + z) - (x - z) * (x - z)) * ((x + z) * (x + z) + 121665 * ((x + z) * (x + z) - (x - z) * (x - z)))
def smX (x z p q : Int) : Int := ((p - q) * (x + z) + (p + q) * (x - z)) * ((p - q) * (x + z) + (p + q) * (x - z))
def smZ (u x z p q : Int) : Int := u * (((p - q) * (x + z) - (p + q) * (x - z)) * ((p - q) * (x + z) - (p + q) * (x - z)))
def lstep (u : Int) (b : Bool) (s : St) : St :=
  if b then (smX s.1 s.2.1 s.2.2.1 s.2.2.2, smZ u s.1 s.2.1 s.2.2.1 s.2.2.2, dbX s.2.2.1 s.2.2.2, dbZ s.2.2.1 s.2.2.2)
  else (dbX s.1 s.2.1, dbZ s.1 s.2.1, smX s.1 s.2.1 s.2.2.1 s.2.2.2, smZ u s.1 s.2.1 s.2.2.1 s.2.2.2)
/-- the state when bits from 254 down to i have been gone through -/
def lad (u : Int) (k : Nat) : Nat → St
  | 0 => (1, 0, u, 1)
  | t + 1 => lstep u (k.testBit (254 - t)) (lad u k t)
/-- the state ahead of bit i -/
def ladAt (u : Int) (k i : Nat) : St := lad u k (254 - i)
def ladEnd (u : Int) (k : Nat) : St := lad u k 255
theorem ladAt_top (u : Int) (k : Nat) : ladAt u k 254 = (1, 0, u, 1) := rfl
theorem ladAt_step (u : Int) (k i : Nat) (hi : i + 1 ≤ 254) : ladAt u k i = lstep u (k.testBit (i + 1)) (ladAt u k (i + 1)) := by
  unfold ladAt
  rw [show 254 - i = (254 - (i + 1)) + 1 by omega, lad, show 254 - (254 - (i + 1)) = i + 1 by omega]
theorem ladEnd_step (u : Int) (k : Nat) : ladEnd u k = lstep u (k.testBit 0) (ladAt u k 0) := rfl
theorem lstep_t (u : Int) (s : St) : lstep u true s = (smX s.1 s.2.1 s.2.2.1 s.2.2.2, smZ u s.1 s.2.1 s.2.2.1 s.2.2.2, dbX s.2.2.1 s.2.2.2, dbZ s.2.2.1 s.2.2.2) := rfl
theorem lstep_f (u : Int) (s : St) : lstep u false s = (dbX s.1 s.2.1, dbZ s.1 s.2.1, smX s.1 s.2.1 s.2.2.1 s.2.2.2, smZ u s.1 s.2.1 s.2.2.1 s.2.2.2) := rfl
/-- where the ladder ends -/
def up (u : Int) (k : Nat) : Int := (ladEnd u k).1 * (ladEnd u k).2.1 ^ 57896044618658097711785492504343953926634992332820282019728792003956564819947
section
variable {x z p q u x' z' p' q' u' m : Int}
theorem dbX_mod (hx : x % m = x' % m) (hz : z % m = z' % m) : dbX x z % m = dbX x' z' % m := mod_mul (mod_mul (mod_add hx hz) (mod_add hx hz)) (mod_mul (mod_sub hx hz) (mod_sub hx hz))
theorem dbZ_mod (hx : x % m = x' % m) (hz : z % m = z' % m) : dbZ x z % m = dbZ x' z' % m :=
  have e := mod_sub (mod_mul (mod_add hx hz) (mod_add hx hz)) (mod_mul (mod_sub hx hz) (mod_sub hx hz))
  mod_mul e (mod_add (mod_mul (mod_add hx hz) (mod_add hx hz)) (mod_mul rfl e))
theorem smX_mod (hx : x % m = x' % m) (hz : z % m = z' % m) (hp : p % m = p' % m) (hq : q % m = q' % m) : smX x z p q % m = smX x' z' p' q' % m :=
  have e := mod_add (mod_mul (mod_sub hp hq) (mod_add hx hz)) (mod_mul (mod_add hp hq) (mod_sub hx hz))
  mod_mul e e
theorem smZ_mod (hx : x % m = x' % m) (hz : z % m = z' % m) (hp : p % m = p' % m) (hq : q % m = q' % m) (hu : u % m = u' % m) : smZ u x z p q % m = smZ u' x' z' p' q' % m :=
  have e := mod_sub (mod_mul (mod_sub hp hq) (mod_add hx hz)) (mod_mul (mod_add hp hq) (mod_sub hx hz))
  mod_mul hu (mod_mul e e)
end
end Go.Proofs.Ytncplefjokbbjaa
