/- The number of thirty-two bytes. -/
import Derived.Test.YtncplefjokbbjaaBytes
namespace Go.Proofs.Ytncplefjokbbjaa
/-- the byte at a place, as a number -/
def byteAt (s : ByteArray) (k : Nat) : Int := if h : k < s.size then (s[k].toNat : Int) else 0
theorem byteAt_lt {s : ByteArray} {k : Nat} (h : k < s.size) : byteAt s k = (s[k].toNat : Int) := by simp [byteAt, h]
theorem byteAt_bd (s : ByteArray) (k : Nat) : 0 ≤ byteAt s k ∧ byteAt s k < 256 := by
  unfold byteAt
  split
  · have h := UInt8.toNat_lt s[k]
    omega
  · omega
/-- the number of the first thirty-two bytes -/
def num32 (s : ByteArray) : Int := byteAt s 0 + 256 * byteAt s 1 + 65536 * byteAt s 2 + 16777216 * byteAt s 3 + 4294967296 * byteAt s 4 + 1099511627776 * byteAt s 5 + 281474976710656 * byteAt s 6 + 72057594037927936 * byteAt s 7 + 18446744073709551616 * byteAt s 8 + 4722366482869645213696 * byteAt s 9 + 1208925819614629174706176 * byteAt s 10 + 309485009821345068724781056 * byteAt s 11 + 79228162514264337593543950336 * byteAt s 12 + 20282409603651670423947251286016 * byteAt s 13 + 5192296858534827628530496329220096 * byteAt s 14 + 1329227995784915872903807060280344576 * byteAt s 15 + 340282366920938463463374607431768211456 * byteAt s 16 + 87112285931760246646623899502532662132736 * byteAt s 17 + 22300745198530623141535718272648361505980416 * byteAt s 18 + 5708990770823839524233143877797980545530986496 * byteAt s 19 + 1461501637330902918203684832716283019655932542976 * byteAt s 20 + 374144419156711147060143317175368453031918731001856 * byteAt s 21 + 95780971304118053647396689196894323976171195136475136 * byteAt s 22 + 24519928653854221733733552434404946937899825954937634816 * byteAt s 23 + 6277101735386680763835789423207666416102355444464034512896 * byteAt s 24 + 1606938044258990275541962092341162602522202993782792835301376 * byteAt s 25 + 411376139330301510538742295639337626245683966408394965837152256 * byteAt s 26 + 105312291668557186697918027683670432318895095400549111254310977536 * byteAt s 27 + 26959946667150639794667015087019630673637144422540572481103610249216 * byteAt s 28 + 6901746346790563787434755862277025452451108972170386555162524223799296 * byteAt s 29 + 1766847064778384329583297500742918515827483896875618958121606201292619776 * byteAt s 30 + 452312848583266388373324160190187140051835877600158453279131187530910662656 * byteAt s 31
theorem step0 (c : UInt8) : bits .or .u64 0 (bits .and .u64 (IntKind.u64.wrap (IntKind.u64.wrap (c.toNat : Int))) 2251799813685247) = (c.toNat : Int) := by
  have h := UInt8.toNat_lt c
  rw [IntKind.wrap_u64, IntKind.wrap_u64, Int.emod_eq_of_lt (a := (c.toNat : Int)) (by omega) (by omega), Int.emod_eq_of_lt (a := (c.toNat : Int)) (by omega) (by omega), mask51 _ (by omega) (by omega), u64_or 0 _ (by omega) (by omega) (by omega) (by omega)]
  simp; omega
theorem step8 (c : UInt8) (k : Nat) (m acc : Int) (hm : m = ((2 ^ k : Nat) : Int)) (hm1 : m ≤ 4398046511104) (hm0 : 0 < m) (h0 : 0 ≤ acc) (h : acc < m) :
    bits .or .u64 acc (bits .and .u64 (IntKind.u64.wrap (IntKind.u64.wrap (c.toNat : Int) * m)) 2251799813685247) = acc + (c.toNat : Int) * m := by
  have hc := UInt8.toNat_lt c
  have p0 : 0 ≤ (c.toNat : Int) * m := Int.mul_nonneg (by omega) (by omega)
  have p1 : (c.toNat : Int) * m ≤ 255 * 4398046511104 := Int.mul_le_mul (by omega) hm1 (by omega) (by omega)
  rw [IntKind.wrap_u64, IntKind.wrap_u64, Int.emod_eq_of_lt (a := (c.toNat : Int)) (by omega) (by omega), Int.emod_eq_of_lt (a := (c.toNat : Int) * m) p0 (by omega), mask51 _ p0 (by omega), Int.emod_eq_of_lt p0 (by omega)]
  exact or_join k acc _ h0 (by rw [← hm]; exact h) p0 (by rw [← hm]; exact Int.mul_emod_left _ _) (by omega) (by omega)
theorem stepc (c : UInt8) (k : Nat) (m acc : Int) (hm : m = ((2 ^ k : Nat) : Int)) (hm1 : m ≤ 1125899906842624) (hm0 : 0 < m) (hd : (2251799813685248 : Int) % m = 0) (h0 : 0 ≤ acc) (h : acc < m) :
    bits .or .u64 acc (bits .and .u64 (IntKind.u64.wrap (IntKind.u64.wrap (c.toNat : Int) * m)) 2251799813685247) = acc + (c.toNat : Int) * m % 2251799813685248 := by
  have hc := UInt8.toNat_lt c
  have p0 : 0 ≤ (c.toNat : Int) * m := Int.mul_nonneg (by omega) (by omega)
  have p1 : (c.toNat : Int) * m ≤ 255 * 1125899906842624 := Int.mul_le_mul (by omega) hm1 (by omega) (by omega)
  rw [IntKind.wrap_u64, IntKind.wrap_u64, Int.emod_eq_of_lt (a := (c.toNat : Int)) (by omega) (by omega), Int.emod_eq_of_lt (a := (c.toNat : Int) * m) p0 (by omega), mask51 _ p0 (by omega)]
  exact or_join k acc _ h0 (by rw [← hm]; exact h) (by omega) (by rw [← hm, Int.emod_emod_of_dvd _ (Int.dvd_of_emod_eq_zero hd)]; exact Int.mul_emod_left _ _) (by omega) (by omega)
theorem stepd (c : UInt8) (m : Int) (hm : 0 < m) : bits .or .u64 0 (IntKind.u64.wrap (c.toNat : Int) / m) = (c.toNat : Int) / m := by
  have hc := UInt8.toNat_lt c
  have h1 : 0 ≤ (c.toNat : Int) / m := Int.ediv_nonneg (by omega) (by omega)
  have h2 : (c.toNat : Int) / m ≤ (c.toNat : Int) := Int.ediv_le_self _ (by omega)
  rw [IntKind.wrap_u64, Int.emod_eq_of_lt (a := (c.toNat : Int)) (by omega) (by omega), u64_or 0 _ (by omega) (by omega) h1 (by omega)]
  simp; omega
end Go.Proofs.Ytncplefjokbbjaa
