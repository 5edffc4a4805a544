/- Contracts of the model's doubling and summing of points. -/
import Derived.Test.YtncplefjokbbjaaOpInv
import Derived.Test.YtncplefjokbbjaaLad
namespace Go.Proofs.Ytncplefjokbbjaa
open Go.RowKit
set_option maxHeartbeats 1600000
theorem add_k (w : World) (ba bb ca cb : Nat) (u v : Int) (ha : Row10 w ba u) (hb : Row10 w bb v) :
    Calls Try.prog 55 #[.slice (some ⟨ba, 0, none⟩) 10 ca, .slice (some ⟨bb, 0, none⟩) 10 cb] w fun e w' => ∃ k, e = .returned (.slice (some ⟨k, 0, none⟩) 10 10) ∧ w.heap.size ≤ k ∧ Below w.heap.size w w' ∧ Row10 w' k (u + v) :=
  (add_any w ba bb ca cb u v ha hb).mono fun _ _ ⟨h1, h2, h3⟩ => ⟨_, h1, Nat.le_refl _, h2, h3⟩
theorem sub_k (w : World) (ba bb ca cb : Nat) (u v : Int) (ha : Row10 w ba u) (hb : Row10 w bb v) :
    Calls Try.prog 56 #[.slice (some ⟨ba, 0, none⟩) 10 ca, .slice (some ⟨bb, 0, none⟩) 10 cb] w fun e w' => ∃ k, e = .returned (.slice (some ⟨k, 0, none⟩) 10 10) ∧ w.heap.size ≤ k ∧ Below w.heap.size w w' ∧ Row10 w' k (u - v) :=
  (sub_any w ba bb ca cb u v ha hb).mono fun _ _ ⟨h1, h2, h3⟩ => ⟨_, h1, Nat.le_refl _, h2, h3⟩
theorem k10 (w : World) : Row10 (w.alloc (.cells #[.int .i64 121665, .int .i64 0, .int .i64 0, .int .i64 0, .int .i64 0, .int .i64 0, .int .i64 0, .int .i64 0, .int .i64 0, .int .i64 0] 3)) w.heap.size 121665 :=
  ⟨121665, 0, 0, 0, 0, 0, 0, 0, 0, 0, [], by rw [heap_alloc_new]; rfl, by unfold In26; omega, by unfold V10; rfl⟩
theorem ldouble_any (w : World) (bx bz cx cz : Nat) (x z : Int) (hx : Row10 w bx x) (hz : Row10 w bz z) :
    Calls Try.prog 38 #[.slice (some ⟨bx, 0, none⟩) 10 cx, .slice (some ⟨bz, 0, none⟩) 10 cz] w fun e w' => ∃ kx kz, e = .returned (.tuple #[.slice (some ⟨kx, 0, none⟩) 10 10, .slice (some ⟨kz, 0, none⟩) 10 10]) ∧ Below w.heap.size w w' ∧ Row10 w' kx (dbX x z) ∧ Row10 w' kz (dbZ x z) := by
  have hm := make10
  have Qx := hide hx
  have Qz := hide hz
  clear hx hz
  go_enter Try.func38, Try.ntmps38
  go_wp2_with fail
  refine (add_k _ bx bz cx cz _ _ (unhide Qx) (unhide Qz)).mono ?_
  rintro e w1 ⟨k1, rfl, _, hb, hr⟩
  have Qx' := hide ((unhide Qx).kept hb)
  clear Qx
  have Qx := Qx'
  clear Qx'
  have Qz' := hide ((unhide Qz).kept hb)
  clear Qz
  have Qz := Qz'
  clear Qz'
  have Qa : Hid (Row10 w1 k1 (x + z)) := hide hr
  have B1 := hide hb
  clear hb hr
  go_wp2_with fail
  refine (sub_k _ bx bz cx cz _ _ (unhide Qx) (unhide Qz)).mono ?_
  rintro e w2 ⟨k2, rfl, _, hb, hr⟩
  have Qx' := hide ((unhide Qx).kept hb)
  clear Qx
  have Qx := Qx'
  clear Qx'
  have Qz' := hide ((unhide Qz).kept hb)
  clear Qz
  have Qz := Qz'
  clear Qz'
  have Qa' := hide ((unhide Qa).kept hb)
  clear Qa
  have Qa := Qa'
  clear Qa'
  have Qb : Hid (Row10 w2 k2 (x - z)) := hide hr
  have B2 := hide hb
  clear hb hr
  go_wp2_with fail
  refine (mul_any _ k1 k1 10 10 _ _ (unhide Qa) (unhide Qa)).mono ?_
  rintro e w3 ⟨k3, rfl, _, hb, hr⟩
  have Qx' := hide ((unhide Qx).kept hb)
  clear Qx
  have Qx := Qx'
  clear Qx'
  have Qz' := hide ((unhide Qz).kept hb)
  clear Qz
  have Qz := Qz'
  clear Qz'
  have Qa' := hide ((unhide Qa).kept hb)
  clear Qa
  have Qa := Qa'
  clear Qa'
  have Qb' := hide ((unhide Qb).kept hb)
  clear Qb
  have Qb := Qb'
  clear Qb'
  have Qc : Hid (Row10 w3 k3 ((x + z) * (x + z))) := hide hr
  have B3 := hide hb
  clear hb hr
  go_wp2_with fail
  refine (mul_any _ k2 k2 10 10 _ _ (unhide Qb) (unhide Qb)).mono ?_
  rintro e w4 ⟨k4, rfl, _, hb, hr⟩
  have Qx' := hide ((unhide Qx).kept hb)
  clear Qx
  have Qx := Qx'
  clear Qx'
  have Qz' := hide ((unhide Qz).kept hb)
  clear Qz
  have Qz := Qz'
  clear Qz'
  have Qa' := hide ((unhide Qa).kept hb)
  clear Qa
  have Qa := Qa'
  clear Qa'
  have Qb' := hide ((unhide Qb).kept hb)
  clear Qb
  have Qb := Qb'
  clear Qb'
  have Qc' := hide ((unhide Qc).kept hb)
  clear Qc
  have Qc := Qc'
  clear Qc'
  have Qd : Hid (Row10 w4 k4 ((x - z) * (x - z))) := hide hr
  have B4 := hide hb
  clear hb hr
  go_wp2_with fail
  refine (sub_k _ k3 k4 10 10 _ _ (unhide Qc) (unhide Qd)).mono ?_
  rintro e w5 ⟨k5, rfl, _, hb, hr⟩
  have Qx' := hide ((unhide Qx).kept hb)
  clear Qx
  have Qx := Qx'
  clear Qx'
  have Qz' := hide ((unhide Qz).kept hb)
  clear Qz
  have Qz := Qz'
  clear Qz'
  have Qa' := hide ((unhide Qa).kept hb)
  clear Qa
  have Qa := Qa'
  clear Qa'
  have Qb' := hide ((unhide Qb).kept hb)
  clear Qb
  have Qb := Qb'
  clear Qb'
  have Qc' := hide ((unhide Qc).kept hb)
  clear Qc
  have Qc := Qc'
  clear Qc'
  have Qd' := hide ((unhide Qd).kept hb)
  clear Qd
  have Qd := Qd'
  clear Qd'
  have Qf : Hid (Row10 w5 k5 ((x + z) * (x + z) - (x - z) * (x - z))) := hide hr
  have B5 := hide hb
  clear hb hr
  go_wp2_with fail
  obtain ⟨wk, hwk⟩ : ∃ wk, wk = w5.alloc (.cells #[.int .i64 121665, .int .i64 0, .int .i64 0, .int .i64 0, .int .i64 0, .int .i64 0, .int .i64 0, .int .i64 0, .int .i64 0, .int .i64 0] 3) := ⟨_, rfl⟩
  rw [← hwk]
  have hbk : Below w5.heap.size w5 wk := by rw [hwk]; exact (Below.refl _ _).alloc (Nat.le_refl _) _
  have Qk : Hid (Row10 wk w5.heap.size 121665) := hide (by rw [hwk]; exact k10 w5)
  have Qc' := hide ((unhide Qc).kept hbk)
  clear Qc
  have Qc := Qc'
  clear Qc'
  have Qd' := hide ((unhide Qd).kept hbk)
  clear Qd
  have Qd := Qd'
  clear Qd'
  have Qf' := hide ((unhide Qf).kept hbk)
  clear Qf
  have Qf := Qf'
  clear Qf'
  have B6 := hide hbk
  clear hwk hbk hm
  go_wp2_with fail
  refine (mul_any _ k3 k4 10 10 _ _ (unhide Qc) (unhide Qd)).mono ?_
  rintro e w7 ⟨k7, rfl, _, hb, hr⟩
  have Qc' := hide ((unhide Qc).kept hb)
  clear Qc
  have Qc := Qc'
  clear Qc'
  have Qd' := hide ((unhide Qd).kept hb)
  clear Qd
  have Qd := Qd'
  clear Qd'
  have Qf' := hide ((unhide Qf).kept hb)
  clear Qf
  have Qf := Qf'
  clear Qf'
  have Qk' := hide ((unhide Qk).kept hb)
  clear Qk
  have Qk := Qk'
  clear Qk'
  have QX : Hid (Row10 w7 k7 (dbX x z)) := hide hr
  have B7 := hide hb
  clear hb hr
  go_wp2_with fail
  refine (mul_any _ w5.heap.size k5 10 10 _ _ (unhide Qk) (unhide Qf)).mono ?_
  rintro e w8 ⟨k8, rfl, _, hb, hr⟩
  have Qc' := hide ((unhide Qc).kept hb)
  clear Qc
  have Qc := Qc'
  clear Qc'
  have Qd' := hide ((unhide Qd).kept hb)
  clear Qd
  have Qd := Qd'
  clear Qd'
  have Qf' := hide ((unhide Qf).kept hb)
  clear Qf
  have Qf := Qf'
  clear Qf'
  have Qk' := hide ((unhide Qk).kept hb)
  clear Qk
  have Qk := Qk'
  clear Qk'
  have QX' := hide ((unhide QX).kept hb)
  clear QX
  have QX := QX'
  clear QX'
  have Qg : Hid (Row10 w8 k8 (121665 * ((x + z) * (x + z) - (x - z) * (x - z)))) := hide hr
  have B8 := hide hb
  clear hb hr
  go_wp2_with fail
  refine (add_k _ k3 k8 10 10 _ _ (unhide Qc) (unhide Qg)).mono ?_
  rintro e w9 ⟨k9, rfl, _, hb, hr⟩
  have Qc' := hide ((unhide Qc).kept hb)
  clear Qc
  have Qc := Qc'
  clear Qc'
  have Qd' := hide ((unhide Qd).kept hb)
  clear Qd
  have Qd := Qd'
  clear Qd'
  have Qf' := hide ((unhide Qf).kept hb)
  clear Qf
  have Qf := Qf'
  clear Qf'
  have Qk' := hide ((unhide Qk).kept hb)
  clear Qk
  have Qk := Qk'
  clear Qk'
  have QX' := hide ((unhide QX).kept hb)
  clear QX
  have QX := QX'
  clear QX'
  have Qg' := hide ((unhide Qg).kept hb)
  clear Qg
  have Qg := Qg'
  clear Qg'
  have Qh : Hid (Row10 w9 k9 ((x + z) * (x + z) + 121665 * ((x + z) * (x + z) - (x - z) * (x - z)))) := hide hr
  have B9 := hide hb
  clear hb hr
  go_wp2_with fail
  refine (mul_any _ k5 k9 10 10 _ _ (unhide Qf) (unhide Qh)).mono ?_
  rintro e w10 ⟨k10, rfl, _, hb, hr⟩
  have Qc' := hide ((unhide Qc).kept hb)
  clear Qc
  have Qc := Qc'
  clear Qc'
  have Qd' := hide ((unhide Qd).kept hb)
  clear Qd
  have Qd := Qd'
  clear Qd'
  have Qf' := hide ((unhide Qf).kept hb)
  clear Qf
  have Qf := Qf'
  clear Qf'
  have Qk' := hide ((unhide Qk).kept hb)
  clear Qk
  have Qk := Qk'
  clear Qk'
  have QX' := hide ((unhide QX).kept hb)
  clear QX
  have QX := QX'
  clear QX'
  have Qg' := hide ((unhide Qg).kept hb)
  clear Qg
  have Qg := Qg'
  clear Qg'
  have Qh' := hide ((unhide Qh).kept hb)
  clear Qh
  have Qh := Qh'
  clear Qh'
  have QZ : Hid (Row10 w10 k10 (dbZ x z)) := hide hr
  have B10 := hide hb
  clear hb hr
  go_wp2
  go_ret2
  exact ⟨k7, k10, rfl, ((unhide B1).trans (((unhide B2).trans (((unhide B3).trans (((unhide B4).trans (((unhide B5).trans (((unhide B6).trans (((unhide B7).trans (((unhide B8).trans (((unhide B9).trans ((unhide B10).mono (unhide B9).size)).mono (unhide B8).size)).mono (unhide B7).size)).mono (unhide B6).size)).mono (unhide B5).size)).mono (unhide B4).size)).mono (unhide B3).size)).mono (unhide B2).size)).mono (unhide B1).size)), unhide QX, unhide QZ⟩
theorem lsum_any (w : World) (bx bz bp bq bu cx cz cp cq cu : Nat) (x z p q u : Int) (hx : Row10 w bx x) (hz : Row10 w bz z) (hp : Row10 w bp p) (hq : Row10 w bq q) (hu : Row10 w bu u) :
    Calls Try.prog 60 #[.slice (some ⟨bx, 0, none⟩) 10 cx, .slice (some ⟨bz, 0, none⟩) 10 cz, .slice (some ⟨bp, 0, none⟩) 10 cp, .slice (some ⟨bq, 0, none⟩) 10 cq, .slice (some ⟨bu, 0, none⟩) 10 cu] w fun e w' => ∃ kx kz, e = .returned (.tuple #[.slice (some ⟨kx, 0, none⟩) 10 10, .slice (some ⟨kz, 0, none⟩) 10 10]) ∧ Below w.heap.size w w' ∧ Row10 w' kx (smX x z p q) ∧ Row10 w' kz (smZ u x z p q) := by
  have Qx := hide hx
  have Qz := hide hz
  have Qp := hide hp
  have Qq := hide hq
  have Qu := hide hu
  clear hx hz hp hq hu
  go_enter Try.func60, Try.ntmps60
  go_wp2_with fail
  refine (sub_k _ bp bq cp cq _ _ (unhide Qp) (unhide Qq)).mono ?_
  rintro e w1 ⟨k1, rfl, _, hb, hr⟩
  have Qx' := hide ((unhide Qx).kept hb)
  clear Qx
  have Qx := Qx'
  clear Qx'
  have Qz' := hide ((unhide Qz).kept hb)
  clear Qz
  have Qz := Qz'
  clear Qz'
  have Qp' := hide ((unhide Qp).kept hb)
  clear Qp
  have Qp := Qp'
  clear Qp'
  have Qq' := hide ((unhide Qq).kept hb)
  clear Qq
  have Qq := Qq'
  clear Qq'
  have Qu' := hide ((unhide Qu).kept hb)
  clear Qu
  have Qu := Qu'
  clear Qu'
  have Qa : Hid (Row10 w1 k1 (p - q)) := hide hr
  have B1 := hide hb
  clear hb hr
  go_wp2_with fail
  refine (add_k _ bx bz cx cz _ _ (unhide Qx) (unhide Qz)).mono ?_
  rintro e w2 ⟨k2, rfl, _, hb, hr⟩
  have Qx' := hide ((unhide Qx).kept hb)
  clear Qx
  have Qx := Qx'
  clear Qx'
  have Qz' := hide ((unhide Qz).kept hb)
  clear Qz
  have Qz := Qz'
  clear Qz'
  have Qp' := hide ((unhide Qp).kept hb)
  clear Qp
  have Qp := Qp'
  clear Qp'
  have Qq' := hide ((unhide Qq).kept hb)
  clear Qq
  have Qq := Qq'
  clear Qq'
  have Qu' := hide ((unhide Qu).kept hb)
  clear Qu
  have Qu := Qu'
  clear Qu'
  have Qa' := hide ((unhide Qa).kept hb)
  clear Qa
  have Qa := Qa'
  clear Qa'
  have Qb : Hid (Row10 w2 k2 (x + z)) := hide hr
  have B2 := hide hb
  clear hb hr
  go_wp2_with fail
  refine (mul_any _ k1 k2 10 10 _ _ (unhide Qa) (unhide Qb)).mono ?_
  rintro e w3 ⟨k3, rfl, _, hb, hr⟩
  have Qx' := hide ((unhide Qx).kept hb)
  clear Qx
  have Qx := Qx'
  clear Qx'
  have Qz' := hide ((unhide Qz).kept hb)
  clear Qz
  have Qz := Qz'
  clear Qz'
  have Qp' := hide ((unhide Qp).kept hb)
  clear Qp
  have Qp := Qp'
  clear Qp'
  have Qq' := hide ((unhide Qq).kept hb)
  clear Qq
  have Qq := Qq'
  clear Qq'
  have Qu' := hide ((unhide Qu).kept hb)
  clear Qu
  have Qu := Qu'
  clear Qu'
  have Qa' := hide ((unhide Qa).kept hb)
  clear Qa
  have Qa := Qa'
  clear Qa'
  have Qb' := hide ((unhide Qb).kept hb)
  clear Qb
  have Qb := Qb'
  clear Qb'
  have Qc : Hid (Row10 w3 k3 ((p - q) * (x + z))) := hide hr
  have B3 := hide hb
  clear hb hr
  go_wp2_with fail
  refine (add_k _ bp bq cp cq _ _ (unhide Qp) (unhide Qq)).mono ?_
  rintro e w4 ⟨k4, rfl, _, hb, hr⟩
  have Qx' := hide ((unhide Qx).kept hb)
  clear Qx
  have Qx := Qx'
  clear Qx'
  have Qz' := hide ((unhide Qz).kept hb)
  clear Qz
  have Qz := Qz'
  clear Qz'
  have Qp' := hide ((unhide Qp).kept hb)
  clear Qp
  have Qp := Qp'
  clear Qp'
  have Qq' := hide ((unhide Qq).kept hb)
  clear Qq
  have Qq := Qq'
  clear Qq'
  have Qu' := hide ((unhide Qu).kept hb)
  clear Qu
  have Qu := Qu'
  clear Qu'
  have Qa' := hide ((unhide Qa).kept hb)
  clear Qa
  have Qa := Qa'
  clear Qa'
  have Qb' := hide ((unhide Qb).kept hb)
  clear Qb
  have Qb := Qb'
  clear Qb'
  have Qc' := hide ((unhide Qc).kept hb)
  clear Qc
  have Qc := Qc'
  clear Qc'
  have Qd : Hid (Row10 w4 k4 (p + q)) := hide hr
  have B4 := hide hb
  clear hb hr
  go_wp2_with fail
  refine (sub_k _ bx bz cx cz _ _ (unhide Qx) (unhide Qz)).mono ?_
  rintro e w5 ⟨k5, rfl, _, hb, hr⟩
  have Qx' := hide ((unhide Qx).kept hb)
  clear Qx
  have Qx := Qx'
  clear Qx'
  have Qz' := hide ((unhide Qz).kept hb)
  clear Qz
  have Qz := Qz'
  clear Qz'
  have Qp' := hide ((unhide Qp).kept hb)
  clear Qp
  have Qp := Qp'
  clear Qp'
  have Qq' := hide ((unhide Qq).kept hb)
  clear Qq
  have Qq := Qq'
  clear Qq'
  have Qu' := hide ((unhide Qu).kept hb)
  clear Qu
  have Qu := Qu'
  clear Qu'
  have Qa' := hide ((unhide Qa).kept hb)
  clear Qa
  have Qa := Qa'
  clear Qa'
  have Qb' := hide ((unhide Qb).kept hb)
  clear Qb
  have Qb := Qb'
  clear Qb'
  have Qc' := hide ((unhide Qc).kept hb)
  clear Qc
  have Qc := Qc'
  clear Qc'
  have Qd' := hide ((unhide Qd).kept hb)
  clear Qd
  have Qd := Qd'
  clear Qd'
  have Qf : Hid (Row10 w5 k5 (x - z)) := hide hr
  have B5 := hide hb
  clear hb hr
  go_wp2_with fail
  refine (mul_any _ k4 k5 10 10 _ _ (unhide Qd) (unhide Qf)).mono ?_
  rintro e w6 ⟨k6, rfl, _, hb, hr⟩
  have Qx' := hide ((unhide Qx).kept hb)
  clear Qx
  have Qx := Qx'
  clear Qx'
  have Qz' := hide ((unhide Qz).kept hb)
  clear Qz
  have Qz := Qz'
  clear Qz'
  have Qp' := hide ((unhide Qp).kept hb)
  clear Qp
  have Qp := Qp'
  clear Qp'
  have Qq' := hide ((unhide Qq).kept hb)
  clear Qq
  have Qq := Qq'
  clear Qq'
  have Qu' := hide ((unhide Qu).kept hb)
  clear Qu
  have Qu := Qu'
  clear Qu'
  have Qa' := hide ((unhide Qa).kept hb)
  clear Qa
  have Qa := Qa'
  clear Qa'
  have Qb' := hide ((unhide Qb).kept hb)
  clear Qb
  have Qb := Qb'
  clear Qb'
  have Qc' := hide ((unhide Qc).kept hb)
  clear Qc
  have Qc := Qc'
  clear Qc'
  have Qd' := hide ((unhide Qd).kept hb)
  clear Qd
  have Qd := Qd'
  clear Qd'
  have Qf' := hide ((unhide Qf).kept hb)
  clear Qf
  have Qf := Qf'
  clear Qf'
  have Qg : Hid (Row10 w6 k6 ((p + q) * (x - z))) := hide hr
  have B6 := hide hb
  clear hb hr
  go_wp2_with fail
  refine (add_k _ k3 k6 10 10 _ _ (unhide Qc) (unhide Qg)).mono ?_
  rintro e w7 ⟨k7, rfl, _, hb, hr⟩
  have Qx' := hide ((unhide Qx).kept hb)
  clear Qx
  have Qx := Qx'
  clear Qx'
  have Qz' := hide ((unhide Qz).kept hb)
  clear Qz
  have Qz := Qz'
  clear Qz'
  have Qp' := hide ((unhide Qp).kept hb)
  clear Qp
  have Qp := Qp'
  clear Qp'
  have Qq' := hide ((unhide Qq).kept hb)
  clear Qq
  have Qq := Qq'
  clear Qq'
  have Qu' := hide ((unhide Qu).kept hb)
  clear Qu
  have Qu := Qu'
  clear Qu'
  have Qa' := hide ((unhide Qa).kept hb)
  clear Qa
  have Qa := Qa'
  clear Qa'
  have Qb' := hide ((unhide Qb).kept hb)
  clear Qb
  have Qb := Qb'
  clear Qb'
  have Qc' := hide ((unhide Qc).kept hb)
  clear Qc
  have Qc := Qc'
  clear Qc'
  have Qd' := hide ((unhide Qd).kept hb)
  clear Qd
  have Qd := Qd'
  clear Qd'
  have Qf' := hide ((unhide Qf).kept hb)
  clear Qf
  have Qf := Qf'
  clear Qf'
  have Qg' := hide ((unhide Qg).kept hb)
  clear Qg
  have Qg := Qg'
  clear Qg'
  have Qh : Hid (Row10 w7 k7 ((p - q) * (x + z) + (p + q) * (x - z))) := hide hr
  have B7 := hide hb
  clear hb hr
  go_wp2_with fail
  refine (sub_k _ k3 k6 10 10 _ _ (unhide Qc) (unhide Qg)).mono ?_
  rintro e w8 ⟨k8, rfl, _, hb, hr⟩
  have Qx' := hide ((unhide Qx).kept hb)
  clear Qx
  have Qx := Qx'
  clear Qx'
  have Qz' := hide ((unhide Qz).kept hb)
  clear Qz
  have Qz := Qz'
  clear Qz'
  have Qp' := hide ((unhide Qp).kept hb)
  clear Qp
  have Qp := Qp'
  clear Qp'
  have Qq' := hide ((unhide Qq).kept hb)
  clear Qq
  have Qq := Qq'
  clear Qq'
  have Qu' := hide ((unhide Qu).kept hb)
  clear Qu
  have Qu := Qu'
  clear Qu'
  have Qa' := hide ((unhide Qa).kept hb)
  clear Qa
  have Qa := Qa'
  clear Qa'
  have Qb' := hide ((unhide Qb).kept hb)
  clear Qb
  have Qb := Qb'
  clear Qb'
  have Qc' := hide ((unhide Qc).kept hb)
  clear Qc
  have Qc := Qc'
  clear Qc'
  have Qd' := hide ((unhide Qd).kept hb)
  clear Qd
  have Qd := Qd'
  clear Qd'
  have Qf' := hide ((unhide Qf).kept hb)
  clear Qf
  have Qf := Qf'
  clear Qf'
  have Qg' := hide ((unhide Qg).kept hb)
  clear Qg
  have Qg := Qg'
  clear Qg'
  have Qh' := hide ((unhide Qh).kept hb)
  clear Qh
  have Qh := Qh'
  clear Qh'
  have Qi : Hid (Row10 w8 k8 ((p - q) * (x + z) - (p + q) * (x - z))) := hide hr
  have B8 := hide hb
  clear hb hr
  go_wp2_with fail
  refine (mul_any _ k7 k7 10 10 _ _ (unhide Qh) (unhide Qh)).mono ?_
  rintro e w9 ⟨k9, rfl, _, hb, hr⟩
  have Qx' := hide ((unhide Qx).kept hb)
  clear Qx
  have Qx := Qx'
  clear Qx'
  have Qz' := hide ((unhide Qz).kept hb)
  clear Qz
  have Qz := Qz'
  clear Qz'
  have Qp' := hide ((unhide Qp).kept hb)
  clear Qp
  have Qp := Qp'
  clear Qp'
  have Qq' := hide ((unhide Qq).kept hb)
  clear Qq
  have Qq := Qq'
  clear Qq'
  have Qu' := hide ((unhide Qu).kept hb)
  clear Qu
  have Qu := Qu'
  clear Qu'
  have Qa' := hide ((unhide Qa).kept hb)
  clear Qa
  have Qa := Qa'
  clear Qa'
  have Qb' := hide ((unhide Qb).kept hb)
  clear Qb
  have Qb := Qb'
  clear Qb'
  have Qc' := hide ((unhide Qc).kept hb)
  clear Qc
  have Qc := Qc'
  clear Qc'
  have Qd' := hide ((unhide Qd).kept hb)
  clear Qd
  have Qd := Qd'
  clear Qd'
  have Qf' := hide ((unhide Qf).kept hb)
  clear Qf
  have Qf := Qf'
  clear Qf'
  have Qg' := hide ((unhide Qg).kept hb)
  clear Qg
  have Qg := Qg'
  clear Qg'
  have Qh' := hide ((unhide Qh).kept hb)
  clear Qh
  have Qh := Qh'
  clear Qh'
  have Qi' := hide ((unhide Qi).kept hb)
  clear Qi
  have Qi := Qi'
  clear Qi'
  have QX : Hid (Row10 w9 k9 (smX x z p q)) := hide hr
  have B9 := hide hb
  clear hb hr
  go_wp2_with fail
  refine (mul_any _ k8 k8 10 10 _ _ (unhide Qi) (unhide Qi)).mono ?_
  rintro e w10 ⟨k10, rfl, _, hb, hr⟩
  have Qx' := hide ((unhide Qx).kept hb)
  clear Qx
  have Qx := Qx'
  clear Qx'
  have Qz' := hide ((unhide Qz).kept hb)
  clear Qz
  have Qz := Qz'
  clear Qz'
  have Qp' := hide ((unhide Qp).kept hb)
  clear Qp
  have Qp := Qp'
  clear Qp'
  have Qq' := hide ((unhide Qq).kept hb)
  clear Qq
  have Qq := Qq'
  clear Qq'
  have Qu' := hide ((unhide Qu).kept hb)
  clear Qu
  have Qu := Qu'
  clear Qu'
  have Qa' := hide ((unhide Qa).kept hb)
  clear Qa
  have Qa := Qa'
  clear Qa'
  have Qb' := hide ((unhide Qb).kept hb)
  clear Qb
  have Qb := Qb'
  clear Qb'
  have Qc' := hide ((unhide Qc).kept hb)
  clear Qc
  have Qc := Qc'
  clear Qc'
  have Qd' := hide ((unhide Qd).kept hb)
  clear Qd
  have Qd := Qd'
  clear Qd'
  have Qf' := hide ((unhide Qf).kept hb)
  clear Qf
  have Qf := Qf'
  clear Qf'
  have Qg' := hide ((unhide Qg).kept hb)
  clear Qg
  have Qg := Qg'
  clear Qg'
  have Qh' := hide ((unhide Qh).kept hb)
  clear Qh
  have Qh := Qh'
  clear Qh'
  have Qi' := hide ((unhide Qi).kept hb)
  clear Qi
  have Qi := Qi'
  clear Qi'
  have QX' := hide ((unhide QX).kept hb)
  clear QX
  have QX := QX'
  clear QX'
  have Qj : Hid (Row10 w10 k10 (((p - q) * (x + z) - (p + q) * (x - z)) * ((p - q) * (x + z) - (p + q) * (x - z)))) := hide hr
  have B10 := hide hb
  clear hb hr
  go_wp2_with fail
  refine (mul_any _ bu k10 cu 10 _ _ (unhide Qu) (unhide Qj)).mono ?_
  rintro e w11 ⟨k11, rfl, _, hb, hr⟩
  have Qx' := hide ((unhide Qx).kept hb)
  clear Qx
  have Qx := Qx'
  clear Qx'
  have Qz' := hide ((unhide Qz).kept hb)
  clear Qz
  have Qz := Qz'
  clear Qz'
  have Qp' := hide ((unhide Qp).kept hb)
  clear Qp
  have Qp := Qp'
  clear Qp'
  have Qq' := hide ((unhide Qq).kept hb)
  clear Qq
  have Qq := Qq'
  clear Qq'
  have Qu' := hide ((unhide Qu).kept hb)
  clear Qu
  have Qu := Qu'
  clear Qu'
  have Qa' := hide ((unhide Qa).kept hb)
  clear Qa
  have Qa := Qa'
  clear Qa'
  have Qb' := hide ((unhide Qb).kept hb)
  clear Qb
  have Qb := Qb'
  clear Qb'
  have Qc' := hide ((unhide Qc).kept hb)
  clear Qc
  have Qc := Qc'
  clear Qc'
  have Qd' := hide ((unhide Qd).kept hb)
  clear Qd
  have Qd := Qd'
  clear Qd'
  have Qf' := hide ((unhide Qf).kept hb)
  clear Qf
  have Qf := Qf'
  clear Qf'
  have Qg' := hide ((unhide Qg).kept hb)
  clear Qg
  have Qg := Qg'
  clear Qg'
  have Qh' := hide ((unhide Qh).kept hb)
  clear Qh
  have Qh := Qh'
  clear Qh'
  have Qi' := hide ((unhide Qi).kept hb)
  clear Qi
  have Qi := Qi'
  clear Qi'
  have QX' := hide ((unhide QX).kept hb)
  clear QX
  have QX := QX'
  clear QX'
  have Qj' := hide ((unhide Qj).kept hb)
  clear Qj
  have Qj := Qj'
  clear Qj'
  have QZ : Hid (Row10 w11 k11 (smZ u x z p q)) := hide hr
  have B11 := hide hb
  clear hb hr
  go_wp2
  go_ret2
  exact ⟨k9, k11, rfl, ((unhide B1).trans (((unhide B2).trans (((unhide B3).trans (((unhide B4).trans (((unhide B5).trans (((unhide B6).trans (((unhide B7).trans (((unhide B8).trans (((unhide B9).trans (((unhide B10).trans ((unhide B11).mono (unhide B10).size)).mono (unhide B9).size)).mono (unhide B8).size)).mono (unhide B7).size)).mono (unhide B6).size)).mono (unhide B5).size)).mono (unhide B4).size)).mono (unhide B3).size)).mono (unhide B2).size)).mono (unhide B1).size)), unhide QX, unhide QZ⟩
end Go.Proofs.Ytncplefjokbbjaa
