import Derived.Test.YtifnhnfjelfddaaGreatDoorJ51
set_option linter.unusedSimpArgs false
set_option linter.unusedVariables false
section
namespace Go.Proofs.YtifnhnfjelfddaaGreatDoor
set_option maxRecDepth 100000
namespace Vl
open Go.RowKit
open Tw (Tb nul may Same Rt)
theorem eq24_any (x y : Value) (X Y : Nat → ByteArray) (w : World) {N M : Nat} (hN : 0 < N) (hM : 0 < M) (hx : w.ownsRow N 9 1 x 24 (texts X 24)) (hy : w.ownsRow M 9 1 y 24 (texts Y 24)) (he : ∀ i, i < 24 → X i = Y i) :
    Calls Tryz.prog 23 #[x, y] w fun e w' => e = .returned (.bool true) ∧ Since w w' :=
  eq_any 0 24 x y X Y w (Sl.of_own hx hN (fun j hj => brow_get 24 _ j hj)) (Sl.of_own hy hM (fun j hj => brow_get 24 _ j hj)) he (by omega)
end Vl
end Go.Proofs.YtifnhnfjelfddaaGreatDoor
end
section
namespace Go.Proofs.YtifnhnfjelfddaaGreatDoor
set_option maxRecDepth 100000
namespace Vl
open Go.RowKit
open Tw (Tb nul may Same Rt)
set_option maxHeartbeats 4000000 in
theorem moves_go (w : World) (l : List Stp) (lv : Value) (hl : Sts w lv l) (hT : Sm.Tab w) :
    Calls Tryz.prog 5 #[lv] w fun e w' => e = .returned (.bool true) ∧ Since w w' := by
  obtain ⟨la, lc, rfl⟩ := hl.form
  have HL : Hid (Sts w (.slice la l.length lc) l) := hl
  have HT : Hid (Sm.Tab w) := hT
  clear hT hl
  go_enter Tryz.func5, Tryz.ntmps5
  go_wp2_with fail
  refine (steps_any l _ _ HL.out).mono ?_
  rintro e w1 ⟨hx, hs1⟩
  have HS1 : Hid (Since w w1) := hs1
  clear hs1
  rcases hx with ⟨rfl, hf⟩ | rfl
  case inr =>
    go_wp2_with fail
    go_ret
    exact ⟨rfl, HS1.out⟩
  have HF : Hid (few12 l) := hf
  clear hf
  go_wp2_with fail
  refine (kept_any _ (HT.out.since HS1.out)).mono ?_
  rintro e w2 ⟨rfl, hs2⟩
  have HS2 : Hid (Since w w2) := HS1.out.trans hs2
  clear hs2
  go_wp2_with fail
  refine (laid_any l _ _ (HL.out.since HS2.out) HF.out (HT.out.since HS2.out)).mono ?_
  rintro e w3 ⟨vb, db, cb, N, S, v, hv, iv, xs, X, ivs, E, cs, Ts, rfl, hV, hG, hPh, hN, hH, hPa, _⟩
  have HV : Hid (Vol w2 w3 vb db cb (kbOf sec) (ktOf sec) S v) := hV
  have HG : Hid (Good (kbOf sec) (ktOf sec) S 1000 ∧ Ph S 120) := ⟨hG, hPh⟩
  have HB : Hid (Base w2 (kbOf sec) (ktOf sec)) := ⟨HT.out.since HS2.out, keyOf_size _ _, keyOf_size _ _⟩
  clear hV hG hPh hN hH hPa
  generalize hkb : kbOf sec = kb at *
  generalize hkt : ktOf sec = kt at *
  have HK : Hid (kbOf sec = kb ∧ ktOf sec = kt) := ⟨hkb, hkt⟩
  clear hkb hkt
  go_wp2_with fail
  refine (all_any HV.out).mono ?_
  rintro e w4 ⟨x4, rfl, hx4, hs4⟩
  obtain ⟨xa, xn, xc, rfl, rfl⟩ := own_slice hx4
  have HX4 : Hid (w4.ownsRow w3.heap.size 9 1 (.slice xa 24 xc) 24 (texts S.X 24)) := hx4
  have HV4 : Hid (Vol w2 w4 vb db cb kb kt S v) := HV.out.go hs4
  clear hx4 hs4
  go_wp2_with fail
  refine (free_any HV4.out).mono ?_
  rintro e w5 ⟨rfl, hs5⟩
  have HX5 : Hid (w5.ownsRow w3.heap.size 9 1 (.slice xa 24 xc) 24 (texts S.X 24)) := ownsRow_since HX4.out hs5
  have HV5 : Hid (Vol w2 w5 vb db cb kb kt S v) := HV4.out.go hs5
  clear hs5 HX4 HV4
  go_wp2_with fail
  have HN3 : Hid (vb < w3.heap.size ∧ db < w3.heap.size ∧ cb < w3.heap.size) := ⟨HV.out.cel.lt (by omega), HV.out.dev.lt, HV.out.ctr.lt (by omega)⟩
  have hrc := reclaim_any HB.out 1000 HG.out.1.ok (by omega) HV5.out
  cases hvic : vicTo S.atf S.live 8 with
  | none =>
    rw [reclaim_off HG.out.1.on kb kt hvic] at hrc
    have HR : Hid (Calls Tryz.prog 25 #[.pointer (some ⟨vb, 0, none⟩)] w5 fun e w' => e = .returned (.tuple #[.int .i64 0, .bool false, .nilIface]) ∧ Vto w2 w5 w' vb db cb kb kt S v) := hrc
    clear hrc hvic
    refine HR.out.mono ?_
    rintro e w6 ⟨rfl, v6, hv6, hf6, _⟩
    have HV6 : Hid (Vol w2 w6 vb db cb kb kt S v6) := hv6
    clear hv6 hf6
    go_wp2_with fail
    refine (free_any HV6.out).mono ?_
    rintro e w7 ⟨rfl, hs7⟩
    go_wp2_with fail
    go_ret
    exact ⟨by simp, HS2.out.trans (HV6.out.go hs7).since⟩
  | some z =>
    have hroom := HG.out.2.room (Nat.le_refl _) hvic
    obtain ⟨_, _, hon⟩ := reclaim_on HG.out.1.on kb kt hvic hroom
    have hls := reclaim_less HG.out.1.on kb kt hvic hroom
    obtain ⟨hg, htold⟩ := reclaim_good HG.out.1 (by omega) hvic hroom
    have h11 : (S.reclaim kb kt).1 = ((((Sp.inI S.T (z : Int) 24).length : Nat) : Int), true, (0 : Int)) := by rw [hon]
    rw [h11] at hrc
    have hlen := inI_len S.T (z : Int)
    generalize (Sp.inI S.T (z : Int) 24).length = n at *
    clear hon h11 hvic hroom
    generalize (S.reclaim kb kt).2 = S1 at *
    have hfree : S1.free = S.free - n + 16 := by
      have h1 := hls.tot
      rw [free_tot hls.on.c16, free_tot HG.out.1.on.c16]
      omega
    have hwr : wrap64 (wrap64 (S.free - n) + 16) = S.free - n + 16 := by
      have h1 := tot_le HG.out.1.on.c16
      rw [free_tot HG.out.1.on.c16]
      unfold wrap64
      omega
    have HF : Hid (S1.free = S.free - n + 16 ∧ wrap64 (wrap64 (S.free - n) + 16) = S.free - n + 16) := ⟨hfree, hwr⟩
    have HG1 : Hid (Good kb kt S1 (1000 + 1) ∧ Told kb kt S1.D S1.c S1.T S1.X ∧ S1.X = S.X) := ⟨hg, htold, hls.X⟩
    have HR : Hid (Calls Tryz.prog 25 #[.pointer (some ⟨vb, 0, none⟩)] w5 fun e w' => e = .returned (.tuple #[.int .i64 n, .bool true, .nilIface]) ∧ Vto w2 w5 w' vb db cb kb kt S1 v) := hrc
    clear hrc hfree hwr hg htold hls hlen
    refine HR.out.mono ?_
    rintro e w6 ⟨rfl, v6, hv6, hf6, _⟩
    have HV6 : Hid (Vol w2 w6 vb db cb kb kt S1 v6) := hv6
    have HX6 : Hid (w6.ownsRow w3.heap.size 9 1 (.slice xa 24 xc) 24 (texts S.X 24)) := own_vto HN3.out HX5.out (by decide) HV5.out hf6
    clear hv6 hf6 HX5 HV5
    go_wp2_with fail
    refine (free_any HV6.out).mono ?_
    rintro e w7 ⟨rfl, hs7⟩
    have HV7 : Hid (Vol w2 w7 vb db cb kb kt S1 v6) := HV6.out.go hs7
    have HX7 : Hid (w7.ownsRow w3.heap.size 9 1 (.slice xa 24 xc) 24 (texts S.X 24)) := ownsRow_since HX6.out hs7
    clear hs7 HV6 HX6
    obtain ⟨hF1, hF2⟩ := HF.out
    rw [hF1]
    have hneq : decide (¬ S.free - (n : Int) + 16 = wrap64 (wrap64 (S.free - n) + 16)) = false := by rw [hF2]; simp
    have HP3 : Hid (0 < w3.heap.size) := (by have := HN3.out.1; omega : 0 < w3.heap.size)
    clear hF1
    go_wp2_with fail
    refine (all_any HV7.out).mono ?_
    rintro e w8 ⟨x8, rfl, hx8, hs8⟩
    obtain ⟨ya, yn, yc, rfl, rfl⟩ := own_slice hx8
    have HV8 : Hid (Vol w2 w8 vb db cb kb kt S1 v6) := HV7.out.go hs8
    have HX8 : Hid (w8.ownsRow w3.heap.size 9 1 (.slice xa 24 xc) 24 (texts S.X 24)) := ownsRow_since HX7.out hs8
    have hp7 : 0 < w7.heap.size := by have := HV7.out.dev.lt; omega
    have HEQ : Hid (Calls Tryz.prog 23 #[.slice ya 24 yc, .slice xa 24 xc] w8 fun e w' => e = .returned (.bool true) ∧ Since w8 w') := eq24_any _ _ S1.X S.X w8 hp7 HP3.out hx8 HX8.out (fun i _ => by rw [HG1.out.2.2])
    clear hx8 hs8 hp7 HV7 HX7
    go_wp2_with fail
    refine HEQ.out.mono ?_
    rintro e w9 ⟨rfl, hs9⟩
    have HV9 : Hid (Vol w2 w9 vb db cb kb kt S1 v6) := HV8.out.go hs9
    have HX9 : Hid (w9.ownsRow w3.heap.size 9 1 (.slice xa 24 xc) 24 (texts S.X 24)) := ownsRow_since HX8.out hs9
    clear hs9 HV8 HX8 HEQ
    have HOP : Hid (Calls Tryz.prog 19 #[.pointer (some ⟨db, 0, none⟩), .pointer (some ⟨cb, 0, none⟩), .string ⟨#[48, 49, 50, 51, 52, 53, 54, 55, 56, 57, 97, 98, 99, 100, 101, 102]⟩] w9 fun e w' => ∃ vc S' v', e = .returned (.tuple #[.pointer (some ⟨vc, 0, none⟩), .nilIface]) ∧ Vol w2 w' vc db cb kb kt S' v' ∧ (∀ i, i < 24 → S'.X i = S1.X i) ∧ Fs (fun k => k = db ∨ k = cb ∨ v6.ownBlock = some k) w9 w') := by
      obtain ⟨e1, e2⟩ := HK.out
      subst e1 e2
      refine (open_ok (s := sec) rfl HB.out.tab (by have h1 := HG1.out.1.ok.c0; have h2 := HG1.out.1.ok.cn; omega) HV9.out.dc HG1.out.2.1 HG1.out.1.low).mono ?_
      rintro e w' ⟨vc, S', v', rfl, _, h1, ⟨_, h2, _, h3, h4, h5, _⟩, h6, _⟩
      exact ⟨vc, S', v', rfl, h1, h5, h6⟩
    go_wp2_with fail
    refine HOP.out.mono ?_
    rintro e w10 ⟨vc, S', v', rfl, hv10, hx10, hf10⟩
    have HV10 : Hid (Vol w2 w10 vc db cb kb kt S' v') := hv10
    have HX10 : Hid (w10.ownsRow w3.heap.size 9 1 (.slice xa 24 xc) 24 (texts S.X 24)) := ownFs HX9.out hf10 (fun k hk q => by
      have h1 := (HX9.out.lt k hk).1
      have h2 := HN3.out
      rcases q with e1 | e1 | e1
      · omega
      · omega
      · exact absurd ((Ty.own HX9.out hk).one (Ty.own HV9.out.dev.own e1)) (by decide))
    have HXX : Hid (∀ i, i < 24 → S'.X i = S.X i) := fun i hi => by rw [hx10 i hi, HG1.out.2.2]
    clear hv10 hx10 hf10 HX9 HV9
    go_wp2_with fail
    refine (all_any HV10.out).mono ?_
    rintro e w11 ⟨x11, rfl, hx11, hs11⟩
    obtain ⟨za, zn, zc, rfl, rfl⟩ := own_slice hx11
    have hp10 : 0 < w10.heap.size := by have := HV10.out.dev.lt; omega
    have HEQ : Hid (Calls Tryz.prog 23 #[.slice za 24 zc, .slice xa 24 xc] w11 fun e w' => e = .returned (.bool true) ∧ Since w11 w') := eq24_any _ _ S'.X S.X w11 hp10 HP3.out hx11 (ownsRow_since HX10.out hs11) HXX.out
    have HV11 : Hid (Vol w2 w11 vc db cb kb kt S' v') := HV10.out.go hs11
    clear hx11 hs11 hp10
    go_wp2_with fail
    refine HEQ.out.mono ?_
    rintro e w12 ⟨rfl, hs12⟩
    go_wp2_with fail
    go_ret
    exact ⟨rfl, HS2.out.trans (HV11.out.go hs12).since⟩
end Vl
end Go.Proofs.YtifnhnfjelfddaaGreatDoor
end
