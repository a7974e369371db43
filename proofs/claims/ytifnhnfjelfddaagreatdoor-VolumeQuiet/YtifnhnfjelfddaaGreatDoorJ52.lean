import Derived.Test.YtifnhnfjelfddaaGreatDoorJ51
set_option linter.unusedSimpArgs false
set_option linter.unusedVariables false
namespace Go.Proofs.YtifnhnfjelfddaaGreatDoor
set_option maxRecDepth 100000
namespace Vl
open Go.RowKit
open Tw (Tb nul may Same Rt)
theorem eq24_any (x y : Value) (X Y : Nat → ByteArray) (w : World) {N M : Nat} (hN : 0 < N) (hM : 0 < M) (hx : w.ownsRow N 9 1 x 24 (texts X 24)) (hy : w.ownsRow M 9 1 y 24 (texts Y 24)) (he : ∀ i, i < 24 → X i = Y i) :
    Calls Tryz.prog 23 #[x, y] w fun e w' => e = .returned (.bool true) ∧ Since w w' :=
  eq_any 0 24 x y X Y w (Sl.of_own hx hN (fun j hj => brow_get 24 _ j hj)) (Sl.of_own hy hM (fun j hj => brow_get 24 _ j hj)) he (by omega)
theorem write_big {kb kt : ByteArray} {S : Vs} (h : S.on) (ht : tot S.D < 108) (i : Nat) (hi : i < 24) (t : ByteArray) (h80 : t.size ≤ 80) : (S.write kb kt i t).1 = 0 ∧ c16 (S.write kb kt i t).2.D ∧ ((t = S.X i ∨ t = ⟨#[]⟩) → tot (S.write kb kt i t).2.D = tot S.D) ∧ (¬ t = S.X i → ¬ t = ⟨#[]⟩ → tot (S.write kb kt i t).2.D = tot S.D + 1) := by
  have he : S.write kb kt i t = if t = S.X i then (0, S) else if t = ⟨#[]⟩ then (0, S.set i 0 0 ⟨#[]⟩ ⟨#[]⟩) else if S.free ≤ 20 then (if (S.reclaim kb kt).1.2.2 ≠ 0 then ((S.reclaim kb kt).1.2.2, (S.reclaim kb kt).2) else (S.reclaim kb kt).2.put kb i (-1) t) else S.put kb i (-1) t := by
    unfold Vs.write
    rw [if_neg (by rw [h.dead]; decide), if_neg (by omega), if_neg (by omega), Int.toNat_natCast]
  rw [he]
  by_cases h1 : t = S.X i
  · rw [if_pos h1]; exact ⟨rfl, h.c16, fun _ => rfl, fun q => absurd h1 q⟩
  · rw [if_neg h1]
    by_cases h2 : t = ⟨#[]⟩
    · rw [if_pos h2]; exact ⟨rfl, h.c16, fun _ => rfl, fun _ q => absurd h2 q⟩
    · rw [if_neg h2, free_tot h.c16, if_neg (by omega)]
      obtain ⟨z, _, hz8, hz16, _, hp⟩ := put_on h (by omega) kb i (-1) (Or.inl (by omega)) t
      rw [hp]
      refine ⟨rfl, app_c16 h.c16 hz16, fun q => ?_, fun _ _ => app_tot _ _ _ hz8⟩
      rcases q with q | q
      · exact absurd q h1
      · exact absurd q h2
theorem write_same {kb kt : ByteArray} {S : Vs} (h : S.on) (i : Nat) (hi : i < 24) (h80 : (S.X i).size ≤ 80) : S.write kb kt i (S.X i) = (0, S) := by
  unfold Vs.write
  rw [if_neg (by rw [h.dead]; decide), if_neg (by omega), if_neg (by omega), Int.toNat_natCast, if_pos rfl]
set_option maxHeartbeats 4000000 in
theorem quiet_go (w : World) (l : List Stp) (lv : Value) (cell : Int) (t : ByteArray) (hl : Sts w lv l) (hT : Sm.Tab w) :
    Calls Tryz.prog 4 #[lv, .int .i64 cell, .string t] w fun e w' => e = .returned (.bool true) ∧ Since w w' := by
  obtain ⟨la, lc, rfl⟩ := hl.form
  have HL : Hid (Sts w (.slice la l.length lc) l) := hl
  have HT : Hid (Sm.Tab w) := hT
  clear hT hl
  go_enter Tryz.func4, Tryz.ntmps4
  go_wp2_with fail
  refine (steps_any l _ _ HL.out).mono ?_
  rintro e w1 ⟨hx, hs1⟩
  have HS1 : Hid (Since w w1) := hs1
  clear hs1
  rcases hx with ⟨rfl, hf⟩ | rfl
  case inr =>
    go_wp2_with fail
    go_ret
    exact ⟨rfl, HS1.out⟩
  have HF : Hid (few12 l) := hf
  clear hf
  by_cases h80 : (80 : Int) < (t.size : Nat)
  · have hd : decide ((80 : Int) < (t.size : Nat)) = true := decide_eq_true h80
    clear h80
    go_wp2_with fail
    go_ret
    exact ⟨rfl, HS1.out⟩
  have hd : decide ((80 : Int) < (t.size : Nat)) = false := decide_eq_false h80
  have H80 : Hid (t.size ≤ 80) := (by omega : t.size ≤ 80)
  clear h80
  go_wp2_with fail
  refine (kept_any _ (HT.out.since HS1.out)).mono ?_
  rintro e w2 ⟨rfl, hs2⟩
  have HS2 : Hid (Since w w2) := HS1.out.trans hs2
  clear hs2
  go_wp2_with fail
  refine (laid_any l _ _ (HL.out.since HS2.out) HF.out (HT.out.since HS2.out)).mono ?_
  rintro e w3 ⟨vb, db, cb, N, S, v, hv, iv, xs, X, ivs, E, cs, Ts, rfl, hV, hG, hPh, hN, hH, hPa, _⟩
  have HV : Hid (Vol w2 w3 vb db cb (kbOf sec) (ktOf sec) S v) := hV
  have HG : Hid (Good (kbOf sec) (ktOf sec) S 1000 ∧ Ph S 120) := ⟨hG, hPh⟩
  have HB : Hid (Base w2 (kbOf sec) (ktOf sec)) := ⟨HT.out.since HS2.out, keyOf_size _ _, keyOf_size _ _⟩
  clear hV hG hPh hN hH hPa
  generalize kbOf sec = kb at *
  generalize ktOf sec = kt at *
  go_wp2_with fail
  refine (all_any HV.out).mono ?_
  rintro e w4 ⟨x4, rfl, hx4, hs4⟩
  obtain ⟨xa, xn, xc, rfl, rfl⟩ := own_slice hx4
  have HX4 : Hid (w4.ownsRow w3.heap.size 9 1 (.slice xa 24 xc) 24 (texts S.X 24)) := hx4
  have HV4 : Hid (Vol w2 w4 vb db cb kb kt S v) := HV.out.go hs4
  clear hx4 hs4
  go_wp2_with fail
  refine (free_any HV4.out).mono ?_
  rintro e w5 ⟨rfl, hs5⟩
  have HX5 : Hid (w5.ownsRow w3.heap.size 9 1 (.slice xa 24 xc) 24 (texts S.X 24)) := ownsRow_since HX4.out hs5
  have HV5 : Hid (Vol w2 w5 vb db cb kb kt S v) := HV4.out.go hs5
  clear hs5 HX4 HV4
  go_wp2_with fail
  have HN3 : Hid (vb < w3.heap.size ∧ db < w3.heap.size ∧ cb < w3.heap.size) := ⟨HV.out.cel.lt (by omega), HV.out.dev.lt, HV.out.ctr.lt (by omega)⟩
  go_loopw [14] (fun i wr => ∃ (k : Nat) (v' : Value), k ≤ 24 ∧ i = .int .i64 k ∧ Vol w2 wr vb db cb kb kt S v' ∧ wr.ownsRow w3.heap.size 9 1 (.slice xa 24 xc) 24 (texts S.X 24)) (fun i _ => 24 - (intOf i).toNat)
  case atStart => exact ⟨0, v, by omega, rfl, HV5.out, HX5.out⟩
  case round =>
    obtain ⟨k, v', hk, rfl, hV, hX⟩ := hrel
    have HVk : Hid (Vol w2 wr vb db cb kb kt S v') := hV
    have HXk : Hid (wr.ownsRow w3.heap.size 9 1 (.slice xa 24 xc) 24 (texts S.X 24)) := hX
    clear hV hX
    by_cases hlt : k < 24
    · have hlt2 : (k : Int) < 24 := by omega
      obtain ⟨a', c', he', hcc⟩ := Sl.of_own (b := vb) (f := fun j => .string (S.X j)) HXk.out HN3.out.1 (fun j hj => brow_get 24 _ j hj)
      injection he' with e1 _ e3
      subst e1 e3
      obtain ⟨xk, xo, rfl, _, hc⟩ := hcc (by omega)
      have q0 := hc k hlt
      clear hcc hc
      have hwr := write_any HB.out 1000 HG.out.1.ok (by omega) (k : Int) (S.X k) HVk.out
      rw [write_same HG.out.1.on k hlt (HG.out.1.ok.txt k)] at hwr
      have HW : Hid (Calls Tryz.prog 15 #[.pointer (some ⟨vb, 0, none⟩), .int .i64 k, .string (S.X k)] wr fun e w' => e = .returned .nilIface ∧ Vto w2 wr w' vb db cb kb kt S v') := hwr
      clear hwr
      go_wp2_with fail
      refine HW.out.mono ?_
      rintro e w6 ⟨rfl, v6, hv6, hf6, _⟩
      have HR : Hid (Vol w2 w6 vb db cb kb kt S v6 ∧ w6.ownsRow w3.heap.size 9 1 (.slice (some ⟨xk, xo, none⟩) 24 xc) 24 (texts S.X 24)) := ⟨hv6, own_vto HN3.out HXk.out (by decide) HVk.out hf6⟩
      clear hv6 hf6 q0
      go_wp2_with fail
      go_roundw
      case rel => exact ⟨k + 1, v6, by omega, by go_num, HR.out.1, HR.out.2⟩
      case measure => simp [intOf]; omega
    · have hke : k = 24 := by omega
      subst hke
      go_wp2_with fail
      refine (free_any HVk.out).mono ?_
      rintro e w6 ⟨rfl, hs6⟩
      have HV6 : Hid (Vol w2 w6 vb db cb kb kt S v') := HVk.out.go hs6
      have HX6 : Hid (w6.ownsRow w3.heap.size 9 1 (.slice xa 24 xc) 24 (texts S.X 24)) := ownsRow_since HXk.out hs6
      clear hs6 HVk HXk
      go_wp2_with fail
      refine (all_any HV6.out).mono ?_
      rintro e w7 ⟨x7, rfl, hx7, hs7⟩
      obtain ⟨ya, yn, yc, rfl, rfl⟩ := own_slice hx7
      have HV7 : Hid (Vol w2 w7 vb db cb kb kt S v') := HV6.out.go hs7
      have HX7 : Hid (w7.ownsRow w3.heap.size 9 1 (.slice xa 24 xc) 24 (texts S.X 24)) := ownsRow_since HX6.out hs7
      have hp3 : 0 < w3.heap.size := by have := HN3.out.1; omega
      have hp6 : 0 < w6.heap.size := by have := HV6.out.dev.lt; omega
      have HEQ : Hid (Calls Tryz.prog 23 #[.slice ya 24 yc, .slice xa 24 xc] w7 fun e w' => e = .returned (.bool true) ∧ Since w7 w') := eq24_any _ _ S.X S.X w7 hp6 hp3 hx7 HX7.out (fun _ _ => rfl)
      clear hx7 hs7 hp3 hp6 HV6 HX6
      go_wp2_with fail
      refine HEQ.out.mono ?_
      rintro e w8 ⟨rfl, hs8⟩
      have HV8 : Hid (Vol w2 w8 vb db cb kb kt S v') := HV7.out.go hs8
      have HX8 : Hid (w8.ownsRow w3.heap.size 9 1 (.slice xa 24 xc) 24 (texts S.X 24)) := ownsRow_since HX7.out hs8
      clear hs8 HV7 HX7 HEQ
      by_cases hfr : S.free ≤ 20
      · have hfd : decide (S.free ≤ 20) = true := decide_eq_true hfr
        clear hfr
        go_wp2_with fail
        go_ret
        exact ⟨rfl, HS2.out.trans HV8.out.since⟩
      have hfd : decide (S.free ≤ 20) = false := decide_eq_false hfr
      have HFR : Hid (tot S.D < 108) := by
        show tot S.D < 108
        rw [free_tot HG.out.1.on.c16] at hfr
        omega
      clear hfr
      go_wp2_with fail
      refine (pick24_any _ _).mono ?_
      rintro e w' ⟨rfl, rfl⟩
      have hpk := pkN_lt 24 cell (by omega)
      generalize pkN 24 cell = i at *
      obtain ⟨b1, b2, b3, b4⟩ := write_big (kb := kb) (kt := kt) HG.out.1.on HFR.out i hpk t H80.out
      have hwr := write_any HB.out 1000 HG.out.1.ok (by omega) (i : Int) t HV8.out
      rw [b1] at hwr
      have hfree1 : (t = S.X i ∨ t = ⟨#[]⟩) → (S.write kb kt i t).2.free = S.free := fun q => by rw [free_tot b2, free_tot HG.out.1.on.c16, b3 q]
      have hfree2 : ¬ t = S.X i → ¬ t = ⟨#[]⟩ → (S.write kb kt i t).2.free = S.free - 1 := fun q1 q2 => by rw [free_tot b2, free_tot HG.out.1.on.c16, b4 q1 q2]; omega
      have HF1 : Hid ((t = S.X i ∨ t = ⟨#[]⟩) → (S.write kb kt i t).2.free = S.free) := hfree1
      have HF2 : Hid (¬ t = S.X i → ¬ t = ⟨#[]⟩ → (S.write kb kt i t).2.free = S.free - 1) := hfree2
      have HW : Hid (Calls Tryz.prog 15 #[.pointer (some ⟨vb, 0, none⟩), .int .i64 i, .string t] w' fun e w'' => e = .returned .nilIface ∧ Vto w2 w' w'' vb db cb kb kt (S.write kb kt i t).2 v') := hwr
      clear hwr hfree1 hfree2 b1 b2 b3 b4
      generalize (S.write kb kt i t).2 = S9 at *
      go_wp2_with fail
      refine HW.out.mono ?_
      rintro e w9 ⟨rfl, v9, hv9, hf9, _⟩
      have HV9 : Hid (Vol w2 w9 vb db cb kb kt S9 v9) := hv9
      have hX9 := own_vto HN3.out HX8.out (by decide) HV8.out hf9
      obtain ⟨a', c', he', hcc⟩ := Sl.of_own (b := vb) (f := fun j => .string (S.X j)) hX9 HN3.out.1 (fun j hj => brow_get 24 _ j hj)
      injection he' with e1 _ e3
      subst e1 e3
      obtain ⟨xk, xo, rfl, _, hc⟩ := hcc (by omega)
      have q0 := hc i hpk
      have hi24 : (i : Int) < 24 := by omega
      clear hcc hc hv9 hf9 hX9 HX8 HV8
      by_cases ht0 : t = ⟨#[]⟩
      · have hff := HF1.out (Or.inr ht0)
        subst ht0
        go_wp2_with fail
        refine (free_any HV9.out).mono ?_
        rintro e w10 ⟨rfl, hs10⟩
        rw [hff]
        go_wp2_with fail
        go_ret
        exact ⟨by simp, HS2.out.trans (HV9.out.go hs10).since⟩
      · obtain ⟨n1, n2⟩ := ne_nil ht0
        by_cases htx : t = S.X i
        · have hff := HF1.out (Or.inl htx)
          clear ht0
          subst htx
          go_wp2_with fail
          refine (free_any HV9.out).mono ?_
          rintro e w10 ⟨rfl, hs10⟩
          rw [hff]
          go_wp2_with fail
          go_ret
          exact ⟨by simp, HS2.out.trans (HV9.out.go hs10).since⟩
        · have hff := HF2.out htx ht0
          have n3 := Sl.neq_list htx
          clear ht0 htx
          go_wp2_with fail
          refine (free_any HV9.out).mono ?_
          rintro e w10 ⟨rfl, hs10⟩
          rw [hff]
          go_wp2_with fail
          go_ret
          have hw1 : wrap64 (S.free - 1) = S.free - 1 := by
            have h1 := tot_le HG.out.1.on.c16
            rw [free_tot HG.out.1.on.c16]
            unfold wrap64
            omega
          exact ⟨by simp [hw1], HS2.out.trans (HV9.out.go hs10).since⟩
end Vl
end Go.Proofs.YtifnhnfjelfddaaGreatDoor
