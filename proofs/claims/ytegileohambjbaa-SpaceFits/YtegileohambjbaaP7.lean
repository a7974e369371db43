/- The law SpaceFits walked. -/
import Derived.Test.YtegileohambjbaaP6
import Derived.BigFrame
import Derived.Deep.DeepCutAuto
namespace Go.Proofs.Ytegileohambjbaa
set_option linter.unusedSimpArgs false
set_option linter.unusedVariables false
set_option maxRecDepth 100000
namespace Sp
open Go.RowKit
open Tw (Tb tcell tval ccell tab_cel tab_cells tab_all idx_cell ln73)

set_option maxHeartbeats 8000000 in
theorem fits_go (w : World) (v u : Value) (nv nu : Nat) (f g : Nat → Int) (but : Int) (T : Tb) (hv : Ls w w.heap.size v nv f) (hu : Ls w w.heap.size u nu g) :
    Calls Try.prog 4 #[v, u, .int .i64 but, tval T] w fun e w' => e = .returned (.bool true) ∧ Since w w' := by
  have HV : Hid (Ls w w.heap.size v nv f) := hv
  have HU : Hid (Ls w w.heap.size u nu g) := hu
  obtain ⟨a, c, rfl, hc, _⟩ := hv
  obtain ⟨a2, c2, rfl, hc2, _⟩ := hu
  have HC0 : Hid (Cel (w.alloc (.cells (brow 73 (tcell T)).toArray 27)) w.heap.size 73 (tcell T)) := tab_cel T w
  have HS0 : Hid (Since w (w.alloc (.cells (brow 73 (tcell T)).toArray 27))) := (Since.refl w).alloc _
  unfold tval
  generalize hcs : (brow 73 (tcell T)).toArray = cs at *
  have HCS : Hid ((brow 73 (tcell T)).toArray = cs) := hcs
  clear hcs
  by_cases h20 : 20 < nv
  · have e1 : (20 : Int) < nv := by omega
    go_enter Try.func4, Try.ntmps4
    go_wp2_with fail
    go_ret
    exact ⟨rfl, HS0.out⟩
  have e1 : ¬ (20 : Int) < nv := by omega
  by_cases h20b : 20 < nu
  · have e2 : (20 : Int) < nu := by omega
    go_enter Try.func4, Try.ntmps4
    go_wp2_with fail
    go_ret
    exact ⟨rfl, HS0.out⟩
  have e2 : ¬ (20 : Int) < nu := by omega
  go_enter Try.func4, Try.ntmps4
  go_wp2_with fail
  refine (spaced_any _).mono ?_
  rintro e w1 ⟨rfl, h1⟩
  have HC1 : Hid (Cel w1 w.heap.size 73 (tcell T)) := HC0.out.since h1
  have HS1 : Hid (Since w w1) := HS0.out.trans h1
  clear h1 HC0 HS0
  go_wp2_with fail
  refine (open_any _ nv _ f but _ (HV.out.since HS1.out) (by omega)).mono ?_
  rintro e w1' ⟨⟨z, ok, rfl, hr⟩, hw⟩
  subst hw
  have HR : Hid (IsRoom nv f but z ok) := hr
  clear hr
  go_wp2_with fail
  refine (free_any _ nv _ f _ (HV.out.since HS1.out) (by omega)).mono ?_
  rintro e w1' ⟨rfl, hw⟩
  subst hw
  have HFR : Hid (0 ≤ freeTo f nv ∧ freeTo f nv ≤ 16 * nv) := freeTo_range f nv
  have HFB : Hid (freeTo f nv = freeBut f but nv + (if 0 ≤ but ∧ but < nv then lack (f but.toNat) else 0)) := freeTo_but f but nv
  have HFL : Hid (0 ≤ freeBut f but nv ∧ freeBut f but nv ≤ 16 * nv) := ⟨freeBut_nonneg f but nv, freeBut_le f but nv⟩
  generalize freeTo f nv = F at *
  go_upto_region 7 with fail
  go_cut [42] (fun s wx => s = .bool (decide (0 ≤ but ∧ but < nv)) ∧ wx = w1')
  case first =>
    by_cases hb : 0 ≤ but
    · by_cases hb2 : but < nv
      · go_wp2_with fail
        go_meet
        case rel => exact ⟨by rw [decide_eq_true (by omega)], rfl⟩
      · go_wp2_with fail
        go_meet
        case rel => exact ⟨by rw [decide_eq_false (by omega)], rfl⟩
    · go_wp2_with fail
      go_meet
      case rel => exact ⟨by rw [decide_eq_false (by omega)], rfl⟩
  case rest =>
  obtain ⟨rfl, rfl⟩ := hcut
  go_upto_if 42 with fail
  go_cut [11] (fun s wx => s = .int .i64 (freeBut f but nv) ∧ wx = wc)
  case first =>
    by_cases hb3 : 0 ≤ but ∧ but < nv
    · have hb := hb3.1
      have hb2 := hb3.2
      rw [decide_eq_true hb3]
      obtain ⟨bn, rfl⟩ : ∃ bn : Nat, but = bn := ⟨but.toNat, by omega⟩
      obtain ⟨k, o, rfl, hp⟩ := (HV.out.since HS1.out).piece bn (by omega)
      have HP : Hid (∀ c', 1 ≤ c' → Ls wc w.heap.size (.slice (some ⟨k, o + bn, none⟩) 1 c') 1 (fun _ => f bn)) := hp
      have HFC : Hid (F - lack (f bn) = freeBut f bn nv) := by
        have := HFB.out
        rw [if_pos ⟨hb, hb2⟩, Int.toNat_natCast] at this
        show _ = _
        omega
      have hlk := lack_range (f bn)
      have hF := HFR.out
      have hb4 : (bn : Int) + 1 ≤ c := by omega
      have hb5 : (bn : Int) ≤ c := by omega
      clear hp hb3
      go_wp2_with fail
      refine (free_any _ 1 _ (fun _ => f bn) _ (HP.out _ (by omega)) (by omega)).mono ?_
      rintro e w1' ⟨rfl, hw⟩
      subst hw
      rw [show freeTo (fun _ => f bn) 1 = lack (f bn) from Int.zero_add _]
      generalize lack (f bn) = L at *
      go_wp2_with fail
      go_meet
      case rel => exact ⟨by rw [HFC.out], rfl⟩
    · rw [decide_eq_false hb3]
      go_wp2_with fail
      go_meet
      case rel =>
        have := HFB.out
        rw [if_neg hb3, Int.add_zero] at this
        exact ⟨by rw [this], rfl⟩
  case rest =>
  obtain ⟨rfl, rfl⟩ := hcut
  rename_i wd
  clear HFR HFB
  go_upto_region 9 with fail
  go_cut [79] (fun s wx => s = .bool false ∧ wx = wc)
  case first =>
    have hFL := HFL.out
    cases ok with
    | true =>
      have hpos : 0 < freeBut f but nv := of_decide_eq_true HR.out.free.symm
      rcases HR.out with ⟨_, i, hi, rfl, hb, hf, _⟩ | ⟨h0, _⟩
      · obtain ⟨k, o, rfl, hk, hcell⟩ := (HV.out.since HS1.out).at_ i hi
        have hi2 : (i : Int) < nv := by omega
        have HB : Hid (((i : Int) == but) = false) := by show _ = _; simp [hb]
        have HF3 : Hid (f i < 16) := hf
        generalize freeBut f but nv = F2 at *
        go_wp2_with fail
        go_meet
        case rel => exact ⟨by rw [decide_eq_false (p := (i : Int) < 0) (by omega), decide_eq_false (p := nv ≤ i) (by omega), decide_eq_false (p := 16 ≤ f i) (by have := HF3.out; omega), HB.out]; rfl, rfl⟩
      · cases h0
    | false =>
      have hpos : ¬ 0 < freeBut f but nv := of_decide_eq_false HR.out.free.symm
      generalize freeBut f but nv = F2 at *
      go_wp2_with fail
      go_meet
      case rel => exact ⟨rfl, rfl⟩
  case rest =>
  obtain ⟨rfl, rfl⟩ := hcut
  clear HR HFL
  go_wp2_with fail
  refine (victim_any _ _ nv nu _ f g _ (HV.out.since HS1.out) (HU.out.since HS1.out) (by omega) (by omega)).mono ?_
  rintro e w2 ⟨⟨vz, full, rfl, hr⟩, h2⟩
  have HR : Hid (IsVic nv nu f g vz full) := hr
  have HC2 : Hid (Cel w2 w.heap.size 73 (tcell T)) := HC1.out.since h2
  have HS2 : Hid (Since w w2) := HS1.out.trans h2
  clear hr h2 HC1 HS1
  go_wp2_with fail
  go_loopw [14] (fun i wr => ∃ k : Nat, k ≤ 20 ∧ i = .int .i64 (k : Int) ∧ Cel wr w.heap.size 73 (tcell T) ∧ Since w wr) (fun i _ => 20 - (intOf i).toNat)
  case atStart => exact ⟨0, by omega, rfl, HC2.out, HS2.out⟩
  case round =>
    clear HC2 HS2
    obtain ⟨k, hk, rfl, hcc, hss⟩ := hrel
    have HC : Hid (Cel wr w.heap.size 73 (tcell T)) := hcc
    have HS : Hid (Since w wr) := hss
    clear hcc hss
    go_upto_region 13 with fail
    go_cut [95] (fun s wx => s = .bool (decide (k < nv ∧ k < nu)) ∧ wx = wr)
    case first =>
      by_cases h1 : (k : Int) < nv
      · by_cases h2 : (k : Int) < nu
        · go_wp2_with fail
          go_meet
          case rel => exact ⟨by rw [decide_eq_true (by omega)], rfl⟩
        · go_wp2_with fail
          go_meet
          case rel => exact ⟨by rw [decide_eq_false (by omega)], rfl⟩
      · go_wp2_with fail
        go_meet
        case rel => exact ⟨by rw [decide_eq_false (by omega)], rfl⟩
    case rest =>
    obtain ⟨rfl, rfl⟩ := hcut
    by_cases hin : k < nv ∧ k < nu
    · rw [decide_eq_true hin]
      have hk1 : (k : Int) < nv := by omega
      have hk2 : (k : Int) < nu := by omega
      obtain ⟨lk, lo, rfl, hlk, q⟩ := (HV.out.since HS.out).at_ k hin.1
      by_cases h16 : 16 ≤ f k
      · have h16d : decide (16 ≤ f k) = true := decide_eq_true h16
        obtain ⟨v, hfull, hvz, hv1, hv2, hle⟩ : ∃ v : Nat, full = true ∧ vz = v ∧ v < nv ∧ v < nu ∧ (g v < g k ∨ (g v = g k ∧ v ≤ k)) := by
          rcases HR.out with ⟨h1, v, h2, _, h3, h4⟩ | ⟨_, _, h4⟩
          · exact ⟨v, h1, h2, h3.1, h3.2.1, h4 k (by omega) ⟨hin.1, hin.2, h16⟩⟩
          · exact absurd ⟨hin.1, hin.2, h16⟩ (h4 k (by omega))
        subst hfull
        subst hvz
        have hv3 : (v : Int) < nu := by omega
        obtain ⟨mk, mo, rfl, hmk, q2⟩ := (HU.out.since HS.out).at_ k hin.2
        have q3 : wc.cell? ⟨mk, mo + v, none⟩ = some (.int .i64 (g v)) := by
          obtain ⟨mk', mo', he, _, q3⟩ := (HU.out.since HS.out).at_ v hv2
          injection he with he
          injection he with e1 e2
          subst e1 e2
          exact q3
        have hlt : decide (g k < g v) = false := decide_eq_false (by omega)
        clear h16
        by_cases he : g v = g k
        · have hvk : decide ((k : Int) < v) = false := decide_eq_false (by omega)
          have hvk2 : decide (k < v) = false := decide_eq_false (by omega)
          have hvk3 : v ≤ k := by omega
          rw [he] at hlt q3
          have hlt3 : (g k == g k) = true := by simp
          clear hle he
          go_wp2_with fail
          go_quiet (fail)
          go_wp2_with fail
          go_roundw
          case rel => exact ⟨k + 1, by omega, by go_num, HC.out.since ((Since.refl _).drewN _), HS.out.drewN _⟩
          case measure => simp [intOf]; omega
        · have heq : (g k == g v) = false := by simp; omega
          clear hle he
          go_wp2_with fail
          go_quiet (fail)
          go_wp2_with fail
          go_roundw
          case rel => exact ⟨k + 1, by omega, by go_num, HC.out.since ((Since.refl _).drewN _), HS.out.drewN _⟩
          case measure => simp [intOf]; omega
      · have h16d : decide (16 ≤ f k) = false := decide_eq_false h16
        clear h16
        go_wp2_with fail
        go_quiet (fail)
        go_wp2_with fail
        go_roundw
        case rel => exact ⟨k + 1, by omega, by go_num, HC.out.since ((Since.refl _).drewN _), HS.out.drewN _⟩
        case measure => simp [intOf]; omega
    · rw [decide_eq_false hin]
      go_upto_region 17 with fail
      go_cut [147] (fun s wx => s = .bool false ∧ wx = wc)
      case first =>
        rcases HR.out with ⟨rfl, v, rfl, _, h3, _⟩ | ⟨rfl, rfl, _⟩
        · obtain ⟨lk, lo, rfl, hlk, q⟩ := (HV.out.since HS.out).at_ v h3.1
          have h1 : ¬ (nv : Int) ≤ v := by have := h3.1; omega
          have h2 : ¬ f v < 16 := by have := h3.2.2; omega
          clear h3
          go_wp2_with fail
          go_meet
          case rel => exact ⟨rfl, rfl⟩
        · go_wp2_with fail
          go_meet
          case rel => exact ⟨rfl, rfl⟩
      case rest =>
      obtain ⟨rfl, rfl⟩ := hcut
      clear HR HV HU
      have hR := tab_all HC.out
      have hL := ln73 T
      go_wp2_with (refine wpList_load_mid (by rfl) 27 _ (by rfl) w.heap.size 0 (by rfl) _ _ hR Try.underlying27 (by rfl) (by rw [hL]; kernel_rfl) ?_)
      refine (liveOk T _).mono ?_
      rintro e w5 ⟨x1, rfl, l1, h5⟩
      have L1 : Hid (Ls w5 w5.heap.size x1 8 (liveF T)) := l1
      obtain ⟨la, lc, rfl, hlc, hla⟩ := l1
      obtain ⟨lk, lo, rfl, _, _⟩ := hla (by omega)
      have HC5 : Hid (Cel w5 w.heap.size 73 (tcell T)) := HC.out.since h5
      have HS5 : Hid (Since w w5) := HS.out.trans h5
      clear h5 hR hla HC HS
      go_wp2_with fail
      go_loopw [16] (fun i wr => ∃ z : Nat, z ≤ 8 ∧ i = .int .i64 (z : Int) ∧ Cel wr w.heap.size 73 (tcell T) ∧ Since w wr ∧ Ls wr w5.heap.size (.slice (some ⟨lk, lo, none⟩) 8 lc) 8 (liveF T)) (fun i _ => 8 - (intOf i).toNat)
      case atStart => exact ⟨0, by omega, rfl, HC5.out, HS5.out, L1.out⟩
      case round =>
        clear HC5 HS5 L1
        obtain ⟨z, hz, rfl, hcc, hss, hll⟩ := hrel
        have HC6 : Hid (Cel wr w.heap.size 73 (tcell T)) := hcc
        have HS6 : Hid (Since w wr) := hss
        have HL6 : Hid (Ls wr w5.heap.size (.slice (some ⟨lk, lo, none⟩) 8 lc) 8 (liveF T)) := hll
        clear hcc hss hll
        by_cases hz8 : z < 8
        · have hz9 : (z : Int) < 8 := by omega
          have HM : Hid ((inI T (z : Int) 24).length ≤ 24) := inI_len T (z : Int) 24
          have HIN : Hid (∀ W, Calls Try.prog 15 #[.agg (brow 73 (tcell T)).toArray, .int .i64 (z : Int)] W fun e w' => ∃ x, e = .returned x ∧ (∃ a c, x = .slice a (inI T (z : Int) 24).length c ∧ (inI T (z : Int) 24).length ≤ c) ∧ Ls w' w'.heap.size x (inI T (z : Int) 24).length (inF T z) ∧ Since W w') := fun W => (inOk T (z : Int) W).mono fun e w' ⟨x, h1, h2, h3⟩ => ⟨x, h1, ⟨_, _, h2.choose_spec.choose_spec.1, h2.choose_spec.choose_spec.2.1⟩, h2, h3⟩
          have HRI : Hid (∀ i, i + 1 < (inI T (z : Int) 24).length → inF T z i ≤ inF T z (i + 1)) := fun i hi => inF_rise T z i hi
          have HSZ : Hid (∀ W, Ls W w5.heap.size (.slice (some ⟨lk, lo, none⟩) 8 lc) 8 (liveF T) → W.cell? ⟨lk, lo + z, none⟩ = some (.int .i64 ((inI T (z : Int) 24).length : Int))) := fun W h => by
            obtain ⟨k', o', he, _, hq⟩ := h.at_ z hz8
            injection he with he
            injection he with e1 e2
            subst e1 e2
            exact hq
          generalize (inI T (z : Int) 24).length = m at *
          have hm := HM.out
          go_wp2_with fail
          have HC6d : Hid (Cel wr.drew w.heap.size 73 (tcell T)) := HC6.out.since (Since.refl _).drew
          have HS6d : Hid (Since w wr.drew) := HS6.out.drew
          have HL6d : Hid (Ls wr.drew w5.heap.size (.slice (some ⟨lk, lo, none⟩) 8 lc) 8 (liveF T)) := HL6.out.since (Since.refl _).drew
          clear HC6 HS6 HL6
          have HC6 : Hid (Cel wr.drew w.heap.size 73 (tcell T)) := HC6d.out
          have HS6 : Hid (Since w wr.drew) := HS6d.out
          have HL6 : Hid (Ls wr.drew w5.heap.size (.slice (some ⟨lk, lo, none⟩) 8 lc) 8 (liveF T)) := HL6d.out
          clear HC6d HS6d HL6d
          have hS6 : (fun W : World => W.rangeAt w.heap.size 0 (brow 73 (tcell T)) ∧ W.cell? ⟨lk, lo + z, none⟩ = some (.int .i64 (m : Int))) wr.drew := ⟨tab_all HC6.out, HSZ.out wr.drew HL6.out⟩
          refine wp_region_held (S := fun W : World => W.rangeAt w.heap.size 0 (brow 73 (tcell T)) ∧ W.cell? ⟨lk, lo + z, none⟩ = some (.int .i64 (m : Int))) (by kernel_rfl) ?_
          refine Tw.takeD (i := 0) (d := 154) (v := ?w0) rfl rfl (by kernel_rfl) (by kernel_rfl) (by kernel_rfl) (fun _ _ _ h => h) (Or.inl ⟨by rfl, ?hw0⟩) hS6 ?q0
          case hw0 => (intro w hSw; obtain ⟨s0, s1⟩ := hSw; go_simp; try with_reducible rfl)
          simp only [Act.put, List.setIfInBounds_toArray, List.set_cons_zero, List.set_cons_succ]
          refine Tw.takeD (i := 1) (d := 155) (v := ?w1) rfl rfl (by kernel_rfl) (by kernel_rfl) (by kernel_rfl) (fun _ _ _ h => h) (Or.inl ⟨by rfl, ?hw1⟩) hS6 ?q1
          case hw1 => (intro w hSw; obtain ⟨s0, s1⟩ := hSw; go_simp; try with_reducible rfl)
          simp only [Act.put, List.setIfInBounds_toArray, List.set_cons_zero, List.set_cons_succ]
          refine Tw.takeD (i := 2) (d := 156) (v := ?w2) rfl rfl (by kernel_rfl) (by kernel_rfl) (by kernel_rfl) (fun _ _ _ h => h) (Or.inl ⟨by rfl, ?hw2⟩) hS6 ?q2
          case hw2 => (intro w hSw; obtain ⟨s0, s1⟩ := hSw; go_simp; try with_reducible rfl)
          simp only [Act.put, List.setIfInBounds_toArray, List.set_cons_zero, List.set_cons_succ]
          refine Tw.takeD (i := 3) (d := 157) (v := ?w3) rfl rfl (by kernel_rfl) (by kernel_rfl) (by kernel_rfl) (fun _ _ _ h => h) (Or.inl ⟨by rfl, ?hw3⟩) hS6 ?q3
          case hw3 => (intro w hSw; obtain ⟨s0, s1⟩ := hSw; go_simp; try with_reducible rfl)
          simp only [Act.put, List.setIfInBounds_toArray, List.set_cons_zero, List.set_cons_succ]
          refine Tw.takeD (i := 4) (d := 158) (v := .agg (brow 73 (tcell T)).toArray) rfl rfl (by kernel_rfl) (by kernel_rfl) (by kernel_rfl) (fun _ _ _ h => h) (yieldsIf_load_mid (Tw.wanted_by rfl rfl rfl rfl) 27 _ (by rfl) w.heap.size 0 (by rfl) _ _ (fun w hSw => hSw.1) Try.underlying27 (by rfl) (by rw [ln73]; kernel_rfl)) hS6 ?q4
          simp only [Act.put, List.setIfInBounds_toArray, List.set_cons_zero, List.set_cons_succ]
          refine Tw.takeD (i := 5) (d := 159) (v := ?w5) rfl rfl (by kernel_rfl) (by kernel_rfl) (by kernel_rfl) (fun _ _ _ h => h) (Or.inl ⟨Tw.wanted_by rfl rfl rfl rfl, ?hw5⟩) hS6 ?q5
          case hw5 => (intro w hSw; obtain ⟨s0, s1⟩ := hSw; go_simp; try with_reducible rfl)
          simp only [Act.put, List.setIfInBounds_toArray, List.set_cons_zero, List.set_cons_succ]
          refine Tw.takeD (i := 8) (d := 162) (v := ?w8) rfl rfl (by kernel_rfl) (by kernel_rfl) (by kernel_rfl) (fun _ _ _ h => h) (Or.inl ⟨Tw.wanted_by rfl rfl rfl rfl, ?hw8⟩) hS6 ?q8
          case hw8 => (intro w hSw; obtain ⟨s0, s1⟩ := hSw; go_simp; try with_reducible rfl)
          simp only [Act.put, List.setIfInBounds_toArray, List.set_cons_zero, List.set_cons_succ]
          refine Tw.takeD (i := 9) (d := 163) (v := ?w9) rfl rfl (by kernel_rfl) (by kernel_rfl) (by kernel_rfl) (fun _ _ _ h => h) (Or.inl ⟨Tw.wanted_by rfl rfl rfl rfl, ?hw9⟩) hS6 ?q9
          case hw9 => (intro w hSw; obtain ⟨s0, s1⟩ := hSw; go_simp; try with_reducible rfl)
          simp only [Act.put, List.setIfInBounds_toArray, List.set_cons_zero, List.set_cons_succ]
          refine Tw.takeD (i := 10) (d := 164) (v := ?w10) rfl rfl (by kernel_rfl) (by kernel_rfl) (by kernel_rfl) (fun _ _ _ h => h) (Or.inl ⟨Tw.wanted_by rfl rfl rfl rfl, ?hw10⟩) hS6 ?q10
          case hw10 => (intro w hSw; obtain ⟨s0, s1⟩ := hSw; go_simp; try with_reducible rfl)
          simp only [Act.put, List.setIfInBounds_toArray, List.set_cons_zero, List.set_cons_succ]
          refine Tw.takeD (i := 11) (d := 165) (v := ?w11) rfl rfl (by kernel_rfl) (by kernel_rfl) (by kernel_rfl) (fun _ _ _ h => h) (Or.inl ⟨Tw.wanted_by rfl rfl rfl rfl, ?hw11⟩) hS6 ?q11
          case hw11 => (intro w hSw; obtain ⟨s0, s1⟩ := hSw; go_simp; try with_reducible rfl)
          simp only [Act.put, List.setIfInBounds_toArray, List.set_cons_zero, List.set_cons_succ]
          refine wpAnyH_ready (rs := [6]) (by kernel_rfl) (by simp) (AllReadyH.cons rfl (fun K hK => ?_) AllReadyH.nil)
          rw [if_pos (Tw.wanted_by rfl rfl rfl rfl)]
          go_simp
          refine (HIN.out _).mono ?_
          rintro e w7 ⟨x3, rfl, ⟨a3, c3, rfl, hc3⟩, l3, h7⟩
          simp only []
          have HC7 : Hid (Cel w7 w.heap.size 73 (tcell T)) := HC6.out.since h7
          have HS7 : Hid (Since w w7) := HS6.out.trans h7
          have HL7 : Hid (Ls w7 w5.heap.size (.slice (some ⟨lk, lo, none⟩) 8 lc) 8 (liveF T)) := HL6.out.since h7
          clear l3
          have hS7 : (fun W : World => W.rangeAt w.heap.size 0 (brow 73 (tcell T)) ∧ W.cell? ⟨lk, lo + z, none⟩ = some (.int .i64 (m : Int))) w7 := ⟨tab_all HC7.out, by have hq := HSZ.out w7 HL7.out; exact hq⟩
          clear h7
          refine hK.out _ _ hS7 (fun _ => ?_)
          clear hK K
          (try simp only [Act.put, List.setIfInBounds_toArray, List.set_cons_zero, List.set_cons_succ])
          refine Tw.takeD (i := 7) (d := 161) (v := ?w7) rfl rfl (by kernel_rfl) (by kernel_rfl) (by kernel_rfl) (fun _ _ _ h => h) (Or.inl ⟨Tw.wanted_by rfl rfl rfl rfl, ?hw7⟩) hS7 ?q7
          case hw7 => (intro w hSw; obtain ⟨s0, s1⟩ := hSw; go_simp; try with_reducible rfl)
          simp only [Act.put, List.setIfInBounds_toArray, List.set_cons_zero, List.set_cons_succ]
          refine Tw.takeD (i := 12) (d := 166) (v := ?w12) rfl rfl (by kernel_rfl) (by kernel_rfl) (by kernel_rfl) (fun _ _ _ h => h) (Or.inl ⟨Tw.wanted_by rfl rfl rfl rfl, ?hw12⟩) hS7 ?q12
          case hw12 => (intro w hSw; obtain ⟨s0, s1⟩ := hSw; go_simp; try with_reducible rfl)
          simp only [Act.put, List.setIfInBounds_toArray, List.set_cons_zero, List.set_cons_succ]
          refine Tw.takeD (i := 13) (d := 167) (v := ?w13) rfl rfl (by kernel_rfl) (by kernel_rfl) (by kernel_rfl) (fun _ _ _ h => h) (Or.inl ⟨by rfl, ?hw13⟩) hS7 ?q13
          case hw13 => (intro w hSw; obtain ⟨s0, s1⟩ := hSw; go_simp; try with_reducible rfl)
          simp only [Act.put, List.setIfInBounds_toArray, List.set_cons_zero, List.set_cons_succ]
          refine Tw.takeD (i := 14) (d := 168) (v := ?w14) rfl rfl (by kernel_rfl) (by kernel_rfl) (by kernel_rfl) (fun _ _ _ h => h) (Or.inl ⟨by rfl, ?hw14⟩) hS7 ?q14
          case hw14 => (intro w hSw; obtain ⟨s0, s1⟩ := hSw; go_simp; try with_reducible rfl)
          simp only [Act.put, List.setIfInBounds_toArray, List.set_cons_zero, List.set_cons_succ]
          refine Tw.takeD (i := 15) (d := 169) (v := .agg (brow 73 (tcell T)).toArray) rfl rfl (by kernel_rfl) (by kernel_rfl) (by kernel_rfl) (fun _ _ _ h => h) (yieldsIf_load_mid (Tw.wanted_by rfl rfl rfl rfl) 27 _ (by rfl) w.heap.size 0 (by rfl) _ _ (fun w hSw => hSw.1) Try.underlying27 (by rfl) (by rw [ln73]; kernel_rfl)) hS7 ?q15
          simp only [Act.put, List.setIfInBounds_toArray, List.set_cons_zero, List.set_cons_succ]
          refine Tw.takeD (i := 16) (d := 170) (v := ?w16) rfl rfl (by kernel_rfl) (by kernel_rfl) (by kernel_rfl) (fun _ _ _ h => h) (Or.inl ⟨Tw.wanted_by rfl rfl rfl rfl, ?hw16⟩) hS7 ?q16
          case hw16 => (intro w hSw; obtain ⟨s0, s1⟩ := hSw; go_simp; try with_reducible rfl)
          simp only [Act.put, List.setIfInBounds_toArray, List.set_cons_zero, List.set_cons_succ]
          refine wpAnyH_ready (rs := [17]) (by kernel_rfl) (by simp) (AllReadyH.cons rfl (fun K hK => ?_) AllReadyH.nil)
          rw [if_pos (Tw.wanted_by rfl rfl rfl rfl)]
          go_simp
          refine (HIN.out _).mono ?_
          rintro e w8 ⟨x4, rfl, ⟨a4, c4, rfl, hc4⟩, l4, h8⟩
          simp only []
          have HC8 : Hid (Cel w8 w.heap.size 73 (tcell T)) := HC7.out.since h8
          have HS8 : Hid (Since w w8) := HS7.out.trans h8
          have HL8 : Hid (Ls w8 w5.heap.size (.slice (some ⟨lk, lo, none⟩) 8 lc) 8 (liveF T)) := HL7.out.since h8
          have L4 : Hid (Ls w8 w8.heap.size (.slice a4 m c4) m (inF T z)) := l4
          clear l4
          have hS8 : (fun W : World => W.rangeAt w.heap.size 0 (brow 73 (tcell T)) ∧ W.cell? ⟨lk, lo + z, none⟩ = some (.int .i64 (m : Int))) w8 := ⟨tab_all HC8.out, by have hq := HSZ.out w8 HL8.out; exact hq⟩
          clear h8
          refine hK.out _ _ hS8 (fun _ => ?_)
          clear hK K
          (try simp only [Act.put, List.setIfInBounds_toArray, List.set_cons_zero, List.set_cons_succ])
          refine wpAnyH_ready (rs := [18]) (by kernel_rfl) (by simp) (AllReadyH.cons rfl (fun K hK => ?_) AllReadyH.nil)
          rw [if_pos (Tw.wanted_by rfl rfl rfl rfl)]
          go_simp
          refine (sorted_any _ m _ (inF T z) _ L4.out (by omega) HRI.out).mono ?_
          rintro e w9 ⟨rfl, h9⟩
          simp only []
          have HC9 : Hid (Cel w9 w.heap.size 73 (tcell T)) := HC8.out.since h9
          have HS9 : Hid (Since w w9) := HS8.out.trans h9
          have HL9 : Hid (Ls w9 w5.heap.size (.slice (some ⟨lk, lo, none⟩) 8 lc) 8 (liveF T)) := HL8.out.since h9
          have hS9 : (fun W : World => W.rangeAt w.heap.size 0 (brow 73 (tcell T)) ∧ W.cell? ⟨lk, lo + z, none⟩ = some (.int .i64 (m : Int))) w9 := ⟨tab_all HC9.out, by have hq := HSZ.out w9 HL9.out; exact hq⟩
          clear h9
          refine hK.out _ _ hS9 (fun _ => ?_)
          clear hK K
          (try simp only [Act.put, List.setIfInBounds_toArray, List.set_cons_zero, List.set_cons_succ])
          refine Tw.takeD (i := 19) (d := 173) (v := ?w19) rfl rfl (by kernel_rfl) (by kernel_rfl) (by kernel_rfl) (fun _ _ _ h => h) (Or.inl ⟨Tw.wanted_by rfl rfl rfl rfl, ?hw19⟩) hS9 ?q19
          case hw19 => (intro w hSw; obtain ⟨s0, s1⟩ := hSw; go_simp; try with_reducible rfl)
          simp only [Act.put, List.setIfInBounds_toArray, List.set_cons_zero, List.set_cons_succ]
          refine Tw.takeD (i := 20) (d := 174) (v := ?w20) rfl rfl (by kernel_rfl) (by kernel_rfl) (by kernel_rfl) (fun _ _ _ h => h) (Or.inl ⟨by rfl, ?hw20⟩) hS9 ?q20
          case hw20 => (intro w hSw; obtain ⟨s0, s1⟩ := hSw; go_simp; try with_reducible rfl)
          simp only [Act.put, List.setIfInBounds_toArray, List.set_cons_zero, List.set_cons_succ]
          refine wpAnyH_done (by kernel_rfl) ?_ _

          go_wp2_with fail
          go_roundw
          case rel => exact ⟨z + 1, by omega, by go_num, HC9.out, HS9.out, HL9.out⟩
          case measure => simp [intOf]; omega
        · have hze : z = 8 := by omega
          subst hze
          go_wp2_with fail
          go_ret
          exact ⟨rfl, HS6.out⟩
end Sp
end Go.Proofs.Ytegileohambjbaa
